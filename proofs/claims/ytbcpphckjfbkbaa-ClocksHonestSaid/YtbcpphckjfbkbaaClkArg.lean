/- Moves and lists of moves that came in, opened to their cells. -/
import Derived.Test.YtbcpphckjfbkbaaClkW4
import Derived.Test.YtbcpphckjfbkbaaRows
namespace Go.Proofs.Ytbcpphckjfbkbaa
open Go.RowKit Go.ChangeShapes Go.WideShapes Go.ChangeAt Go.Deep
set_option linter.unusedVariables false
set_option linter.unusedSimpArgs false
set_option maxRecDepth 100000
theorem c1_int : Try.prog.cellsOf 3 = 1 := by kernel_rfl
theorem c1_ints : Try.prog.cellsOf 27 = 1 := by kernel_rfl
theorem c1_mv : Try.prog.cellsOf 37 = 2 := by kernel_rfl
theorem in64_of {k : Int} (hk : (Lit.int .i64 k).wf = true) : -9223372036854775808 ≤ k ∧ k ≤ 9223372036854775807 := by simpa [Lit.wf, IntKind.min, IntKind.max, IntKind.signed, IntKind.bits] using hk
theorem open_rowI {H : Type} {enc : TypeId × Value → H} {W : World} {n : Nat} {cs : List Value} {d : DataW H} {pl : List MemPlace}
    (h : DataW.trod enc Try.prog W 0 (fun _ => true) true n 27 cs = some (d, pl)) (hw : ∀ m ∈ d.weights Try.prog 27, m ≤ reachBytes) :
    ∃ A c xs, cs = [.slice A (List.length xs) c] ∧ IntsAt W A xs ∧ xs.length ≤ c ∧ c * 8 ≤ 140737488351232 ∧ In64 xs := by
  rcases open_slice Try.underlying27 h with ⟨hcs, hx⟩ | ⟨a, len', cap', m, n, D, Pl, hcs, _, hl, hm, hmm, hx, hi⟩
  · exact ⟨none, 0, [], hcs, IntsAt.nil _ _, Nat.le_refl _, by omega, fun x hx => by cases hx⟩
  · simp only [Prod.mk.injEq] at hx
    obtain ⟨rfl, _⟩ := hx
    have hmc : m = cap' := by simpa using hmm
    subst hmc
    have hcap := hw ((((List.range len').map D).length + ((List.range (m - len')).map fun j => D (len' + j)).length) * Try.prog.bytesOf 3) (by simp [DataW.weights, Try.underlying27])
    rw [bytes_int] at hcap
    simp only [List.length_map, List.length_range] at hcap
    obtain ⟨xs, hxl, hxs⟩ := list_of (Q := fun i (x : Int) => W.cell? (a.add i) = some (.int .i64 x) ∧ (-9223372036854775808 ≤ x ∧ x ≤ 9223372036854775807)) len' (fun i hil => by
      obtain ⟨cs, hc, ht'⟩ := hi i (by omega)
      rw [cells_int, Nat.mul_one] at hc
      obtain ⟨k, e, _, hk⟩ := DataW.trod_int Try.underlying3 ht'
      obtain ⟨_, hcl, hat⟩ := World.cells?_some hc
      have h0 := hat 0 (by decide)
      rw [e, add_none] at h0
      exact ⟨k, h0, in64_of hk⟩)
    have hreach : reachBytes = 140737488351232 := rfl
    refine ⟨some a, m, xs, by rw [hxl]; exact hcs, fun h0 => ?_, by omega, by omega, fun x hx => ?_⟩
    case refine_2 =>
      obtain ⟨i, hi', e⟩ := List.getElem_of_mem hx
      exact (hxs i x (by rw [List.getElem?_eq_getElem hi', e])).2
    obtain ⟨b, o, sp⟩ := a
    have c0 := (hxs 0 xs[0] (List.getElem?_eq_getElem h0)).1
    have hsp : sp = none := by simpa [Addr.add] using World.cell?_spot c0
    subst hsp
    have hlt : b < W.heap.size := by
      have := World.block_lt_of_cell? W _ c0
      simpa [Addr.add] using this
    refine ⟨b, o, rfl, hlt, fun j x hx => ?_⟩
    have c1 := (hxs j x hx).1
    rw [Addr.add_lit] at c1
    exact c1
/-- A tick that came in. -/
structure Mv where
  d : Int
  bs : List Int
instance instMv : Inhabited Mv := ⟨⟨0, []⟩⟩
structure CameM (w : World) (A : Option Addr) (c : Nat) (x : Mv) : Prop where
  ints : IntsAt w A x.bs
  le : x.bs.length ≤ c
  cap : c * 8 ≤ 140737488351232
  d : -9223372036854775808 ≤ x.d ∧ x.d ≤ 9223372036854775807
  bs : In64 x.bs
theorem CameM.below {w w' : World} {A : Option Addr} {c : Nat} {x : Mv} (h : CameM w A c x) (hb : Below w.heap.size w w') : CameM w' A c x := ⟨h.ints.below hb, h.le, h.cap, h.d, h.bs⟩
set_option maxHeartbeats 4000000 in
theorem mv_vals {H : Type} {enc : TypeId × Value → H} {W : World} {n : Nat} {d : DataW H} {pl : List MemPlace} {cs : List Value}
    (hcl : cs.length = 2) (h : DataW.trod enc Try.prog W 0 (fun _ => true) true n 37 cs = some (d, pl)) (hw : ∀ m ∈ d.weights Try.prog 37, m ≤ reachBytes) :
    ∃ (x : Mv) (A : Option Addr) (c : Nat), cs = [.int .i64 x.d, .slice A x.bs.length c] ∧ CameM W A c x := by
  obtain ⟨ys, n', _, hy, _, hyl, hf⟩ := DataW.trod_struct Try.underlying37 h
  match cs, hcl with
  | [v0, v1], _ =>
    match ys, hyl with
    | [y0, y1], _ =>
      simp only [Prod.mk.injEq, List.map_cons, List.map_nil] at hy
      obtain ⟨rfl, _⟩ := hy
      have f0 : DataW.trod enc Try.prog W 0 (fun _ => true) true n' 3 [v0] = some y0 := by
        have h := hf 0 _ rfl
        have e : List.take (Try.prog.cellsOf 3) (List.drop 0 [v0, v1]) = [v0] := by rw [c1_int]; rfl
        exact (congrArg (DataW.trod enc Try.prog W 0 (fun _ => true) true n' 3) e.symm).trans h
      have f1 : DataW.trod enc Try.prog W 0 (fun _ => true) true n' 27 [v1] = some y1 := by
        have h := hf 1 _ rfl
        have e : List.take (Try.prog.cellsOf 27) (List.drop 1 [v0, v1]) = [v1] := by rw [c1_ints]; rfl
        exact (congrArg (DataW.trod enc Try.prog W 0 (fun _ => true) true n' 27) e.symm).trans h
      clear hf h
      obtain ⟨x0, e0, g0, h0⟩ := DataW.trod_int Try.underlying3 f0
      obtain ⟨A, c, xs, e1, hB, hle, hcap, hi⟩ := open_rowI (d := y1.1) (pl := y1.2) f1 (fun m hm => hw m (by
        simp only [DataW.weights, Try.underlying37]
        exact DataW.weights_mem_each (j := 1) rfl rfl _ hm))
      injection e0 with e0
      injection e1 with e1
      subst e0 e1
      exact ⟨⟨x0, xs⟩, A, c, rfl, ⟨hB, hle, hcap, in64_of h0, hi⟩⟩
/-- A move that came in. -/
theorem open_move {H : Type} {enc : TypeId × Value → H} {W : World} {base : Nat} {v : Value} {d : DataW H} {p : List MemPlace} {ts : List TypeId} {ds : List (DataW H)} {j : Nat}
    (hv : Value.okWide Try.prog W .any base 37 v) (h : DataW.Trod enc Try.prog W 0 (fun _ => true) true 37 v d p)
    (hw : (DataW.weightsEach Try.prog ts ds).all (· ≤ reachBytes) = true) (ht : ts[j]? = some 37) (hd : ds[j]? = some d) :
    ∃ (A : Option Addr) (c : Nat) (x : Mv), v = .agg #[.int .i64 x.d, .slice A x.bs.length c] ∧ CameM W A c x := by
  obtain ⟨cs, rfl, hc⟩ := okWide_struct Try.underlying37 hv
  obtain ⟨fuel, hf⟩ := h
  rw [c1_mv] at hc
  obtain ⟨x, A, c, e, hm⟩ := mv_vals (cs := (Value.agg cs).cells.toList) (by simpa [Value.cells] using hc) hf (fun x hx => by
    have := List.all_eq_true.1 hw _ (DataW.weights_mem_each ht hd _ hx)
    simpa using this)
  refine ⟨A, c, x, ?_, hm⟩
  have h1 : cs.toList = [.int .i64 x.d, .slice A x.bs.length c] := by simpa [Value.cells] using e
  rw [show cs = #[.int .i64 x.d, .slice A x.bs.length c] from Array.toList_inj.1 h1]
theorem bulk_one {H : Type} (d : DataW H) : 1 ≤ Rows.uptoBulk d := by
  cases d with
  | lit l => cases l <;> simp [Rows.uptoBulk]
  | _ => simp [Rows.uptoBulk]
theorem bulk_all {H : Type} : ∀ (l : List (DataW H)), l.length ≤ Rows.uptoBulkAll l
  | [] => Nat.zero_le _
  | d :: r => by
    have h1 := bulk_one d
    have h2 := bulk_all r
    simp only [Rows.uptoBulkAll, List.length_cons]
    omega
theorem weights_all {H : Type} {e : TypeId} {m : Nat} : ∀ {l : List (DataW H)} {d : DataW H}, d ∈ l → m ∈ d.weights Try.prog e → m ∈ DataW.weightsAll Try.prog e l
  | x :: r, d, hd, hm => by
    simp only [DataW.weightsAll, List.mem_append]
    rcases List.mem_cons.1 hd with rfl | hd
    · exact .inl hm
    · exact .inr (weights_all hd hm)
/-- A list that came in: what holds of each element's cells. -/
theorem open_list {α : Type} [Inhabited α] {H : Type} {enc : TypeId × Value → H} {W : World} {base : Nat} {v : Value} {d : DataW H} {p : List MemPlace} {ts : List TypeId} {ds : List (DataW H)} {j : Nat}
    (T sT : TypeId) (z : Nat) (hsT : Try.prog.underlying sT = some (.slice T)) (hz : Try.prog.cellsOf T = z) (h0z : 0 < z) (Q : α → List Value → Prop)
    (hval : ∀ (n : Nat) (cs : List Value) (d : DataW H) (pl : List MemPlace), cs.length = z → DataW.trod enc Try.prog W 0 (fun _ => true) true n T cs = some (d, pl) → (∀ m ∈ d.weights Try.prog T, m ≤ reachBytes) → ∃ x, Q x cs)
    (hv : Value.okWide Try.prog W .any base sT v) (h : DataW.Trod enc Try.prog W 0 (fun _ => true) true sT v d p)
    (hw : (DataW.weightsEach Try.prog ts ds).all (· ≤ reachBytes) = true) (ht : ts[j]? = some sT) (hd : ds[j]? = some d) :
    ∃ (A : Option Addr) (c : Nat) (xs : List α), v = .slice A xs.length c ∧ xs.length ≤ c ∧ c * Try.prog.bytesOf T ≤ reachBytes ∧ xs.length ≤ Rows.uptoBulk d ∧
      (0 < xs.length → ∃ b o, A = some ⟨b, o, none⟩ ∧ b < W.heap.size ∧ ∀ i x, xs[i]? = some x → ∃ cs : List Value, cs.length = z ∧ Q x cs ∧ ∀ k, k < z → W.cell? ⟨b, o + i * z + k, none⟩ = cs[k]?) := by
  obtain ⟨A, len, cap, rfl⟩ := okWide_slice hsT hv
  obtain ⟨fuel, hf⟩ := h
  rcases open_slice hsT hf with ⟨hcs, hx⟩ | ⟨a, len', cap', m, n, D, Pl, hcs, _, hl, hm, hmm, hx, hi⟩
  · simp [Value.cells] at hcs
    obtain ⟨rfl, rfl, rfl⟩ := hcs
    exact ⟨none, 0, [], rfl, Nat.le_refl _, by omega, Nat.zero_le _, fun h => absurd h (Nat.lt_irrefl 0)⟩
  · simp [Value.cells] at hcs
    obtain ⟨rfl, rfl, rfl⟩ := hcs
    simp only [Prod.mk.injEq] at hx
    obtain ⟨rfl, _⟩ := hx
    have hmc : m = cap := by simpa using hmm
    subst hmc
    have hcap := sized_slice hw ht hd hsT
    simp only [List.length_map, List.length_range] at hcap
    have hwt : ∀ i, i < len → ∀ k ∈ (D i).weights Try.prog T, k ≤ reachBytes := fun i hil k hk => by
      have h1 := List.all_eq_true.1 hw k (DataW.weights_mem_each ht hd _ (by
        simp only [DataW.weights, hsT, List.mem_cons, List.mem_append]
        exact .inr (.inl (weights_all (List.mem_map.2 ⟨i, List.mem_range.2 hil, rfl⟩) hk))))
      simpa using h1
    obtain ⟨xs, hxl, hxs⟩ := list_of (Q := fun i (x : α) => ∃ cs : List Value, cs.length = z ∧ Q x cs ∧ ∀ k, k < z → W.cell? ((a.add (i * z)).add k) = cs[k]?) len (fun i hil => by
      obtain ⟨cs, hc, ht'⟩ := hi i (by omega)
      rw [hz] at hc
      obtain ⟨_, hcl, hat⟩ := World.cells?_some hc
      obtain ⟨x, hQ⟩ := hval _ cs _ _ hcl ht' (hwt i hil)
      exact ⟨x, cs, hcl, hQ, hat⟩)
    have hb := bulk_all ((List.range len).map D)
    rw [List.length_map, List.length_range] at hb
    refine ⟨some a, m, xs, by rw [hxl], by omega, ?_, ?_, fun h0 => ?_⟩
    · have e : len + (m - len) = m := by omega
      rw [e] at hcap
      exact hcap
    · rw [hxl]
      simp only [Rows.uptoBulk]
      omega
    obtain ⟨b, o, sp⟩ := a
    obtain ⟨cs0, hcl0, _, hat0⟩ := hxs 0 xs[0] (List.getElem?_eq_getElem h0)
    have c0 := hat0 0 h0z
    rw [List.getElem?_eq_getElem (by omega)] at c0
    have hsp : sp = none := by simpa [Addr.add] using World.cell?_spot c0
    subst hsp
    have hlt : b < W.heap.size := by
      have := World.block_lt_of_cell? W _ c0
      simpa [Addr.add] using this
    refine ⟨b, o, rfl, hlt, fun i x hx => ?_⟩
    obtain ⟨cs, hcl, hQ, hat⟩ := hxs i x hx
    refine ⟨cs, hcl, hQ, fun k hk => ?_⟩
    have h1 := hat k hk
    rw [Addr.add_lit, Addr.add_lit] at h1
    exact h1
theorem info_int2 : (Try.prog.info? 3).map (fun i => (i.zero, i.size, i.bytes)) = some (some (.int .i64 0), 1, 8) := by kernel_rfl
theorem made_ints (w : World) (n : Nat) : IntsAt (w.alloc (.cells (madeCells #[.int .i64 0] n) 3)) (some ⟨w.heap.size, 0, none⟩) (List.replicate n 0) := fun h0 => by
  have hw := Whole.new w 3 (madeCells #[.int .i64 0] n)
  refine ⟨w.heap.size, 0, rfl, hw.lt, fun j x hj => ?_⟩
  have hj' := (List.getElem?_eq_some_iff.1 hj).1
  rw [List.length_replicate] at hj'
  have e : x = 0 := by
    rw [List.getElem?_replicate, if_pos hj'] at hj
    exact (Option.some.inj hj).symm
  subst e
  rw [Nat.zero_add, hw.cell]
  simp [madeCells, hj', Nat.mod_one]
/-- A tick by numbers that were laid just now. -/
theorem tick_new {B : Nat} {W w : World} {g : Nat} {c : CK.Ck} (h : ClkAt w g c) (hb : Below B W w) (hg : B ≤ g) (hB : B ≤ w.heap.size) (l : List Int) (o : Obj) (hl : IntsAt (w.alloc o) (some ⟨w.heap.size, 0, none⟩) l) (d : Int) (n : Nat) (hd : -9223372036854775808 ≤ d ∧ d ≤ 9223372036854775807) (hn : l.length ≤ n) (hn2 : n ≤ 9223372036854775807)
    (hi : In64 l) {c' : CK.Ck} {er : Int} (he : CK.err c d l = er) (hs : CK.step c d l = c') :
    Calls Try.prog 10 #[.pointer (some ⟨g, 0, none⟩), .int .i64 d, .slice (some ⟨w.heap.size, 0, none⟩) l.length n] (w.alloc o) fun e w' => e = .returned (.int .i64 er) ∧ Hid (ClkAt w' g c') ∧ Hid (Below B W w') := by
  subst he hs
  refine (Tick_any (h.below ((Below.refl _ w).alloc (Nat.le_refl _) o)) d (some ⟨w.heap.size, 0, none⟩) n l hl (fun ad e => by injection e with e; subst e; have := h.lt; show w.heap.size ≠ g; omega) hn hn2 hd hi).mono ?_
  rintro e w' ⟨rfl, h1, h2⟩
  exact ⟨rfl, h1, Lib.hid ((hb.alloc hB o).trans (h2.out.below (by rw [World.size_alloc]; omega) (by simpa using hg)))⟩
/-- A list of moves that reads so. -/
def MvsAt (w : World) (A : Option Addr) (xs : List Mv) : Prop :=
  0 < xs.length → ∃ b o, A = some ⟨b, o, none⟩ ∧ b < w.heap.size ∧ ∀ i x, xs[i]? = some x → ∃ B c, w.cell? ⟨b, o + i * 2, none⟩ = some (.int .i64 x.d) ∧ w.cell? ⟨b, o + i * 2 + 1, none⟩ = some (.slice B x.bs.length c) ∧ CameM w B c x
theorem MvsAt.below {w w' : World} {A : Option Addr} {xs : List Mv} (h : MvsAt w A xs) (hb : Below w.heap.size w w') : MvsAt w' A xs := fun h0 => by
  obtain ⟨b, o, e, hlt, hx⟩ := h h0
  refine ⟨b, o, e, Nat.lt_of_lt_of_le hlt hb.size, fun i x hi => ?_⟩
  obtain ⟨B, c, k0, k1, k2⟩ := hx i x hi
  have hm := Mod.of_below hb []
  exact ⟨B, c, (hm.cell (p := ⟨b, _, none⟩) hlt (by simp)).trans k0, (hm.cell (p := ⟨b, _, none⟩) hlt (by simp)).trans k1, k2.below hb⟩
theorem open_moves {H : Type} {enc : TypeId × Value → H} {W : World} {base : Nat} {v : Value} {d : DataW H} {p : List MemPlace} {ts : List TypeId} {ds : List (DataW H)} {j : Nat}
    (hv : Value.okWide Try.prog W .any base 31 v) (h : DataW.Trod enc Try.prog W 0 (fun _ => true) true 31 v d p)
    (hw : (DataW.weightsEach Try.prog ts ds).all (· ≤ reachBytes) = true) (ht : ts[j]? = some 31) (hd : ds[j]? = some d) :
    ∃ (A : Option Addr) (c : Nat) (xs : List Mv), v = .slice A xs.length c ∧ MvsAt W A xs ∧ xs.length ≤ c ∧ c ≤ 140737488351232 := by
  obtain ⟨A, c, xs, e, h1, h2, h3, h4⟩ := open_list (α := Mv) 37 31 2 Try.underlying31 c1_mv (by decide) (fun x cs => ∃ B c, cs = [.int .i64 x.d, .slice B x.bs.length c] ∧ CameM W B c x)
    (fun n cs d pl hcl ht hw => by obtain ⟨o, B, c, e, hC⟩ := mv_vals hcl ht hw; exact ⟨o, B, c, e, hC⟩) hv h hw ht hd
  have hb : Try.prog.bytesOf 37 = 32 := by kernel_rfl
  rw [hb] at h2
  have hreach : reachBytes = 140737488351232 := rfl
  refine ⟨A, c, xs, e, fun h0 => ?_, h1, by omega⟩
  obtain ⟨b, o, e1, hlt, hx⟩ := h4 h0
  refine ⟨b, o, e1, hlt, fun i x hi => ?_⟩
  obtain ⟨cs, hcl, ⟨B, c', e3, hC⟩, hat⟩ := hx i x hi
  subst e3
  exact ⟨B, c', hat 0 (by decide), hat 1 (by decide), hC⟩
end Go.Proofs.Ytbcpphckjfbkbaa
