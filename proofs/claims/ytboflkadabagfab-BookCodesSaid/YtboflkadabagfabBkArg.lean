/- Grants, records, books and lists of records that came in, opened to their cells. -/
import Derived.Test.YtboflkadabagfabBkOw
import Derived.Test.YtboflkadabagfabRows
namespace Go.Proofs.Ytboflkadabagfab
open Go.RowKit Go.ChangeShapes Go.WideShapes Go.ChangeAt Go.Deep
open BM (Gr Rc Bk g0 r0 b0)
set_option linter.unusedVariables false
set_option linter.unusedSimpArgs false
set_option maxRecDepth 100000
theorem c1_int : Try.prog.cellsOf 3 = 1 := by kernel_rfl
theorem c1_string : Try.prog.cellsOf 9 = 1 := by kernel_rfl
theorem c1_ints : Try.prog.cellsOf 24 = 1 := by kernel_rfl
theorem c1_mode : Try.prog.cellsOf 23 = 1 := by kernel_rfl
theorem c1_kind : Try.prog.cellsOf 22 = 1 := by kernel_rfl
theorem c1_grants : Try.prog.cellsOf 43 = 1 := by kernel_rfl
theorem c6_grant : Try.prog.cellsOf 26 = 6 := by kernel_rfl
theorem c12_rec : Try.prog.cellsOf 28 = 12 := by kernel_rfl
theorem c4_book : Try.prog.cellsOf 45 = 4 := by kernel_rfl
theorem in64_of {k : Int} (hk : (Lit.int .i64 k).wf = true) : In64 k := by unfold In64; simpa [Lit.wf, IntKind.min, IntKind.max, IntKind.signed, IntKind.bits] using hk
theorem open_row {H : Type} {enc : TypeId × Value → H} {W : World} {n : Nat} {cs : List Value} {d : DataW H} {pl : List MemPlace}
    (h : DataW.trod enc Try.prog W 0 (fun _ => true) true n 24 cs = some (d, pl)) (hw : ∀ m ∈ d.weights Try.prog 24, m ≤ reachBytes) :
    ∃ A c xs, cs = [.slice A (List.length xs) c] ∧ IntsAt W A xs ∧ xs.length ≤ c ∧ c * 8 ≤ 140737488351232 ∧ ∀ x ∈ xs, In64 x := by
  rcases open_slice Try.underlying24 h with ⟨hcs, hx⟩ | ⟨a, len', cap', m, n, D, Pl, hcs, _, hl, hm, hmm, hx, hi⟩
  · exact ⟨none, 0, [], hcs, IntsAt.nil _ _, Nat.le_refl _, by omega, by simp⟩
  · simp only [Prod.mk.injEq] at hx
    obtain ⟨rfl, _⟩ := hx
    have hmc : m = cap' := by simpa using hmm
    subst hmc
    have hcap := hw ((((List.range len').map D).length + ((List.range (m - len')).map fun j => D (len' + j)).length) * Try.prog.bytesOf 3) (by simp [DataW.weights, Try.underlying24])
    rw [bytes_int] at hcap
    simp only [List.length_map, List.length_range] at hcap
    obtain ⟨xs, hxl, hxs⟩ := list_of (Q := fun i (x : Int) => W.cell? (a.add i) = some (.int .i64 x) ∧ In64 x) len' (fun i hil => by
      obtain ⟨cs, hc, ht'⟩ := hi i (by omega)
      rw [cells_int, Nat.mul_one] at hc
      obtain ⟨k, e, _, hk⟩ := DataW.trod_int Try.underlying3 ht'
      obtain ⟨_, hcl, hat⟩ := World.cells?_some hc
      have hk' : In64 k := by unfold In64; simpa [Lit.wf, IntKind.min, IntKind.max, IntKind.signed, IntKind.bits] using hk
      have h0 := hat 0 (by decide)
      rw [e, add_none] at h0
      exact ⟨k, h0, hk'⟩)
    have hreach : reachBytes = 140737488351232 := rfl
    refine ⟨some a, m, xs, by rw [hxl]; exact hcs, fun h0 => ?_, by omega, by omega, fun x hx => ?_⟩
    case refine_2 =>
      obtain ⟨i, hi', e⟩ := List.getElem_of_mem hx
      exact (hxs i x (by rw [List.getElem?_eq_getElem hi', e])).2
    obtain ⟨b, o, sp⟩ := a
    have c0 := (hxs 0 xs[0] (List.getElem?_eq_getElem h0)).1
    have hsp : sp = none := by simpa [Addr.add] using World.cell?_spot c0
    subst hsp
    have hlt : b < W.heap.size := by
      have := World.block_lt_of_cell? W _ c0
      simpa [Addr.add] using this
    refine ⟨b, o, rfl, hlt, fun j x hx => ?_⟩
    have c1 := (hxs j x hx).1
    rw [Addr.add_lit] at c1
    exact c1
theorem bulk_one {H : Type} (d : DataW H) : 1 ≤ Rows.uptoBulk d := by
  cases d with
  | lit l => cases l <;> simp [Rows.uptoBulk]
  | _ => simp [Rows.uptoBulk]
theorem bulk_all {H : Type} : ∀ (l : List (DataW H)), l.length ≤ Rows.uptoBulkAll l
  | [] => Nat.zero_le _
  | d :: r => by
    have h1 := bulk_one d
    have h2 := bulk_all r
    simp only [Rows.uptoBulkAll, List.length_cons]
    omega
theorem weights_all {H : Type} {e : TypeId} {m : Nat} : ∀ {l : List (DataW H)} {d : DataW H}, d ∈ l → m ∈ d.weights Try.prog e → m ∈ DataW.weightsAll Try.prog e l
  | x :: r, d, hd, hm => by
    simp only [DataW.weightsAll, List.mem_append]
    rcases List.mem_cons.1 hd with rfl | hd
    · exact .inl hm
    · exact .inr (weights_all hd hm)
/-- A list that came in: what holds of each element's cells. -/
theorem open_list {α : Type} [Inhabited α] {H : Type} {enc : TypeId × Value → H} {W : World} {base : Nat} {v : Value} {d : DataW H} {p : List MemPlace} {ts : List TypeId} {ds : List (DataW H)} {j : Nat}
    (T sT : TypeId) (z : Nat) (hsT : Try.prog.underlying sT = some (.slice T)) (hz : Try.prog.cellsOf T = z) (h0z : 0 < z) (Q : α → List Value → Prop)
    (hval : ∀ (n : Nat) (cs : List Value) (d : DataW H) (pl : List MemPlace), cs.length = z → DataW.trod enc Try.prog W 0 (fun _ => true) true n T cs = some (d, pl) → (∀ m ∈ d.weights Try.prog T, m ≤ reachBytes) → ∃ x, Q x cs)
    (hv : Value.okWide Try.prog W .any base sT v) (h : DataW.Trod enc Try.prog W 0 (fun _ => true) true sT v d p)
    (hw : (DataW.weightsEach Try.prog ts ds).all (· ≤ reachBytes) = true) (ht : ts[j]? = some sT) (hd : ds[j]? = some d) :
    ∃ (A : Option Addr) (c : Nat) (xs : List α), v = .slice A xs.length c ∧ xs.length ≤ c ∧ c * Try.prog.bytesOf T ≤ reachBytes ∧ xs.length ≤ Rows.uptoBulk d ∧
      (0 < xs.length → ∃ b o, A = some ⟨b, o, none⟩ ∧ b < W.heap.size ∧ ∀ i x, xs[i]? = some x → ∃ cs : List Value, cs.length = z ∧ Q x cs ∧ ∀ k, k < z → W.cell? ⟨b, o + i * z + k, none⟩ = cs[k]?) := by
  obtain ⟨A, len, cap, rfl⟩ := okWide_slice hsT hv
  obtain ⟨fuel, hf⟩ := h
  rcases open_slice hsT hf with ⟨hcs, hx⟩ | ⟨a, len', cap', m, n, D, Pl, hcs, _, hl, hm, hmm, hx, hi⟩
  · simp [Value.cells] at hcs
    obtain ⟨rfl, rfl, rfl⟩ := hcs
    exact ⟨none, 0, [], rfl, Nat.le_refl _, by omega, Nat.zero_le _, fun h => absurd h (Nat.lt_irrefl 0)⟩
  · simp [Value.cells] at hcs
    obtain ⟨rfl, rfl, rfl⟩ := hcs
    simp only [Prod.mk.injEq] at hx
    obtain ⟨rfl, _⟩ := hx
    have hmc : m = cap := by simpa using hmm
    subst hmc
    have hcap := sized_slice hw ht hd hsT
    simp only [List.length_map, List.length_range] at hcap
    have hwt : ∀ i, i < len → ∀ k ∈ (D i).weights Try.prog T, k ≤ reachBytes := fun i hil k hk => by
      have h1 := List.all_eq_true.1 hw k (DataW.weights_mem_each ht hd _ (by
        simp only [DataW.weights, hsT, List.mem_cons, List.mem_append]
        exact .inr (.inl (weights_all (List.mem_map.2 ⟨i, List.mem_range.2 hil, rfl⟩) hk))))
      simpa using h1
    obtain ⟨xs, hxl, hxs⟩ := list_of (Q := fun i (x : α) => ∃ cs : List Value, cs.length = z ∧ Q x cs ∧ ∀ k, k < z → W.cell? ((a.add (i * z)).add k) = cs[k]?) len (fun i hil => by
      obtain ⟨cs, hc, ht'⟩ := hi i (by omega)
      rw [hz] at hc
      obtain ⟨_, hcl, hat⟩ := World.cells?_some hc
      obtain ⟨x, hQ⟩ := hval _ cs _ _ hcl ht' (hwt i hil)
      exact ⟨x, cs, hcl, hQ, hat⟩)
    have hb := bulk_all ((List.range len).map D)
    rw [List.length_map, List.length_range] at hb
    refine ⟨some a, m, xs, by rw [hxl], by omega, ?_, ?_, fun h0 => ?_⟩
    · have e : len + (m - len) = m := by omega
      rw [e] at hcap
      exact hcap
    · rw [hxl]
      simp only [Rows.uptoBulk]
      omega
    obtain ⟨b, o, sp⟩ := a
    obtain ⟨cs0, hcl0, _, hat0⟩ := hxs 0 xs[0] (List.getElem?_eq_getElem h0)
    have c0 := hat0 0 h0z
    rw [List.getElem?_eq_getElem (by omega)] at c0
    have hsp : sp = none := by simpa [Addr.add] using World.cell?_spot c0
    subst hsp
    have hlt : b < W.heap.size := by
      have := World.block_lt_of_cell? W _ c0
      simpa [Addr.add] using this
    refine ⟨b, o, rfl, hlt, fun i x hx => ?_⟩
    obtain ⟨cs, hcl, hQ, hat⟩ := hxs i x hx
    refine ⟨cs, hcl, hQ, fun k hk => ?_⟩
    have h1 := hat k hk
    rw [Addr.add_lit, Addr.add_lit] at h1
    exact h1
set_option maxHeartbeats 8000000 in
theorem gr_vals {H : Type} {enc : TypeId × Value → H} {W : World} {n : Nat} {d : DataW H} {pl : List MemPlace} {cs : List Value}
    (hcl : cs.length = 6) (h : DataW.trod enc Try.prog W 0 (fun _ => true) true n 26 cs = some (d, pl)) (hw : ∀ m ∈ d.weights Try.prog 26, m ≤ reachBytes) :
    ∃ (A : Option Addr) (c : Nat) (g : Gr), cs = (six g (.slice A g.stamp.length c)).toList ∧ FitG W (.slice A g.stamp.length c) g := by
  obtain ⟨ys, n', _, hy, _, hyl, hf⟩ := DataW.trod_struct Try.underlying26 h
  match cs, hcl with
  | [v0, v1, v2, v3, v4, v5], _ =>
    match ys, hyl with
    | [y0, y1, y2, y3, y4, y5], _ =>
      simp only [Prod.mk.injEq, List.map_cons, List.map_nil] at hy
      obtain ⟨rfl, _⟩ := hy
      have f0 : DataW.trod enc Try.prog W 0 (fun _ => true) true n' 3 [v0] = some y0 := by
        have h := hf 0 _ rfl
        have e : List.take (Try.prog.cellsOf 3) (List.drop 0 [v0, v1, v2, v3, v4, v5]) = [v0] := by rw [c1_int]; rfl
        exact (congrArg (DataW.trod enc Try.prog W 0 (fun _ => true) true n' 3) e.symm).trans h
      have f1 : DataW.trod enc Try.prog W 0 (fun _ => true) true n' 3 [v1] = some y1 := by
        have h := hf 1 _ rfl
        have e : List.take (Try.prog.cellsOf 3) (List.drop 1 [v0, v1, v2, v3, v4, v5]) = [v1] := by rw [c1_int]; rfl
        exact (congrArg (DataW.trod enc Try.prog W 0 (fun _ => true) true n' 3) e.symm).trans h
      have f2 : DataW.trod enc Try.prog W 0 (fun _ => true) true n' 9 [v2] = some y2 := by
        have h := hf 2 _ rfl
        have e : List.take (Try.prog.cellsOf 9) (List.drop 2 [v0, v1, v2, v3, v4, v5]) = [v2] := by rw [c1_string]; rfl
        exact (congrArg (DataW.trod enc Try.prog W 0 (fun _ => true) true n' 9) e.symm).trans h
      have f3 : DataW.trod enc Try.prog W 0 (fun _ => true) true n' 23 [v3] = some y3 := by
        have h := hf 3 _ rfl
        have e : List.take (Try.prog.cellsOf 23) (List.drop 3 [v0, v1, v2, v3, v4, v5]) = [v3] := by rw [c1_mode]; rfl
        exact (congrArg (DataW.trod enc Try.prog W 0 (fun _ => true) true n' 23) e.symm).trans h
      have f4 : DataW.trod enc Try.prog W 0 (fun _ => true) true n' 24 [v4] = some y4 := by
        have h := hf 4 _ rfl
        have e : List.take (Try.prog.cellsOf 24) (List.drop 4 [v0, v1, v2, v3, v4, v5]) = [v4] := by rw [c1_ints]; rfl
        exact (congrArg (DataW.trod enc Try.prog W 0 (fun _ => true) true n' 24) e.symm).trans h
      have f5 : DataW.trod enc Try.prog W 0 (fun _ => true) true n' 3 [v5] = some y5 := by
        have h := hf 5 _ rfl
        have e : List.take (Try.prog.cellsOf 3) (List.drop 5 [v0, v1, v2, v3, v4, v5]) = [v5] := by rw [c1_int]; rfl
        exact (congrArg (DataW.trod enc Try.prog W 0 (fun _ => true) true n' 3) e.symm).trans h
      clear hf h
      obtain ⟨x0, e0, g0, h0⟩ := DataW.trod_int Try.underlying3 f0
      obtain ⟨x1, e1, g1, h1⟩ := DataW.trod_int Try.underlying3 f1
      obtain ⟨x2, e2, g2, _⟩ := DataW.trod_string Try.underlying9 f2
      obtain ⟨x3, e3, g3, h3⟩ := DataW.trod_int Try.underlying23 f3
      obtain ⟨A, c, x4, e4, hI, hle, hcap, hin⟩ := open_row (d := y4.1) (pl := y4.2) f4 (fun m hm => hw m (by
        simp only [DataW.weights, Try.underlying26]
        exact DataW.weights_mem_each (j := 4) rfl rfl _ hm))
      obtain ⟨x5, e5, g5, h5⟩ := DataW.trod_int Try.underlying3 f5
      have hsz : x2.size ≤ 140737488351232 := by
        refine hw _ ?_
        simp only [DataW.weights, Try.underlying26]
        refine DataW.weights_mem_each (j := 2) rfl rfl _ ?_
        rw [g2]
        have e : x2.data.toList.length = x2.size := rfl
        simp [DataW.weights, e]
      injection e0 with e0 _
      injection e1 with e1 _
      injection e2 with e2 _
      injection e3 with e3 _
      injection e4 with e4 _
      injection e5 with e5 _
      subst e0 e1 e2 e3 e4 e5
      exact ⟨A, c, ⟨x0, x1, x2, x3, x4, x5⟩, rfl, ⟨⟨A, c, rfl, hI, hle, by omega, by show x4.length * 8 ≤ 140737488355328; omega, hin⟩, ⟨in64_of h0, in64_of h1, in64_of h3, in64_of h5, hsz⟩⟩⟩
set_option maxHeartbeats 8000000 in
theorem rec_vals {H : Type} {enc : TypeId × Value → H} {W : World} {n : Nat} {d : DataW H} {pl : List MemPlace} {cs : List Value}
    (hcl : cs.length = 12) (h : DataW.trod enc Try.prog W 0 (fun _ => true) true n 28 cs = some (d, pl)) (hw : ∀ m ∈ d.weights Try.prog 28, m ≤ reachBytes) :
    ∃ (A : Option Addr) (c : Nat) (B : Option Addr) (k : Nat) (r : Rc), cs = (twelve r (.slice A r.g.stamp.length c) (.slice B r.stamp.length k)).toList ∧ FitR W (.slice A r.g.stamp.length c) (.slice B r.stamp.length k) r := by
  obtain ⟨ys, n', _, hy, _, hyl, hf⟩ := DataW.trod_struct Try.underlying28 h
  match cs, hcl with
  | [v0, v1, v2, v3, v4, v5, v6, v7, v8, v9, v10, v11], _ =>
    match ys, hyl with
    | [y0, y1, y2, y3, y4, y5, y6], _ =>
      simp only [Prod.mk.injEq, List.map_cons, List.map_nil] at hy
      obtain ⟨rfl, _⟩ := hy
      have f0 : DataW.trod enc Try.prog W 0 (fun _ => true) true n' 22 [v0] = some y0 := by
        have h := hf 0 _ rfl
        have e : List.take (Try.prog.cellsOf 22) (List.drop 0 [v0, v1, v2, v3, v4, v5, v6, v7, v8, v9, v10, v11]) = [v0] := by rw [c1_kind]; rfl
        exact (congrArg (DataW.trod enc Try.prog W 0 (fun _ => true) true n' 22) e.symm).trans h
      have f1 : DataW.trod enc Try.prog W 0 (fun _ => true) true n' 26 [v1, v2, v3, v4, v5, v6] = some y1 := by
        have h := hf 1 _ rfl
        have e : List.take (Try.prog.cellsOf 26) (List.drop 1 [v0, v1, v2, v3, v4, v5, v6, v7, v8, v9, v10, v11]) = [v1, v2, v3, v4, v5, v6] := by rw [c6_grant]; rfl
        exact (congrArg (DataW.trod enc Try.prog W 0 (fun _ => true) true n' 26) e.symm).trans h
      have f2 : DataW.trod enc Try.prog W 0 (fun _ => true) true n' 3 [v7] = some y2 := by
        have h := hf 2 _ rfl
        have e : List.take (Try.prog.cellsOf 3) (List.drop 7 [v0, v1, v2, v3, v4, v5, v6, v7, v8, v9, v10, v11]) = [v7] := by rw [c1_int]; rfl
        exact (congrArg (DataW.trod enc Try.prog W 0 (fun _ => true) true n' 3) e.symm).trans h
      have f3 : DataW.trod enc Try.prog W 0 (fun _ => true) true n' 24 [v8] = some y3 := by
        have h := hf 3 _ rfl
        have e : List.take (Try.prog.cellsOf 24) (List.drop 8 [v0, v1, v2, v3, v4, v5, v6, v7, v8, v9, v10, v11]) = [v8] := by rw [c1_ints]; rfl
        exact (congrArg (DataW.trod enc Try.prog W 0 (fun _ => true) true n' 24) e.symm).trans h
      have f4 : DataW.trod enc Try.prog W 0 (fun _ => true) true n' 3 [v9] = some y4 := by
        have h := hf 4 _ rfl
        have e : List.take (Try.prog.cellsOf 3) (List.drop 9 [v0, v1, v2, v3, v4, v5, v6, v7, v8, v9, v10, v11]) = [v9] := by rw [c1_int]; rfl
        exact (congrArg (DataW.trod enc Try.prog W 0 (fun _ => true) true n' 3) e.symm).trans h
      have f5 : DataW.trod enc Try.prog W 0 (fun _ => true) true n' 3 [v10] = some y5 := by
        have h := hf 5 _ rfl
        have e : List.take (Try.prog.cellsOf 3) (List.drop 10 [v0, v1, v2, v3, v4, v5, v6, v7, v8, v9, v10, v11]) = [v10] := by rw [c1_int]; rfl
        exact (congrArg (DataW.trod enc Try.prog W 0 (fun _ => true) true n' 3) e.symm).trans h
      have f6 : DataW.trod enc Try.prog W 0 (fun _ => true) true n' 3 [v11] = some y6 := by
        have h := hf 6 _ rfl
        have e : List.take (Try.prog.cellsOf 3) (List.drop 11 [v0, v1, v2, v3, v4, v5, v6, v7, v8, v9, v10, v11]) = [v11] := by rw [c1_int]; rfl
        exact (congrArg (DataW.trod enc Try.prog W 0 (fun _ => true) true n' 3) e.symm).trans h
      clear hf h
      obtain ⟨x0, e0, g0, h0⟩ := DataW.trod_int Try.underlying22 f0
      obtain ⟨A, c, g, e1, hg⟩ := gr_vals (d := y1.1) (pl := y1.2) rfl f1 (fun m hm => hw m (by
        simp only [DataW.weights, Try.underlying28]
        exact DataW.weights_mem_each (j := 1) rfl rfl _ hm))
      obtain ⟨x2, e2, g2, h2⟩ := DataW.trod_int Try.underlying3 f2
      obtain ⟨B, k, x3, e3, hI, hle, hcap, hin⟩ := open_row (d := y3.1) (pl := y3.2) f3 (fun m hm => hw m (by
        simp only [DataW.weights, Try.underlying28]
        exact DataW.weights_mem_each (j := 3) rfl rfl _ hm))
      obtain ⟨x4, e4, g4, h4⟩ := DataW.trod_int Try.underlying3 f4
      obtain ⟨x5, e5, g5, h5⟩ := DataW.trod_int Try.underlying3 f5
      obtain ⟨x6, e6, g6, h6⟩ := DataW.trod_int Try.underlying3 f6
      have e1' : [v1, v2, v3, v4, v5, v6] = [.int .i64 g.id, .int .i64 g.holder, .string g.path, .int .i64 g.mode, .slice A g.stamp.length c, .int .i64 g.term] := e1
      injection e0 with e0 _
      injection e2 with e2 _
      injection e3 with e3 _
      injection e4 with e4 _
      injection e5 with e5 _
      injection e6 with e6 _
      simp only [List.cons.injEq, and_true] at e1'
      obtain ⟨a1, a2, a3, a4, a5, a6⟩ := e1'
      subst e0 e2 e3 e4 e5 e6 a1 a2 a3 a4 a5 a6
      exact ⟨A, c, B, k, ⟨x0, g, x2, x3, x4, x5, x6⟩, rfl, ⟨hg, ⟨B, k, rfl, hI, hle, by omega, by show x3.length * 8 ≤ 140737488355328; omega, hin⟩, in64_of h0, in64_of h2, in64_of h4, in64_of h5, in64_of h6⟩⟩
/-- A record that came in. -/
theorem open_rec {H : Type} {enc : TypeId × Value → H} {W : World} {base : Nat} {v : Value} {d : DataW H} {p : List MemPlace} {ts : List TypeId} {ds : List (DataW H)} {j : Nat}
    (hv : Value.okWide Try.prog W .any base 28 v) (h : DataW.Trod enc Try.prog W 0 (fun _ => true) true 28 v d p)
    (hw : (DataW.weightsEach Try.prog ts ds).all (· ≤ reachBytes) = true) (ht : ts[j]? = some 28) (hd : ds[j]? = some d) :
    ∃ (v1 u1 : Value) (r : Rc), v = .agg (twelve r v1 u1) ∧ FitR W v1 u1 r := by
  obtain ⟨cs, rfl, hc⟩ := okWide_struct Try.underlying28 hv
  obtain ⟨fuel, hf⟩ := h
  rw [c12_rec] at hc
  obtain ⟨A, c, B, k, r, e, hm⟩ := rec_vals (cs := (Value.agg cs).cells.toList) (by simpa [Value.cells] using hc) hf (fun x hx => by
    have := List.all_eq_true.1 hw _ (DataW.weights_mem_each ht hd _ hx)
    simpa using this)
  refine ⟨_, _, r, ?_, hm⟩
  have h1 : cs.toList = (twelve r (.slice A r.g.stamp.length c) (.slice B r.stamp.length k)).toList := by simpa [Value.cells] using e
  rw [Array.toList_inj.1 h1]
/-- Bytes that came in, by the name of octets' texts. -/
theorem oct_bytes {w : World} {A : Option Addr} {l : List UInt8} (h : By.BytesAt w A l) : Oct.BytesAt w A l := h
/-- A list inside what came in. -/
theorem open_rowL {α : Type} [Inhabited α] {H : Type} {enc : TypeId × Value → H} {W : World} {n : Nat} {cs : List Value} {d : DataW H} {pl : List MemPlace}
    (T sT : TypeId) (z : Nat) (hsT : Try.prog.underlying sT = some (.slice T)) (hz : Try.prog.cellsOf T = z) (h0z : 0 < z) (Q : α → List Value → Prop)
    (hval : ∀ (n : Nat) (cs : List Value) (d : DataW H) (pl : List MemPlace), cs.length = z → DataW.trod enc Try.prog W 0 (fun _ => true) true n T cs = some (d, pl) → (∀ m ∈ d.weights Try.prog T, m ≤ reachBytes) → ∃ x, Q x cs)
    (hf : DataW.trod enc Try.prog W 0 (fun _ => true) true n sT cs = some (d, pl)) (hw : ∀ m ∈ d.weights Try.prog sT, m ≤ reachBytes) :
    ∃ (A : Option Addr) (c : Nat) (xs : List α), cs = [.slice A xs.length c] ∧ xs.length ≤ c ∧ c * Try.prog.bytesOf T ≤ reachBytes ∧
      (0 < xs.length → ∃ b o, A = some ⟨b, o, none⟩ ∧ b < W.heap.size ∧ ∀ i x, xs[i]? = some x → ∃ cs : List Value, cs.length = z ∧ Q x cs ∧ ∀ k, k < z → W.cell? ⟨b, o + i * z + k, none⟩ = cs[k]?) := by
  rcases open_slice hsT hf with ⟨hcs, hx⟩ | ⟨a, len', cap', m, n, D, Pl, hcs, _, hl, hm, hmm, hx, hi⟩
  · exact ⟨none, 0, [], hcs, Nat.le_refl _, by omega, fun h => absurd h (Nat.lt_irrefl 0)⟩
  · simp only [Prod.mk.injEq] at hx
    obtain ⟨rfl, _⟩ := hx
    have hmc : m = cap' := by simpa using hmm
    subst hmc
    have hcap := hw ((((List.range len').map D).length + ((List.range (m - len')).map fun j => D (len' + j)).length) * Try.prog.bytesOf T) (by simp [DataW.weights, hsT])
    simp only [List.length_map, List.length_range] at hcap
    have hwt : ∀ i, i < len' → ∀ k ∈ (D i).weights Try.prog T, k ≤ reachBytes := fun i hil k hk => hw k (by
      simp only [DataW.weights, hsT, List.mem_cons, List.mem_append]
      exact .inr (.inl (weights_all (List.mem_map.2 ⟨i, List.mem_range.2 hil, rfl⟩) hk)))
    obtain ⟨xs, hxl, hxs⟩ := list_of (Q := fun i (x : α) => ∃ cs : List Value, cs.length = z ∧ Q x cs ∧ ∀ k, k < z → W.cell? ((a.add (i * z)).add k) = cs[k]?) len' (fun i hil => by
      obtain ⟨cs, hc, ht'⟩ := hi i (by omega)
      rw [hz] at hc
      obtain ⟨_, hcl, hat⟩ := World.cells?_some hc
      obtain ⟨x, hQ⟩ := hval _ cs _ _ hcl ht' (hwt i hil)
      exact ⟨x, cs, hcl, hQ, hat⟩)
    refine ⟨some a, m, xs, by rw [hxl]; exact hcs, by omega, ?_, fun h0 => ?_⟩
    · have e : len' + (m - len') = m := by omega
      rw [e] at hcap
      exact hcap
    obtain ⟨b, o, sp⟩ := a
    obtain ⟨cs0, hcl0, _, hat0⟩ := hxs 0 xs[0] (List.getElem?_eq_getElem h0)
    have c0 := hat0 0 h0z
    rw [List.getElem?_eq_getElem (by omega)] at c0
    have hsp : sp = none := by simpa [Addr.add] using World.cell?_spot c0
    subst hsp
    have hlt : b < W.heap.size := by
      have := World.block_lt_of_cell? W _ c0
      simpa [Addr.add] using this
    refine ⟨b, o, rfl, hlt, fun i x hx => ?_⟩
    obtain ⟨cs, hcl, hQ, hat⟩ := hxs i x hx
    refine ⟨cs, hcl, hQ, fun k hk => ?_⟩
    have h1 := hat k hk
    rw [Addr.add_lit, Addr.add_lit] at h1
    exact h1
instance instGV : Inhabited (Gr × Value) := ⟨(g0, undef)⟩
instance instRV : Inhabited (Rc × Value × Value) := ⟨(r0, undef, undef)⟩
/-- A list of grants inside what came in. -/
theorem open_grants {H : Type} {enc : TypeId × Value → H} {W : World} {n : Nat} {cs : List Value} {d : DataW H} {pl : List MemPlace}
    (hf : DataW.trod enc Try.prog W 0 (fun _ => true) true n 43 cs = some (d, pl)) (hw : ∀ m ∈ d.weights Try.prog 43, m ≤ reachBytes) :
    ∃ (v : Value) (gs : List Gr), cs = [v] ∧ HdG W v gs := by
  obtain ⟨A, c, xs, e, h1, h2, h4⟩ := open_rowL (α := Gr × Value) 26 43 6 Try.underlying43 c6_grant (by decide) (fun x cs => cs = (six x.1 x.2).toList ∧ FitG W x.2 x.1)
    (fun n cs d pl hcl ht hw => by obtain ⟨A, c, g, e, hC⟩ := gr_vals hcl ht hw; exact ⟨(g, _), e, hC⟩) hf hw
  have hb : Try.prog.bytesOf 26 = 72 := by kernel_rfl
  have hreach : reachBytes = 140737488351232 := rfl
  rw [hb] at h2
  refine ⟨_, xs.map Prod.fst, e, A, c, by rw [List.length_map], fun h0 => ?_, by rw [List.length_map]; exact h1, by omega, by rw [List.length_map]; omega⟩
  rw [List.length_map] at h0
  obtain ⟨b, o, e1, hlt, hx⟩ := h4 h0
  refine ⟨b, o, e1, hlt, fun j g hj => ?_⟩
  rw [List.getElem?_map] at hj
  obtain ⟨x, hxj, e2⟩ := Option.map_eq_some_iff.1 hj
  subst e2
  obtain ⟨cs, hcl, ⟨e3, hC⟩, hat⟩ := hx j x hxj
  subst e3
  exact ⟨x.2, hat 0 (by decide), hat 1 (by decide), hat 2 (by decide), hat 3 (by decide), hat 4 (by decide), hat 5 (by decide), hC⟩
set_option maxHeartbeats 8000000 in
theorem book_vals {H : Type} {enc : TypeId × Value → H} {W : World} {n : Nat} {d : DataW H} {pl : List MemPlace} {cs : List Value}
    (hcl : cs.length = 4) (h : DataW.trod enc Try.prog W 0 (fun _ => true) true n 45 cs = some (d, pl)) (hw : ∀ m ∈ d.weights Try.prog 45, m ≤ reachBytes) :
    ∃ (v : Value) (b : Bk), cs = (four b v).toList ∧ FitB W v b := by
  obtain ⟨ys, n', _, hy, _, hyl, hf⟩ := DataW.trod_struct Try.underlying45 h
  match cs, hcl with
  | [v0, v1, v2, v3], _ =>
    match ys, hyl with
    | [y0, y1, y2, y3], _ =>
      simp only [Prod.mk.injEq, List.map_cons, List.map_nil] at hy
      obtain ⟨rfl, _⟩ := hy
      have f0 : DataW.trod enc Try.prog W 0 (fun _ => true) true n' 3 [v0] = some y0 := by
        have h := hf 0 _ rfl
        have e : List.take (Try.prog.cellsOf 3) (List.drop 0 [v0, v1, v2, v3]) = [v0] := by rw [c1_int]; rfl
        exact (congrArg (DataW.trod enc Try.prog W 0 (fun _ => true) true n' 3) e.symm).trans h
      have f1 : DataW.trod enc Try.prog W 0 (fun _ => true) true n' 3 [v1] = some y1 := by
        have h := hf 1 _ rfl
        have e : List.take (Try.prog.cellsOf 3) (List.drop 1 [v0, v1, v2, v3]) = [v1] := by rw [c1_int]; rfl
        exact (congrArg (DataW.trod enc Try.prog W 0 (fun _ => true) true n' 3) e.symm).trans h
      have f2 : DataW.trod enc Try.prog W 0 (fun _ => true) true n' 3 [v2] = some y2 := by
        have h := hf 2 _ rfl
        have e : List.take (Try.prog.cellsOf 3) (List.drop 2 [v0, v1, v2, v3]) = [v2] := by rw [c1_int]; rfl
        exact (congrArg (DataW.trod enc Try.prog W 0 (fun _ => true) true n' 3) e.symm).trans h
      have f3 : DataW.trod enc Try.prog W 0 (fun _ => true) true n' 43 [v3] = some y3 := by
        have h := hf 3 _ rfl
        have e : List.take (Try.prog.cellsOf 43) (List.drop 3 [v0, v1, v2, v3]) = [v3] := by rw [c1_grants]; rfl
        exact (congrArg (DataW.trod enc Try.prog W 0 (fun _ => true) true n' 43) e.symm).trans h
      clear hf h
      obtain ⟨x0, e0, g0, h0⟩ := DataW.trod_int Try.underlying3 f0
      obtain ⟨x1, e1, g1, h1⟩ := DataW.trod_int Try.underlying3 f1
      obtain ⟨x2, e2, g2, h2⟩ := DataW.trod_int Try.underlying3 f2
      obtain ⟨v, gs, e3, hg⟩ := open_grants (d := y3.1) (pl := y3.2) f3 (fun m hm => hw m (by
        simp only [DataW.weights, Try.underlying45]
        exact DataW.weights_mem_each (j := 3) rfl rfl _ hm))
      injection e0 with e0 _
      injection e1 with e1 _
      injection e2 with e2 _
      injection e3 with e3 _
      subst e0 e1 e2 e3
      exact ⟨v3, ⟨x0, x1, x2, gs⟩, rfl, ⟨hg, in64_of h0, in64_of h1, in64_of h2⟩⟩
/-- A book that came in. -/
theorem open_book {H : Type} {enc : TypeId × Value → H} {W : World} {base : Nat} {v : Value} {d : DataW H} {p : List MemPlace} {ts : List TypeId} {ds : List (DataW H)} {j : Nat}
    (hv : Value.okWide Try.prog W .any base 45 v) (h : DataW.Trod enc Try.prog W 0 (fun _ => true) true 45 v d p)
    (hw : (DataW.weightsEach Try.prog ts ds).all (· ≤ reachBytes) = true) (ht : ts[j]? = some 45) (hd : ds[j]? = some d) :
    ∃ (s : Value) (b : Bk), v = .agg (four b s) ∧ FitB W s b := by
  obtain ⟨cs, rfl, hc⟩ := okWide_struct Try.underlying45 hv
  obtain ⟨fuel, hf⟩ := h
  rw [c4_book] at hc
  obtain ⟨s, b, e, hm⟩ := book_vals (cs := (Value.agg cs).cells.toList) (by simpa [Value.cells] using hc) hf (fun x hx => by
    have := List.all_eq_true.1 hw _ (DataW.weights_mem_each ht hd _ hx)
    simpa using this)
  refine ⟨s, b, ?_, hm⟩
  have h1 : cs.toList = (four b s).toList := by simpa [Value.cells] using e
  rw [Array.toList_inj.1 h1]
/-- A record lies in block b from cell o on. -/
def RcAt (w : World) (b o : Nat) (r : Rc) : Prop := ∃ A c B k, (∀ i, i < 12 → w.cell? ⟨b, o + i, none⟩ = (twelve r (.slice A r.g.stamp.length c) (.slice B r.stamp.length k))[i]?) ∧ FitR w (.slice A r.g.stamp.length c) (.slice B r.stamp.length k) r
def RcsAt (w : World) (A : Option Addr) (rs : List Rc) : Prop := 0 < rs.length → ∃ b o, A = some ⟨b, o, none⟩ ∧ b < w.heap.size ∧ ∀ j r, rs[j]? = some r → RcAt w b (o + j * 12) r
theorem RcsAt.below {w w' : World} {A : Option Addr} {rs : List Rc} (h : RcsAt w A rs) (hb : Below w.heap.size w w') : RcsAt w' A rs := fun h0 => by
  obtain ⟨b, o, e, hlt, hx⟩ := h h0
  refine ⟨b, o, e, Nat.lt_of_lt_of_le hlt hb.size, fun j r hj => ?_⟩
  obtain ⟨A, c, B, k, h1, h2⟩ := hx j r hj
  exact ⟨A, c, B, k, fun i hi => (hb.cell (p := ⟨b, o + j * 12 + i, none⟩) hlt).trans (h1 i hi), h2.below hb⟩
/-- A list of records that came in. -/
theorem open_recs {H : Type} {enc : TypeId × Value → H} {W : World} {base : Nat} {v : Value} {d : DataW H} {p : List MemPlace} {ts : List TypeId} {ds : List (DataW H)} {j : Nat}
    (hv : Value.okWide Try.prog W .any base 52 v) (h : DataW.Trod enc Try.prog W 0 (fun _ => true) true 52 v d p)
    (hw : (DataW.weightsEach Try.prog ts ds).all (· ≤ reachBytes) = true) (ht : ts[j]? = some 52) (hd : ds[j]? = some d) :
    ∃ (A : Option Addr) (c : Nat) (rs : List Rc), v = .slice A rs.length c ∧ RcsAt W A rs ∧ rs.length ≤ c ∧ c ≤ 140737488351232 := by
  obtain ⟨A, c, xs, e, h1, h2, _, h4⟩ := open_list (α := Rc × Value × Value) 28 52 12 Try.underlying52 c12_rec (by decide) (fun x cs => ∃ A c B k, x.2.1 = .slice A x.1.g.stamp.length c ∧ x.2.2 = .slice B x.1.stamp.length k ∧ cs = (twelve x.1 x.2.1 x.2.2).toList ∧ FitR W x.2.1 x.2.2 x.1)
    (fun n cs d pl hcl ht hw => by obtain ⟨A, c, B, k, r, e, hC⟩ := rec_vals hcl ht hw; exact ⟨(r, _, _), A, c, B, k, rfl, rfl, e, hC⟩) hv h hw ht hd
  have hb : Try.prog.bytesOf 28 = 136 := by kernel_rfl
  have hreach : reachBytes = 140737488351232 := rfl
  rw [hb] at h2
  refine ⟨A, c, xs.map Prod.fst, by rw [List.length_map]; exact e, fun h0 => ?_, by rw [List.length_map]; exact h1, by omega⟩
  rw [List.length_map] at h0
  obtain ⟨b, o, e1, hlt, hx⟩ := h4 h0
  refine ⟨b, o, e1, hlt, fun j r hj => ?_⟩
  rw [List.getElem?_map] at hj
  obtain ⟨x, hxj, e2⟩ := Option.map_eq_some_iff.1 hj
  subst e2
  obtain ⟨cs, hcl, ⟨A', c', B', k', e3, e4, e5, hC⟩, hat⟩ := hx j x hxj
  subst e5
  refine ⟨A', c', B', k', fun i hi => ?_, by rw [← e3, ← e4]; exact hC⟩
  have := hat i hi
  rw [this, e3, e4]
  exact Array.getElem?_toList
/-- A list of records of one's own: its records' cells. -/
theorem OwnR.recAt {w : World} {base : Nat} {v : Value} {ps : List (Rc × Value × Value)} (h : OwnR w base v ps) {g : Nat} (hg : v.ownBlock = some g) {j : Nat} {p : Rc × Value × Value} (hp : ps[j]? = some p) :
    (∀ i, i < 12 → w.cell? ⟨g, j * 12 + i, none⟩ = (twelve p.1 p.2.1 p.2.2)[i]?) ∧ FitR w p.2.1 p.2.2 p.1 := by
  have hm := List.mem_of_getElem? hp
  refine ⟨fun i hi => ?_, fit_own (h.wide p hm) (h.st p hm).1 (h.st p hm).2⟩
  have e := rflat_get ps j i p hp hi
  have hsz : i < (twelve p.1 p.2.1 p.2.2).size := hi
  rw [Array.getElem?_eq_getElem hsz] at e ⊢
  have := h.row.cells (g := g) hg (j * 12 + i) _ e
  rwa [Addr.add_lit, Nat.zero_add] at this
theorem rec12 {w : World} {g o : Nat} {r : Rc} {v u : Value} (h : ∀ i, i < 12 → w.cell? ⟨g, o + i, none⟩ = (twelve r v u)[i]?) : w.cell? ⟨g, o, none⟩ = some (.int .i64 r.kind) ∧ w.cell? ⟨g, o + 1, none⟩ = some (.int .i64 r.g.id) ∧ w.cell? ⟨g, o + 2, none⟩ = some (.int .i64 r.g.holder) ∧ w.cell? ⟨g, o + 3, none⟩ = some (.string r.g.path) ∧ w.cell? ⟨g, o + 4, none⟩ = some (.int .i64 r.g.mode) ∧ w.cell? ⟨g, o + 5, none⟩ = some v ∧
    w.cell? ⟨g, o + 6, none⟩ = some (.int .i64 r.g.term) ∧ w.cell? ⟨g, o + 7, none⟩ = some (.int .i64 r.id) ∧ w.cell? ⟨g, o + 8, none⟩ = some u ∧ w.cell? ⟨g, o + 9, none⟩ = some (.int .i64 r.next) ∧ w.cell? ⟨g, o + 10, none⟩ = some (.int .i64 r.boots) ∧ w.cell? ⟨g, o + 11, none⟩ = some (.int .i64 r.longest) :=
  ⟨h 0 (by decide), h 1 (by decide), h 2 (by decide), h 3 (by decide), h 4 (by decide), h 5 (by decide), h 6 (by decide), h 7 (by decide), h 8 (by decide), h 9 (by decide), h 10 (by decide), h 11 (by decide)⟩
end Go.Proofs.Ytboflkadabagfab
