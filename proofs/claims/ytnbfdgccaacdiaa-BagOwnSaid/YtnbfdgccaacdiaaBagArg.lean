/- Packets, lists of packets and lists of calls that came in, opened to their cells. -/
import Derived.Test.YtnbfdgccaacdiaaBagW10
import Derived.Test.YtnbfdgccaacdiaaRows
namespace Go.Proofs.Ytnbfdgccaacdiaa
open Go.RowKit Go.ChangeShapes Go.WideShapes Go.ChangeAt Go.Deep
open By (BytesAt u8s own_shape list_of add_none)
set_option linter.unusedVariables false
set_option linter.unusedSimpArgs false
set_option maxRecDepth 100000
theorem c1_int : Try.prog.cellsOf 3 = 1 := by kernel_rfl
theorem c1_bytes : Try.prog.cellsOf 29 = 1 := by kernel_rfl
theorem c1_pk : Try.prog.cellsOf 31 = 3 := by kernel_rfl
/-- A packet that came in. -/
structure CameP (w : World) (A : Option Addr) (c : Nat) (p : Pk) : Prop where
  bytes : BytesAt w A p.d
  le : p.d.length ≤ c
  cap : c ≤ 140737488351232
  frm : -9223372036854775808 ≤ p.frm ∧ p.frm ≤ 9223372036854775807
theorem CameP.below {w w' : World} {A : Option Addr} {c : Nat} {p : Pk} (h : CameP w A c p) (hb : Below w.heap.size w w') : CameP w' A c p := ⟨h.bytes.below hb, h.le, h.cap, h.frm⟩
theorem open_rowB {H : Type} {enc : TypeId × Value → H} {W : World} {n : Nat} {cs : List Value} {d : DataW H} {pl : List MemPlace}
    (h : DataW.trod enc Try.prog W 0 (fun _ => true) true n 29 cs = some (d, pl)) (hw : ∀ m ∈ d.weights Try.prog 29, m ≤ reachBytes) :
    ∃ A c xs, cs = [.slice A (List.length xs) c] ∧ BytesAt W A xs ∧ xs.length ≤ c ∧ c ≤ 140737488351232 := by
  rcases open_slice Try.underlying29 h with ⟨hcs, hx⟩ | ⟨a, len', cap', m, n, D, Pl, hcs, _, hl, hm, hmm, hx, hi⟩
  · exact ⟨none, 0, [], hcs, BytesAt.nil _ _, Nat.le_refl _, by omega⟩
  · simp only [Prod.mk.injEq] at hx
    obtain ⟨rfl, _⟩ := hx
    have hmc : m = cap' := by simpa using hmm
    subst hmc
    have hcap := hw ((((List.range len').map D).length + ((List.range (m - len')).map fun j => D (len' + j)).length) * Try.prog.bytesOf 5) (by simp [DataW.weights, Try.underlying29])
    rw [By.bytes_byte] at hcap
    simp only [List.length_map, List.length_range] at hcap
    obtain ⟨xs, hxl, hxs⟩ := list_of (Q := fun i (x : UInt8) => W.cell? (a.add i) = some (By.u8 x)) len' (fun i hil => by
      obtain ⟨cs, hc, ht'⟩ := hi i (by omega)
      rw [By.cells_byte, Nat.mul_one] at hc
      obtain ⟨k, e, _, hk⟩ := DataW.trod_int Try.underlying5 ht'
      obtain ⟨_, hcl, hat⟩ := World.cells?_some hc
      have hk' : 0 ≤ k ∧ k ≤ 255 := by simpa [Lit.wf, IntKind.min, IntKind.max, IntKind.signed, IntKind.bits] using hk
      refine ⟨OM.by8 k.toNat, ?_⟩
      have h0 := hat 0 (by decide)
      rw [e, add_none] at h0
      rw [h0]
      unfold By.u8
      rw [OM.by8_nat (by omega)]
      show some (Value.int .u8 k) = _
      rw [show ((k.toNat : Nat) : Int) = k by omega])
    have hreach : reachBytes = 140737488351232 := rfl
    refine ⟨some a, m, xs, by rw [hxl]; exact hcs, fun h0 => ?_, by omega, by omega⟩
    obtain ⟨b, o, sp⟩ := a
    have c0 := hxs 0 xs[0] (List.getElem?_eq_getElem h0)
    have hsp : sp = none := by simpa [Addr.add] using World.cell?_spot c0
    subst hsp
    have hlt : b < W.heap.size := by
      have := World.block_lt_of_cell? W _ c0
      simpa [Addr.add] using this
    refine ⟨b, o, rfl, hlt, fun j x hx => ?_⟩
    have c1 := hxs j x hx
    rw [Addr.add_lit] at c1
    exact c1
theorem in64_of {k : Int} (hk : (Lit.int .i64 k).wf = true) : -9223372036854775808 ≤ k ∧ k ≤ 9223372036854775807 := by simpa [Lit.wf, IntKind.min, IntKind.max, IntKind.signed, IntKind.bits] using hk
set_option maxHeartbeats 4000000 in
theorem pk_vals {H : Type} {enc : TypeId × Value → H} {W : World} {n : Nat} {d : DataW H} {pl : List MemPlace} {cs : List Value}
    (hcl : cs.length = 3) (h : DataW.trod enc Try.prog W 0 (fun _ => true) true n 31 cs = some (d, pl)) (hw : ∀ m ∈ d.weights Try.prog 31, m ≤ reachBytes) :
    ∃ (p : Pk) (A : Option Addr) (c : Nat), cs = (three p A c).toList ∧ CameP W A c p := by
  obtain ⟨ys, n', _, hy, _, hyl, hf⟩ := DataW.trod_struct Try.underlying31 h
  match cs, hcl with
  | [v0, v1, v2], _ =>
    match ys, hyl with
    | [y0, y1, y2], _ =>
      simp only [Prod.mk.injEq, List.map_cons, List.map_nil] at hy
      obtain ⟨rfl, _⟩ := hy
      have f0 : DataW.trod enc Try.prog W 0 (fun _ => true) true n' 3 [v0] = some y0 := by
        have h := hf 0 _ rfl
        have e : List.take (Try.prog.cellsOf 3) (List.drop 0 [v0, v1, v2]) = [v0] := by rw [c1_int]; rfl
        exact (congrArg (DataW.trod enc Try.prog W 0 (fun _ => true) true n' 3) e.symm).trans h
      have f1 : DataW.trod enc Try.prog W 0 (fun _ => true) true n' 3 [v1] = some y1 := by
        have h := hf 1 _ rfl
        have e : List.take (Try.prog.cellsOf 3) (List.drop 1 [v0, v1, v2]) = [v1] := by rw [c1_int]; rfl
        exact (congrArg (DataW.trod enc Try.prog W 0 (fun _ => true) true n' 3) e.symm).trans h
      have f2 : DataW.trod enc Try.prog W 0 (fun _ => true) true n' 29 [v2] = some y2 := by
        have h := hf 2 _ rfl
        have e : List.take (Try.prog.cellsOf 29) (List.drop 2 [v0, v1, v2]) = [v2] := by rw [c1_bytes]; rfl
        exact (congrArg (DataW.trod enc Try.prog W 0 (fun _ => true) true n' 29) e.symm).trans h
      clear hf h
      obtain ⟨x0, e0, g0, h0⟩ := DataW.trod_int Try.underlying3 f0
      obtain ⟨x1, e1, g1, h1⟩ := DataW.trod_int Try.underlying3 f1
      obtain ⟨A, c, xs, e2, hB, hle, hcap⟩ := open_rowB (d := y2.1) (pl := y2.2) f2 (fun m hm => hw m (by
        simp only [DataW.weights, Try.underlying31]
        exact DataW.weights_mem_each (j := 2) rfl rfl _ hm))
      injection e0 with e0
      injection e1 with e1
      injection e2 with e2
      subst e0 e1 e2
      exact ⟨⟨x0, x1, xs⟩, A, c, rfl, ⟨hB, hle, hcap, in64_of h0⟩⟩
/-- A packet that came in. -/
theorem open_packet {H : Type} {enc : TypeId × Value → H} {W : World} {base : Nat} {v : Value} {d : DataW H} {p : List MemPlace} {ts : List TypeId} {ds : List (DataW H)} {j : Nat}
    (hv : Value.okWide Try.prog W .any base 31 v) (h : DataW.Trod enc Try.prog W 0 (fun _ => true) true 31 v d p)
    (hw : (DataW.weightsEach Try.prog ts ds).all (· ≤ reachBytes) = true) (ht : ts[j]? = some 31) (hd : ds[j]? = some d) :
    ∃ (A : Option Addr) (c : Nat) (p : Pk), v = .agg (three p A c) ∧ CameP W A c p := by
  obtain ⟨cs, rfl, hc⟩ := okWide_struct Try.underlying31 hv
  obtain ⟨fuel, hf⟩ := h
  rw [c1_pk] at hc
  obtain ⟨p, A, c, e, hm⟩ := pk_vals (cs := (Value.agg cs).cells.toList) (by simpa [Value.cells] using hc) hf (fun x hx => by
    have := List.all_eq_true.1 hw _ (DataW.weights_mem_each ht hd _ hx)
    simpa using this)
  refine ⟨A, c, p, ?_, hm⟩
  have h1 : cs.toList = (three p A c).toList := by simpa [Value.cells] using e
  rw [Array.toList_inj.1 h1]
/-- A call that came in. -/
structure Op where
  kind : Int
  k : Int
  p : Pk
instance instOp : Inhabited Op := ⟨⟨0, 0, default⟩⟩
set_option maxHeartbeats 4000000 in
theorem op_vals {H : Type} {enc : TypeId × Value → H} {W : World} {n : Nat} {d : DataW H} {pl : List MemPlace} {cs : List Value}
    (hcl : cs.length = 5) (h : DataW.trod enc Try.prog W 0 (fun _ => true) true n 33 cs = some (d, pl)) (hw : ∀ m ∈ d.weights Try.prog 33, m ≤ reachBytes) :
    ∃ (o : Op) (A : Option Addr) (c : Nat), cs = .int .i64 o.kind :: .int .i64 o.k :: (three o.p A c).toList ∧ CameP W A c o.p := by
  obtain ⟨ys, n', _, hy, _, hyl, hf⟩ := DataW.trod_struct Try.underlying33 h
  match cs, hcl with
  | [v0, v1, v2, v3, v4], _ =>
    match ys, hyl with
    | [y0, y1, y2], _ =>
      simp only [Prod.mk.injEq, List.map_cons, List.map_nil] at hy
      obtain ⟨rfl, _⟩ := hy
      have f0 : DataW.trod enc Try.prog W 0 (fun _ => true) true n' 3 [v0] = some y0 := by
        have h := hf 0 _ rfl
        have e : List.take (Try.prog.cellsOf 3) (List.drop 0 [v0, v1, v2, v3, v4]) = [v0] := by rw [c1_int]; rfl
        exact (congrArg (DataW.trod enc Try.prog W 0 (fun _ => true) true n' 3) e.symm).trans h
      have f1 : DataW.trod enc Try.prog W 0 (fun _ => true) true n' 3 [v1] = some y1 := by
        have h := hf 1 _ rfl
        have e : List.take (Try.prog.cellsOf 3) (List.drop 1 [v0, v1, v2, v3, v4]) = [v1] := by rw [c1_int]; rfl
        exact (congrArg (DataW.trod enc Try.prog W 0 (fun _ => true) true n' 3) e.symm).trans h
      have f2 : DataW.trod enc Try.prog W 0 (fun _ => true) true n' 31 [v2, v3, v4] = some y2 := by
        have h := hf 2 _ rfl
        have e : List.take (Try.prog.cellsOf 31) (List.drop 2 [v0, v1, v2, v3, v4]) = [v2, v3, v4] := by rw [c1_pk]; rfl
        exact (congrArg (DataW.trod enc Try.prog W 0 (fun _ => true) true n' 31) e.symm).trans h
      clear hf h
      obtain ⟨x0, e0, g0, h0⟩ := DataW.trod_int Try.underlying3 f0
      obtain ⟨x1, e1, g1, h1⟩ := DataW.trod_int Try.underlying3 f1
      obtain ⟨p, A, c, e2, hm⟩ := pk_vals (d := y2.1) (pl := y2.2) rfl f2 (fun m hm => hw m (by
        simp only [DataW.weights, Try.underlying33]
        exact DataW.weights_mem_each (j := 2) rfl rfl _ hm))
      injection e0 with e0
      injection e1 with e1
      subst e0 e1
      refine ⟨⟨x0, x1, p⟩, A, c, ?_, hm⟩
      rw [← e2]
theorem bulk_one {H : Type} (d : DataW H) : 1 ≤ Rows.uptoBulk d := by
  cases d with
  | lit l => cases l <;> simp [Rows.uptoBulk]
  | _ => simp [Rows.uptoBulk]
theorem bulk_all {H : Type} : ∀ (l : List (DataW H)), l.length ≤ Rows.uptoBulkAll l
  | [] => Nat.zero_le _
  | d :: r => by
    have h1 := bulk_one d
    have h2 := bulk_all r
    simp only [Rows.uptoBulkAll, List.length_cons]
    omega
theorem weights_all {H : Type} {e : TypeId} {m : Nat} : ∀ {l : List (DataW H)} {d : DataW H}, d ∈ l → m ∈ d.weights Try.prog e → m ∈ DataW.weightsAll Try.prog e l
  | x :: r, d, hd, hm => by
    simp only [DataW.weightsAll, List.mem_append]
    rcases List.mem_cons.1 hd with rfl | hd
    · exact .inl hm
    · exact .inr (weights_all hd hm)
/-- A list that came in: what holds of each element's cells. -/
theorem open_list {α : Type} [Inhabited α] {H : Type} {enc : TypeId × Value → H} {W : World} {base : Nat} {v : Value} {d : DataW H} {p : List MemPlace} {ts : List TypeId} {ds : List (DataW H)} {j : Nat}
    (T sT : TypeId) (z : Nat) (hsT : Try.prog.underlying sT = some (.slice T)) (hz : Try.prog.cellsOf T = z) (h0z : 0 < z) (Q : α → List Value → Prop)
    (hval : ∀ (n : Nat) (cs : List Value) (d : DataW H) (pl : List MemPlace), cs.length = z → DataW.trod enc Try.prog W 0 (fun _ => true) true n T cs = some (d, pl) → (∀ m ∈ d.weights Try.prog T, m ≤ reachBytes) → ∃ x, Q x cs)
    (hv : Value.okWide Try.prog W .any base sT v) (h : DataW.Trod enc Try.prog W 0 (fun _ => true) true sT v d p)
    (hw : (DataW.weightsEach Try.prog ts ds).all (· ≤ reachBytes) = true) (ht : ts[j]? = some sT) (hd : ds[j]? = some d) :
    ∃ (A : Option Addr) (c : Nat) (xs : List α), v = .slice A xs.length c ∧ xs.length ≤ c ∧ c * Try.prog.bytesOf T ≤ reachBytes ∧ xs.length ≤ Rows.uptoBulk d ∧
      (0 < xs.length → ∃ b o, A = some ⟨b, o, none⟩ ∧ b < W.heap.size ∧ ∀ i x, xs[i]? = some x → ∃ cs : List Value, cs.length = z ∧ Q x cs ∧ ∀ k, k < z → W.cell? ⟨b, o + i * z + k, none⟩ = cs[k]?) := by
  obtain ⟨A, len, cap, rfl⟩ := okWide_slice hsT hv
  obtain ⟨fuel, hf⟩ := h
  rcases open_slice hsT hf with ⟨hcs, hx⟩ | ⟨a, len', cap', m, n, D, Pl, hcs, _, hl, hm, hmm, hx, hi⟩
  · simp [Value.cells] at hcs
    obtain ⟨rfl, rfl, rfl⟩ := hcs
    exact ⟨none, 0, [], rfl, Nat.le_refl _, by omega, Nat.zero_le _, fun h => absurd h (Nat.lt_irrefl 0)⟩
  · simp [Value.cells] at hcs
    obtain ⟨rfl, rfl, rfl⟩ := hcs
    simp only [Prod.mk.injEq] at hx
    obtain ⟨rfl, _⟩ := hx
    have hmc : m = cap := by simpa using hmm
    subst hmc
    have hcap := sized_slice hw ht hd hsT
    simp only [List.length_map, List.length_range] at hcap
    have hwt : ∀ i, i < len → ∀ k ∈ (D i).weights Try.prog T, k ≤ reachBytes := fun i hil k hk => by
      have h1 := List.all_eq_true.1 hw k (DataW.weights_mem_each ht hd _ (by
        simp only [DataW.weights, hsT, List.mem_cons, List.mem_append]
        exact .inr (.inl (weights_all (List.mem_map.2 ⟨i, List.mem_range.2 hil, rfl⟩) hk))))
      simpa using h1
    obtain ⟨xs, hxl, hxs⟩ := list_of (Q := fun i (x : α) => ∃ cs : List Value, cs.length = z ∧ Q x cs ∧ ∀ k, k < z → W.cell? ((a.add (i * z)).add k) = cs[k]?) len (fun i hil => by
      obtain ⟨cs, hc, ht'⟩ := hi i (by omega)
      rw [hz] at hc
      obtain ⟨_, hcl, hat⟩ := World.cells?_some hc
      obtain ⟨x, hQ⟩ := hval _ cs _ _ hcl ht' (hwt i hil)
      exact ⟨x, cs, hcl, hQ, hat⟩)
    have hb := bulk_all ((List.range len).map D)
    rw [List.length_map, List.length_range] at hb
    refine ⟨some a, m, xs, by rw [hxl], by omega, ?_, ?_, fun h0 => ?_⟩
    · have e : len + (m - len) = m := by omega
      rw [e] at hcap
      exact hcap
    · rw [hxl]
      simp only [Rows.uptoBulk]
      omega
    obtain ⟨b, o, sp⟩ := a
    obtain ⟨cs0, hcl0, _, hat0⟩ := hxs 0 xs[0] (List.getElem?_eq_getElem h0)
    have c0 := hat0 0 h0z
    rw [List.getElem?_eq_getElem (by omega)] at c0
    have hsp : sp = none := by simpa [Addr.add] using World.cell?_spot c0
    subst hsp
    have hlt : b < W.heap.size := by
      have := World.block_lt_of_cell? W _ c0
      simpa [Addr.add] using this
    refine ⟨b, o, rfl, hlt, fun i x hx => ?_⟩
    obtain ⟨cs, hcl, hQ, hat⟩ := hxs i x hx
    refine ⟨cs, hcl, hQ, fun k hk => ?_⟩
    have h1 := hat k hk
    rw [Addr.add_lit, Addr.add_lit] at h1
    exact h1
/-- A list of packets that came in. -/
theorem open_packets {H : Type} {enc : TypeId × Value → H} {W : World} {base : Nat} {v : Value} {d : DataW H} {p : List MemPlace} {ts : List TypeId} {ds : List (DataW H)} {j : Nat}
    (hv : Value.okWide Try.prog W .any base 26 v) (h : DataW.Trod enc Try.prog W 0 (fun _ => true) true 26 v d p)
    (hw : (DataW.weightsEach Try.prog ts ds).all (· ≤ reachBytes) = true) (ht : ts[j]? = some 26) (hd : ds[j]? = some d) :
    ∃ (A : Option Addr) (c : Nat) (ps : List Pk), v = .slice A ps.length c ∧ PksAt (fun x => x < W.heap.size) W A ps ∧ ps.length ≤ c ∧ c * 40 ≤ 140737488351232 ∧ ∀ p ∈ ps, p.d.length ≤ 140737488351232 := by
  obtain ⟨A, c, xs, e, h1, h2, _, h4⟩ := open_list (α := Pv) 31 26 3 Try.underlying26 c1_pk (by decide) (fun x cs => cs = (three x.p x.A x.c).toList ∧ CameP W x.A x.c x.p)
    (fun n cs d pl hcl ht hw => by obtain ⟨p, A, c, e, hC⟩ := pk_vals hcl ht hw; exact ⟨⟨p, A, c⟩, e, hC⟩) hv h hw ht hd
  have hb : Try.prog.bytesOf 31 = 40 := by kernel_rfl
  rw [hb] at h2
  refine ⟨A, c, xs.map Pv.p, by rw [List.length_map]; exact e, fun h0 => ?_, by rw [List.length_map]; exact h1, h2, fun p hp => ?_⟩
  · rw [List.length_map] at h0
    obtain ⟨b, o, e1, hlt, hx⟩ := h4 h0
    refine ⟨b, o, e1, hlt, hlt, fun i p hi => ?_⟩
    rw [List.getElem?_map] at hi
    obtain ⟨x, hxi, e2⟩ := Option.map_eq_some_iff.1 hi
    subst e2
    obtain ⟨cs, hcl, ⟨e3, hC⟩, hat⟩ := hx i x hxi
    subst e3
    exact ⟨x.A, x.c, hat 0 (by decide), hat 1 (by decide), hat 2 (by decide), Data.arg hC.bytes (fun x hx => hx)⟩
  · obtain ⟨x, hx, e2⟩ := List.mem_map.1 hp
    subst e2
    obtain ⟨i, hi, e3⟩ := List.getElem_of_mem hx
    obtain ⟨b, o, e1, hlt, hxx⟩ := h4 (by omega)
    obtain ⟨cs, _, ⟨_, hC⟩, _⟩ := hxx i x (by rw [List.getElem?_eq_getElem hi, e3])
    have := hC.le
    have := hC.cap
    omega
/-- A list of calls that reads so. -/
def OpsAt (w : World) (A : Option Addr) (xs : List Op) : Prop :=
  0 < xs.length → ∃ b o, A = some ⟨b, o, none⟩ ∧ b < w.heap.size ∧ ∀ i x, xs[i]? = some x → ∃ B c, w.cell? ⟨b, o + i * 5, none⟩ = some (.int .i64 x.kind) ∧ w.cell? ⟨b, o + i * 5 + 1, none⟩ = some (.int .i64 x.k) ∧
    w.cell? ⟨b, o + i * 5 + 2, none⟩ = some (.int .i64 x.p.frm) ∧ w.cell? ⟨b, o + i * 5 + 3, none⟩ = some (.int .i64 x.p.dst) ∧ w.cell? ⟨b, o + i * 5 + 4, none⟩ = some (.slice B x.p.d.length c) ∧ BytesAt w B x.p.d ∧ x.p.d.length ≤ 140737488351232
theorem OpsAt.below {w w' : World} {A : Option Addr} {xs : List Op} (h : OpsAt w A xs) (hb : Below w.heap.size w w') : OpsAt w' A xs := fun h0 => by
  obtain ⟨b, o, e, hlt, hx⟩ := h h0
  refine ⟨b, o, e, Nat.lt_of_lt_of_le hlt hb.size, fun i x hi => ?_⟩
  obtain ⟨B, c, k0, k1, k2, k3, k4, k5, k6⟩ := hx i x hi
  have hm := Mod.of_below hb []
  exact ⟨B, c, (hm.cell (p := ⟨b, _, none⟩) hlt (by simp)).trans k0, (hm.cell (p := ⟨b, _, none⟩) hlt (by simp)).trans k1, (hm.cell (p := ⟨b, _, none⟩) hlt (by simp)).trans k2, (hm.cell (p := ⟨b, _, none⟩) hlt (by simp)).trans k3, (hm.cell (p := ⟨b, _, none⟩) hlt (by simp)).trans k4, k5.below hb, k6⟩
theorem OpsAt.nil (w : World) (A : Option Addr) : OpsAt w A [] := fun h => absurd h (Nat.lt_irrefl 0)
theorem open_ops {H : Type} {enc : TypeId × Value → H} {W : World} {base : Nat} {v : Value} {d : DataW H} {p : List MemPlace} {ts : List TypeId} {ds : List (DataW H)} {j : Nat}
    (hv : Value.okWide Try.prog W .any base 22 v) (h : DataW.Trod enc Try.prog W 0 (fun _ => true) true 22 v d p)
    (hw : (DataW.weightsEach Try.prog ts ds).all (· ≤ reachBytes) = true) (ht : ts[j]? = some 22) (hd : ds[j]? = some d) :
    ∃ (A : Option Addr) (c : Nat) (xs : List Op), v = .slice A xs.length c ∧ OpsAt W A xs ∧ xs.length ≤ c ∧ c ≤ 140737488351232 ∧ xs.length ≤ Rows.uptoBulk d := by
  obtain ⟨A, c, xs, e, h1, h2, h3, h4⟩ := open_list (α := Op) 33 22 5 Try.underlying22 (by kernel_rfl) (by decide) (fun x cs => ∃ B c, cs = .int .i64 x.kind :: .int .i64 x.k :: (three x.p B c).toList ∧ CameP W B c x.p)
    (fun n cs d pl hcl ht hw => by obtain ⟨o, B, c, e, hC⟩ := op_vals hcl ht hw; exact ⟨o, B, c, e, hC⟩) hv h hw ht hd
  have hb : Try.prog.bytesOf 33 = 56 := by kernel_rfl
  rw [hb] at h2
  have hreach : reachBytes = 140737488351232 := rfl
  refine ⟨A, c, xs, e, fun h0 => ?_, h1, by omega, h3⟩
  obtain ⟨b, o, e1, hlt, hx⟩ := h4 h0
  refine ⟨b, o, e1, hlt, fun i x hi => ?_⟩
  obtain ⟨cs, hcl, ⟨B, c', e3, hC⟩, hat⟩ := hx i x hi
  subst e3
  exact ⟨B, c', hat 0 (by decide), hat 1 (by decide), hat 2 (by decide), hat 3 (by decide), hat 4 (by decide), hC.bytes, by have := hC.le; have := hC.cap; omega⟩
end Go.Proofs.Ytnbfdgccaacdiaa
