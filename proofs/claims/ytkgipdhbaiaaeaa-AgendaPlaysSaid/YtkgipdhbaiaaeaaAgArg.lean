/- Items, lists of items and lists of calls that came in, opened to their cells. -/
import Derived.Test.YtkgipdhbaiaaeaaAgR1
import Derived.Test.YtkgipdhbaiaaeaaInts
import Derived.Test.YtkgipdhbaiaaeaaRows
import Derived.OpenShut
import Derived.JoinedCond
import Derived.SizedLaws
import Derived.Deep.Slices
import Derived.Deep.CondSized
namespace Go.Proofs.Ytkgipdhbaiaaeaa
open Go.RowKit Go.ChangeShapes Go.WideShapes Go.ChangeAt Go.Deep
open AM (It g)
set_option linter.unusedVariables false
set_option linter.unusedSimpArgs false
set_option maxRecDepth 100000
theorem c1_int : Try.prog.cellsOf 3 = 1 := by kernel_rfl
theorem c1_kind : Try.prog.cellsOf 27 = 1 := by kernel_rfl
theorem c1_it : Try.prog.cellsOf 29 = 3 := by kernel_rfl
theorem c1_op : Try.prog.cellsOf 34 = 4 := by kernel_rfl
def In64 (k : Int) : Prop := -9223372036854775808 ≤ k ∧ k ≤ 9223372036854775807
theorem in64_of {k : Int} (hk : (Lit.int .i64 k).wf = true) : In64 k := by simpa [In64, Lit.wf, IntKind.min, IntKind.max, IntKind.signed, IntKind.bits] using hk
/-- An item as it may come in. -/
def ItW (x : It) : Prop := In64 x.due ∧ In64 x.kind ∧ In64 x.key
set_option maxHeartbeats 4000000 in
theorem it_vals {H : Type} {enc : TypeId × Value → H} {W : World} {n : Nat} {d : DataW H} {pl : List MemPlace} {cs : List Value}
    (hcl : cs.length = 3) (h : DataW.trod enc Try.prog W 0 (fun _ => true) true n 29 cs = some (d, pl)) :
    ∃ (x : It), cs = c3 x ∧ ItW x := by
  obtain ⟨ys, n', _, hy, _, hyl, hf⟩ := DataW.trod_struct Try.underlying29 h
  match cs, hcl with
  | [v0, v1, v2], _ =>
    match ys, hyl with
    | [y0, y1, y2], _ =>
      simp only [Prod.mk.injEq, List.map_cons, List.map_nil] at hy
      obtain ⟨rfl, _⟩ := hy
      have f0 : DataW.trod enc Try.prog W 0 (fun _ => true) true n' 3 [v0] = some y0 := by
        have h := hf 0 _ rfl
        have e : List.take (Try.prog.cellsOf 3) (List.drop 0 [v0, v1, v2]) = [v0] := by rw [c1_int]; rfl
        exact (congrArg (DataW.trod enc Try.prog W 0 (fun _ => true) true n' 3) e.symm).trans h
      have f1 : DataW.trod enc Try.prog W 0 (fun _ => true) true n' 27 [v1] = some y1 := by
        have h := hf 1 _ rfl
        have e : List.take (Try.prog.cellsOf 27) (List.drop 1 [v0, v1, v2]) = [v1] := by rw [c1_kind]; rfl
        exact (congrArg (DataW.trod enc Try.prog W 0 (fun _ => true) true n' 27) e.symm).trans h
      have f2 : DataW.trod enc Try.prog W 0 (fun _ => true) true n' 3 [v2] = some y2 := by
        have h := hf 2 _ rfl
        have e : List.take (Try.prog.cellsOf 3) (List.drop 2 [v0, v1, v2]) = [v2] := by rw [c1_int]; rfl
        exact (congrArg (DataW.trod enc Try.prog W 0 (fun _ => true) true n' 3) e.symm).trans h
      clear hf h
      obtain ⟨x0, e0, g0, h0⟩ := DataW.trod_int Try.underlying3 f0
      obtain ⟨x1, e1, g1, h1⟩ := DataW.trod_int Try.underlying27 f1
      obtain ⟨x2, e2, g2, h2⟩ := DataW.trod_int Try.underlying3 f2
      injection e0 with e0
      injection e1 with e1
      injection e2 with e2
      subst e0 e1 e2
      exact ⟨⟨x0, x1, x2⟩, rfl, in64_of h0, in64_of h1, in64_of h2⟩
/-- An item that came in. -/
theorem open_item {H : Type} {enc : TypeId × Value → H} {W : World} {base : Nat} {v : Value} {d : DataW H} {p : List MemPlace}
    (hv : Value.okWide Try.prog W .any base 29 v) (h : DataW.Trod enc Try.prog W 0 (fun _ => true) true 29 v d p) :
    ∃ (x : It), v = agg x ∧ ItW x := by
  obtain ⟨cs, rfl, hc⟩ := okWide_struct Try.underlying29 hv
  obtain ⟨fuel, hf⟩ := h
  rw [c1_it] at hc
  obtain ⟨x, e, hm⟩ := it_vals (cs := (Value.agg cs).cells.toList) (by simpa [Value.cells] using hc) hf
  refine ⟨x, ?_, hm⟩
  have h1 : cs.toList = c3 x := by simpa [Value.cells] using e
  have h2 : cs = (c3 x).toArray := by rw [← h1]
  rw [h2]
  rfl
/-- A call that came in. -/
structure Op where
  kind : Int
  x : It
instance instOp : Inhabited Op := ⟨⟨0, default⟩⟩
def c4 (o : Op) : List Value := .int .i64 o.kind :: c3 o.x
set_option maxHeartbeats 4000000 in
theorem op_vals {H : Type} {enc : TypeId × Value → H} {W : World} {n : Nat} {d : DataW H} {pl : List MemPlace} {cs : List Value}
    (hcl : cs.length = 4) (h : DataW.trod enc Try.prog W 0 (fun _ => true) true n 34 cs = some (d, pl)) :
    ∃ (o : Op), cs = c4 o ∧ In64 o.kind ∧ ItW o.x := by
  obtain ⟨ys, n', _, hy, _, hyl, hf⟩ := DataW.trod_struct Try.underlying34 h
  match cs, hcl with
  | [v0, v1, v2, v3], _ =>
    match ys, hyl with
    | [y0, y1], _ =>
      simp only [Prod.mk.injEq, List.map_cons, List.map_nil] at hy
      obtain ⟨rfl, _⟩ := hy
      have f0 : DataW.trod enc Try.prog W 0 (fun _ => true) true n' 3 [v0] = some y0 := by
        have h := hf 0 _ rfl
        have e : List.take (Try.prog.cellsOf 3) (List.drop 0 [v0, v1, v2, v3]) = [v0] := by rw [c1_int]; rfl
        exact (congrArg (DataW.trod enc Try.prog W 0 (fun _ => true) true n' 3) e.symm).trans h
      have f1 : DataW.trod enc Try.prog W 0 (fun _ => true) true n' 29 [v1, v2, v3] = some y1 := by
        have h := hf 1 _ rfl
        have e : List.take (Try.prog.cellsOf 29) (List.drop 1 [v0, v1, v2, v3]) = [v1, v2, v3] := by rw [c1_it]; rfl
        exact (congrArg (DataW.trod enc Try.prog W 0 (fun _ => true) true n' 29) e.symm).trans h
      clear hf h
      obtain ⟨x0, e0, g0, h0⟩ := DataW.trod_int Try.underlying3 f0
      obtain ⟨x, e1, hm⟩ := it_vals (d := y1.1) (pl := y1.2) rfl f1
      injection e0 with e0
      subst e0
      refine ⟨⟨x0, x⟩, ?_, in64_of h0, hm⟩
      unfold c4
      rw [← e1]
theorem bulk_one {H : Type} (d : DataW H) : 1 ≤ Rows.uptoBulk d := by
  cases d with
  | lit l => cases l <;> simp [Rows.uptoBulk]
  | _ => simp [Rows.uptoBulk]
theorem bulk_all {H : Type} : ∀ (l : List (DataW H)), l.length ≤ Rows.uptoBulkAll l
  | [] => Nat.zero_le _
  | d :: r => by
    have h1 := bulk_one d
    have h2 := bulk_all r
    simp only [Rows.uptoBulkAll, List.length_cons]
    omega
theorem weights_all {H : Type} {e : TypeId} {m : Nat} : ∀ {l : List (DataW H)} {d : DataW H}, d ∈ l → m ∈ d.weights Try.prog e → m ∈ DataW.weightsAll Try.prog e l
  | x :: r, d, hd, hm => by
    simp only [DataW.weightsAll, List.mem_append]
    rcases List.mem_cons.1 hd with rfl | hd
    · exact .inl hm
    · exact .inr (weights_all hd hm)
/-- A list that came in: what holds of each element's cells. -/
theorem open_list {α : Type} [Inhabited α] {H : Type} {enc : TypeId × Value → H} {W : World} {base : Nat} {v : Value} {d : DataW H} {p : List MemPlace} {ts : List TypeId} {ds : List (DataW H)} {j : Nat}
    (T sT : TypeId) (z : Nat) (hsT : Try.prog.underlying sT = some (.slice T)) (hz : Try.prog.cellsOf T = z) (h0z : 0 < z) (Q : α → List Value → Prop)
    (hval : ∀ (n : Nat) (cs : List Value) (d : DataW H) (pl : List MemPlace), cs.length = z → DataW.trod enc Try.prog W 0 (fun _ => true) true n T cs = some (d, pl) → (∀ m ∈ d.weights Try.prog T, m ≤ reachBytes) → ∃ x, Q x cs)
    (hv : Value.okWide Try.prog W .any base sT v) (h : DataW.Trod enc Try.prog W 0 (fun _ => true) true sT v d p)
    (hw : (DataW.weightsEach Try.prog ts ds).all (· ≤ reachBytes) = true) (ht : ts[j]? = some sT) (hd : ds[j]? = some d) :
    ∃ (A : Option Addr) (c : Nat) (xs : List α), v = .slice A xs.length c ∧ xs.length ≤ c ∧ c * Try.prog.bytesOf T ≤ reachBytes ∧ xs.length ≤ Rows.uptoBulk d ∧
      (0 < xs.length → ∃ b o, A = some ⟨b, o, none⟩ ∧ b < W.heap.size ∧ ∀ i x, xs[i]? = some x → ∃ cs : List Value, cs.length = z ∧ Q x cs ∧ ∀ k, k < z → W.cell? ⟨b, o + i * z + k, none⟩ = cs[k]?) := by
  obtain ⟨A, len, cap, rfl⟩ := okWide_slice hsT hv
  obtain ⟨fuel, hf⟩ := h
  rcases open_slice hsT hf with ⟨hcs, hx⟩ | ⟨a, len', cap', m, n, D, Pl, hcs, _, hl, hm, hmm, hx, hi⟩
  · simp [Value.cells] at hcs
    obtain ⟨rfl, rfl, rfl⟩ := hcs
    exact ⟨none, 0, [], rfl, Nat.le_refl _, by omega, Nat.zero_le _, fun h => absurd h (Nat.lt_irrefl 0)⟩
  · simp [Value.cells] at hcs
    obtain ⟨rfl, rfl, rfl⟩ := hcs
    simp only [Prod.mk.injEq] at hx
    obtain ⟨rfl, _⟩ := hx
    have hmc : m = cap := by simpa using hmm
    subst hmc
    have hcap := sized_slice hw ht hd hsT
    simp only [List.length_map, List.length_range] at hcap
    have hwt : ∀ i, i < len → ∀ k ∈ (D i).weights Try.prog T, k ≤ reachBytes := fun i hil k hk => by
      have h1 := List.all_eq_true.1 hw k (DataW.weights_mem_each ht hd _ (by
        simp only [DataW.weights, hsT, List.mem_cons, List.mem_append]
        exact .inr (.inl (weights_all (List.mem_map.2 ⟨i, List.mem_range.2 hil, rfl⟩) hk))))
      simpa using h1
    obtain ⟨xs, hxl, hxs⟩ := list_of (Q := fun i (x : α) => ∃ cs : List Value, cs.length = z ∧ Q x cs ∧ ∀ k, k < z → W.cell? ((a.add (i * z)).add k) = cs[k]?) len (fun i hil => by
      obtain ⟨cs, hc, ht'⟩ := hi i (by omega)
      rw [hz] at hc
      obtain ⟨_, hcl, hat⟩ := World.cells?_some hc
      obtain ⟨x, hQ⟩ := hval _ cs _ _ hcl ht' (hwt i hil)
      exact ⟨x, cs, hcl, hQ, hat⟩)
    have hb := bulk_all ((List.range len).map D)
    rw [List.length_map, List.length_range] at hb
    refine ⟨some a, m, xs, by rw [hxl], by omega, ?_, ?_, fun h0 => ?_⟩
    · have e : len + (m - len) = m := by omega
      rw [e] at hcap
      exact hcap
    · rw [hxl]
      simp only [Rows.uptoBulk]
      omega
    obtain ⟨b, o, sp⟩ := a
    obtain ⟨cs0, hcl0, _, hat0⟩ := hxs 0 xs[0] (List.getElem?_eq_getElem h0)
    have c0 := hat0 0 h0z
    rw [List.getElem?_eq_getElem (by omega)] at c0
    have hsp : sp = none := by simpa [Addr.add] using World.cell?_spot c0
    subst hsp
    have hlt : b < W.heap.size := by
      have := World.block_lt_of_cell? W _ c0
      simpa [Addr.add] using this
    refine ⟨b, o, rfl, hlt, fun i x hx => ?_⟩
    obtain ⟨cs, hcl, hQ, hat⟩ := hxs i x hx
    refine ⟨cs, hcl, hQ, fun k hk => ?_⟩
    have h1 := hat k hk
    rw [Addr.add_lit, Addr.add_lit] at h1
    exact h1
/-- A list of items that came in. -/
theorem open_items {H : Type} {enc : TypeId × Value → H} {W : World} {base : Nat} {v : Value} {d : DataW H} {p : List MemPlace} {ts : List TypeId} {ds : List (DataW H)} {j : Nat}
    (hv : Value.okWide Try.prog W .any base 32 v) (h : DataW.Trod enc Try.prog W 0 (fun _ => true) true 32 v d p)
    (hw : (DataW.weightsEach Try.prog ts ds).all (· ≤ reachBytes) = true) (ht : ts[j]? = some 32) (hd : ds[j]? = some d) :
    ∃ (A : Option Addr) (c : Nat) (xs : List It), v = .slice A xs.length c ∧ ItsAt W A xs ∧ xs.length ≤ c ∧ c * 24 ≤ 140737488351232 ∧ ∀ x ∈ xs, ItW x := by
  obtain ⟨A, c, xs, e, h1, h2, _, h4⟩ := open_list (α := It) 29 32 3 Try.underlying32 c1_it (by decide) (fun x cs => cs = c3 x ∧ ItW x)
    (fun n cs d pl hcl ht hw => by obtain ⟨x, e, hC⟩ := it_vals hcl ht; exact ⟨x, e, hC⟩) hv h hw ht hd
  have hb : Try.prog.bytesOf 29 = 24 := by kernel_rfl
  have hr : reachBytes = 140737488351232 := rfl
  rw [hb, hr] at h2
  refine ⟨A, c, xs, e, fun h0 => ?_, h1, h2, fun x hx => ?_⟩
  · obtain ⟨b, o, eA, hlt, hc⟩ := h4 h0
    refine ⟨b, o, eA, hlt, fun i x hx => ?_⟩
    obtain ⟨cs, hcl, ⟨rfl, _⟩, hk⟩ := hc i x hx
    exact ⟨hk 0 (by omega), hk 1 (by omega), hk 2 (by omega)⟩
  · obtain ⟨i, hi, rfl⟩ := List.getElem_of_mem hx
    obtain ⟨b, o, eA, hlt, hc⟩ := h4 (by omega)
    obtain ⟨cs, hcl, ⟨_, hq⟩, hk⟩ := hc i _ (List.getElem?_eq_getElem hi)
    exact hq
/-- A list of calls that reads so. -/
def OpsAt (w : World) (A : Option Addr) (xs : List Op) : Prop :=
  0 < xs.length → ∃ b o, A = some ⟨b, o, none⟩ ∧ b < w.heap.size ∧ ∀ j x, xs[j]? = some x → w.cell? ⟨b, o + j * 4, none⟩ = some (.int .i64 x.kind) ∧ w.cell? ⟨b, o + j * 4 + 1, none⟩ = some (.int .i64 x.x.due) ∧ w.cell? ⟨b, o + j * 4 + 2, none⟩ = some (.int .i64 x.x.kind) ∧ w.cell? ⟨b, o + j * 4 + 3, none⟩ = some (.int .i64 x.x.key)
theorem OpsAt.below {w w' : World} {A : Option Addr} {xs : List Op} (h : OpsAt w A xs) (hb : Below w.heap.size w w') : OpsAt w' A xs := fun h0 => by
  obtain ⟨b, o, e, hlt, hc⟩ := h h0
  refine ⟨b, o, e, Nat.lt_of_lt_of_le hlt hb.size, fun j x hx => ?_⟩
  obtain ⟨h1, h2, h3, h4⟩ := hc j x hx
  exact ⟨(hb.cell (p := ⟨b, o + j * 4, none⟩) hlt).trans h1, (hb.cell (p := ⟨b, o + j * 4 + 1, none⟩) hlt).trans h2, (hb.cell (p := ⟨b, o + j * 4 + 2, none⟩) hlt).trans h3, (hb.cell (p := ⟨b, o + j * 4 + 3, none⟩) hlt).trans h4⟩
/-- A list of calls that came in. -/
theorem open_ops {H : Type} {enc : TypeId × Value → H} {W : World} {base : Nat} {v : Value} {d : DataW H} {p : List MemPlace} {ts : List TypeId} {ds : List (DataW H)} {j : Nat}
    (hv : Value.okWide Try.prog W .any base 31 v) (h : DataW.Trod enc Try.prog W 0 (fun _ => true) true 31 v d p)
    (hw : (DataW.weightsEach Try.prog ts ds).all (· ≤ reachBytes) = true) (ht : ts[j]? = some 31) (hd : ds[j]? = some d) :
    ∃ (A : Option Addr) (c : Nat) (xs : List Op), v = .slice A xs.length c ∧ OpsAt W A xs ∧ xs.length ≤ c ∧ c * 32 ≤ 140737488351232 ∧ ∀ o ∈ xs, In64 o.kind ∧ ItW o.x := by
  obtain ⟨A, c, xs, e, h1, h2, _, h4⟩ := open_list (α := Op) 34 31 4 Try.underlying31 c1_op (by decide) (fun o cs => cs = c4 o ∧ In64 o.kind ∧ ItW o.x)
    (fun n cs d pl hcl ht hw => by obtain ⟨x, e, hC⟩ := op_vals hcl ht; exact ⟨x, e, hC⟩) hv h hw ht hd
  have hb : Try.prog.bytesOf 34 = 32 := by kernel_rfl
  have hr : reachBytes = 140737488351232 := rfl
  rw [hb, hr] at h2
  refine ⟨A, c, xs, e, fun h0 => ?_, h1, h2, fun x hx => ?_⟩
  · obtain ⟨b, o, eA, hlt, hc⟩ := h4 h0
    refine ⟨b, o, eA, hlt, fun i x hx => ?_⟩
    obtain ⟨cs, hcl, ⟨rfl, _⟩, hk⟩ := hc i x hx
    exact ⟨hk 0 (by omega), hk 1 (by omega), hk 2 (by omega), hk 3 (by omega)⟩
  · obtain ⟨i, hi, rfl⟩ := List.getElem_of_mem hx
    obtain ⟨b, o, eA, hlt, hc⟩ := h4 (by omega)
    obtain ⟨cs, hcl, ⟨_, hq⟩, hk⟩ := hc i _ (List.getElem?_eq_getElem hi)
    exact hq
end Go.Proofs.Ytkgipdhbaiaaeaa
