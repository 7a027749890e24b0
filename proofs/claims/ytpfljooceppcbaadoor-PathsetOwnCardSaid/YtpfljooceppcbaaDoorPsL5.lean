/- Entries and calls that came in, read cell by cell. -/
import Derived.Test.YtpfljooceppcbaaDoorPsL4
import Derived.OpenShut
namespace Go.Proofs.YtpfljooceppcbaaDoor
open Go.RowKit
open SE (Ent)
set_option linter.unusedVariables false
set_option maxRecDepth 100000
instance : Inhabited Ent := ⟨noEnt⟩
instance : Inhabited Opr := ⟨⟨0, noEnt⟩⟩
def datumE {H : Type} (x : Ent) : DataW H := .agg [.lit (.int .i64 x.id), .lit (.string x.path.data.toList), .lit (.int .i64 x.mode), .lit (.int .i64 x.who)]
def datumO {H : Type} (x : Opr) : DataW H := .agg [.lit (.int .i64 x.kind), datumE x.ent]
/-- Numbers in their bounds. -/
def Fits (x : Ent) : Prop := (-9223372036854775808 ≤ x.id ∧ x.id ≤ 9223372036854775807) ∧ (-9223372036854775808 ≤ x.mode ∧ x.mode ≤ 9223372036854775807) ∧ (-9223372036854775808 ≤ x.who ∧ x.who ≤ 9223372036854775807)
section
open Go.ChangeShapes Go.WideShapes Go.ChangeAt Go.Deep
theorem cells_string : Tryd.prog.cellsOf 9 = 1 := by kernel_rfl
theorem cells_mode : Tryd.prog.cellsOf 23 = 1 := by kernel_rfl
theorem cells_ent : Tryd.prog.cellsOf 25 = 4 := by kernel_rfl
theorem ent_vals {H : Type} {enc : TypeId × Value → H} {W : World} {spare : Nat → Bool} {held : Bool} {n : Nat} {d : DataW H} {pl : List MemPlace} {cs : List Value}
    (hcl : cs.length = 4) (h : DataW.trod enc Tryd.prog W 0 spare held n 25 cs = some (d, pl)) : ∃ x : Ent, Fits x ∧ d = datumE x ∧ cs = four x := by
  obtain ⟨ys, n', _, hy, _, hyl, hf⟩ := DataW.trod_struct Tryd.underlying25 h
  match cs, hcl with
  | [v0, v1, v2, v3], _ =>
    match ys, hyl with
    | [y0, y1, y2, y3], _ =>
      have f0 := hf 0 _ rfl
      have f1 := hf 1 _ rfl
      have f2 := hf 2 _ rfl
      have f3 := hf 3 _ rfl
      simp only [Prod.mk.injEq] at hy
      obtain ⟨k, e0, g0, hk⟩ := DataW.trod_int Tryd.underlying3 f0
      obtain ⟨s, e1, g1, hs⟩ := DataW.trod_string Tryd.underlying9 f1
      obtain ⟨m, e2, g2, hm⟩ := DataW.trod_int Tryd.underlying23 f2
      obtain ⟨o, e3, g3, ho⟩ := DataW.trod_int Tryd.underlying3 f3
      refine ⟨⟨k, s, m, o⟩, ⟨?_, ?_, ?_⟩, ?_, ?_⟩
      · simpa [Lit.wf, IntKind.min, IntKind.max, IntKind.signed, IntKind.bits] using hk
      · simpa [Lit.wf, IntKind.min, IntKind.max, IntKind.signed, IntKind.bits] using hm
      · simpa [Lit.wf, IntKind.min, IntKind.max, IntKind.signed, IntKind.bits] using ho
      · rw [hy.1]
        simp only [List.map_cons, List.map_nil, g0, g1, g2, g3, datumE]
      · have a0 : v0 = .int .i64 k := by
          have h : List.take (Tryd.prog.cellsOf 3) [v0, v1, v2, v3] = [.int .i64 k] := e0
          rw [cells_int] at h
          simpa using h
        have a1 : v1 = .string s := by
          have h : List.take (Tryd.prog.cellsOf 9) [v1, v2, v3] = [.string s] := e1
          rw [cells_string] at h
          simpa using h
        have a2 : v2 = .int .i64 m := by
          have h : List.take (Tryd.prog.cellsOf 23) [v2, v3] = [.int .i64 m] := e2
          rw [cells_mode] at h
          simpa using h
        have a3 : v3 = .int .i64 o := by
          have h : List.take (Tryd.prog.cellsOf 3) [v3] = [.int .i64 o] := e3
          rw [cells_int] at h
          simpa using h
        rw [a0, a1, a2, a3]
        rfl
/-- How long a path is that came in: no longer than what memory reaches. -/
theorem path_weight {H : Type} (x : Ent) : x.path.size ∈ (datumE (H := H) x).weights Tryd.prog 25 := by
  have e : x.path.data.toList.length = x.path.size := rfl
  unfold datumE
  simp only [DataW.weights, Tryd.underlying25]
  exact DataW.weights_mem_each (j := 1) rfl rfl _ (by simp [DataW.weights, e])
theorem weights_all {H : Type} {α : Type} {t : TypeId} {f : α → DataW H} {m : Nat} {x : α} : ∀ {l : List α}, x ∈ l → m ∈ (f x).weights Tryd.prog t → m ∈ DataW.weightsAll Tryd.prog t (l.map f)
  | [], h, _ => by simp at h
  | y :: r, h, hm => by
    rw [List.map_cons]
    simp only [DataW.weightsAll, List.mem_append]
    rcases List.mem_cons.1 h with rfl | h
    · exact .inl hm
    · exact .inr (weights_all h hm)
theorem Fits.fair {x : Ent} (h : Fits x) (hs : x.path.size ≤ reachBytes) : Fair x := ⟨h.1, hs, h.2.1, h.2.2⟩
/-- One entry that came in. -/
theorem open_ent {H : Type} {enc : TypeId × Value → H} {W : World} {base : Nat} {v : Value} {d : DataW H} {p : List MemPlace} {ts : List TypeId} {ds : List (DataW H)} {j : Nat}
    (hv : Value.okWide Tryd.prog W .any base 25 v) (h : DataW.Trod enc Tryd.prog W 0 (fun _ => true) true 25 v d p)
    (hw : (DataW.weightsEach Tryd.prog ts ds).all (· ≤ reachBytes) = true) (ht : ts[j]? = some 25) (hd : ds[j]? = some d) : ∃ x : Ent, v = agg x ∧ Fair x := by
  obtain ⟨cs, rfl, hc⟩ := okWide_struct Tryd.underlying25 hv
  obtain ⟨fuel, hf⟩ := h
  rw [cells_ent] at hc
  obtain ⟨x, hx, e1, e2⟩ := ent_vals (cs := (Value.agg cs).cells.toList) (by simpa [Value.cells] using hc) hf
  subst e1
  refine ⟨x, ?_, hx.fair ?_⟩
  · have : cs.toList = four x := by simpa [Value.cells] using e2
    have h2 : cs = (four x).toArray := by rw [← this]
    rw [h2]; rfl
  · have := List.all_eq_true.1 hw _ (DataW.weights_mem_each ht hd _ (path_weight x))
    simpa using this
/-- A list of calls that reads so. -/
def OprsAt (w : World) (A : Option Addr) (xs : List Opr) : Prop :=
  0 < xs.length → ∃ b o, A = some ⟨b, o, none⟩ ∧ b < w.heap.size ∧ ∀ j x, xs[j]? = some x → w.cell? ⟨b, o + j * 5, none⟩ = some (.int .i64 x.kind) ∧ EntCells w b (o + j * 5 + 1) x.ent
theorem open_rows {H : Type} {enc : TypeId × Value → H} {W : World} {α : Type} [Inhabited α] {t e : TypeId} {z : Nat} (f : α → DataW H) (Q : α → List Value → Prop) (hu : Tryd.prog.underlying t = some (.slice e)) (hz : Tryd.prog.cellsOf e = z) (hz0 : 0 < z)
    (one : ∀ {n cs d pl}, cs.length = z → DataW.trod enc Tryd.prog W 0 (fun _ => true) true n e cs = some (d, pl) → ∃ x : α, d = f x ∧ Q x cs)
    {base : Nat} {v : Value} {d : DataW H} {p : List MemPlace} (hv : Value.okWide Tryd.prog W .any base t v) (h : DataW.Trod enc Tryd.prog W 0 (fun _ => true) true t v d p) :
    ∃ A c, ∃ xs : List α, v = .slice A xs.length c ∧ xs.length ≤ c ∧ c ≤ 9223372036854775807 ∧ (d = .nil ∨ ∃ sp, d = .slice (xs.map f) sp) ∧ (d = .nil → xs = []) ∧
      ∀ (h0 : 0 < xs.length), ∃ b o, A = some ⟨b, o, none⟩ ∧ b < W.heap.size ∧ ∀ j x, xs[j]? = some x → ∃ cs : List Value, cs.length = z ∧ Q x cs ∧ ∀ i, i < z → W.cell? ⟨b, o + j * z + i, none⟩ = cs[i]? := by
  obtain ⟨A, len, cap, rfl⟩ := okWide_slice hu hv
  obtain ⟨fuel, hf⟩ := h
  rcases open_slice hu hf with ⟨hcs, hx⟩ | ⟨a, len', cap', m, n, D, Pl, hcs, _, hl, hm, hmm, hx, hi⟩
  · simp [Value.cells] at hcs
    obtain ⟨rfl, rfl, rfl⟩ := hcs
    simp only [Prod.mk.injEq] at hx
    exact ⟨none, 0, [], rfl, Nat.le_refl _, by omega, .inl hx.1, fun _ => rfl, fun h => absurd h (Nat.lt_irrefl 0)⟩
  · simp [Value.cells] at hcs
    obtain ⟨rfl, rfl, rfl⟩ := hcs
    simp only [Prod.mk.injEq] at hx
    obtain ⟨rfl, _⟩ := hx
    have hmc : m = cap := by simpa using hmm
    subst hmc
    obtain ⟨xs, hxl, hxs⟩ := list_of (Q := fun i (x : α) => ∃ cs : List Value, cs.length = z ∧ D i = f x ∧ Q x cs ∧ ∀ k, k < z → W.cell? ((a.add (i * z)).add k) = cs[k]?) len (fun i hil => by
      obtain ⟨cs, hc, ht⟩ := hi i (by omega)
      rw [hz] at hc
      obtain ⟨_, hcl, hat⟩ := World.cells?_some hc
      obtain ⟨x, hx1, hx2⟩ := one hcl ht
      exact ⟨x, cs, hcl, hx1, hx2, fun k hk => hat k hk⟩)
    have hD : (List.range len).map D = xs.map f := by
      apply List.ext_getElem?
      intro i
      rw [List.getElem?_map, List.getElem?_map]
      by_cases h : i < len
      · have h1 : (List.range len)[i]? = some i := by simp [h]
        have h2 : i < xs.length := by omega
        rw [h1, List.getElem?_eq_getElem h2]
        obtain ⟨_, _, h3, _⟩ := hxs i _ (List.getElem?_eq_getElem h2)
        exact congrArg some h3
      · rw [List.getElem?_eq_none (by simp; omega), List.getElem?_eq_none (by omega)]
        rfl
    refine ⟨some a, m, xs, by rw [hxl], by omega, by unfold maxLen at hm; omega, .inr ⟨_, by rw [hD]⟩, (fun h => by cases h), fun h0 => ?_⟩
    obtain ⟨b, o, sp⟩ := a
    obtain ⟨cs0, hl0, _, _, hc0⟩ := hxs 0 xs[0] (List.getElem?_eq_getElem h0)
    have c0 := hc0 0 hz0
    rw [List.getElem?_eq_getElem (by omega)] at c0
    have hsp : sp = none := by simpa [Addr.add] using World.cell?_spot c0
    subst hsp
    have hlt : b < W.heap.size := by
      have := World.block_lt_of_cell? W _ c0
      simpa [Addr.add] using this
    refine ⟨b, o, rfl, hlt, fun j x hx => ?_⟩
    obtain ⟨cs, hcl, _, hq, hc⟩ := hxs j x hx
    refine ⟨cs, hcl, hq, fun i hi => ?_⟩
    have h1 := hc i hi
    rw [Addr.add_lit, Addr.add_lit] at h1
    exact h1
theorem small_of {n m z : Nat} (h : n * z ≤ reachBytes) (hz : m ≤ z) : n * m ≤ 140737488351232 := Nat.le_trans (Nat.mul_le_mul_left n hz) h
/-- Entries that came in. -/
theorem open_ents {H : Type} {enc : TypeId × Value → H} {W : World} {base : Nat} {v : Value} {d : DataW H} {p : List MemPlace} {ts : List TypeId} {ds : List (DataW H)} {j : Nat}
    (hv : Value.okWide Tryd.prog W .any base 22 v) (h : DataW.Trod enc Tryd.prog W 0 (fun _ => true) true 22 v d p)
    (hw : (DataW.weightsEach Tryd.prog ts ds).all (· ≤ reachBytes) = true) (ht : ts[j]? = some 22) (hd : ds[j]? = some d) :
    ∃ A c xs, v = .slice A xs.length c ∧ EntsAt W A xs ∧ xs.length ≤ c ∧ c ≤ 9223372036854775807 ∧ ∀ x ∈ xs, Fair x := by
  obtain ⟨A, c, xs, h1, h2, h3, h4, h5, h6⟩ := open_rows (α := Ent) (f := datumE) (fun x cs => Fits x ∧ cs = four x) Tryd.underlying22 cells_ent (by decide) (fun hcl ht => by
    obtain ⟨x, hx, e1, e2⟩ := ent_vals hcl ht
    exact ⟨x, e1, hx, e2⟩) hv h
  refine ⟨A, c, xs, h1, fun h0 => ?_, h2, h3, fun x hx => ?_⟩
  · obtain ⟨b, o, e, hb, hc⟩ := h6 h0
    refine ⟨b, o, e, hb, fun j x hx => ?_⟩
    obtain ⟨cs, _, ⟨_, rfl⟩, hk⟩ := hc j x hx
    exact ⟨hk 0 (by decide), hk 1 (by decide), hk 2 (by decide), hk 3 (by decide)⟩
  · obtain ⟨j', hj', e⟩ := List.getElem_of_mem hx
    obtain ⟨b, o, _, _, hc⟩ := h6 (by omega)
    obtain ⟨cs, _, ⟨hf, _⟩, _⟩ := hc j' x (by rw [List.getElem?_eq_getElem hj', e])
    refine hf.fair ?_
    rcases h4 with h4 | ⟨sp, h4⟩
    · rw [h5 h4] at hx; simp at hx
    · have hm : x.path.size ∈ d.weights Tryd.prog 22 := by
        rw [h4]
        simp only [DataW.weights, Tryd.underlying22, List.mem_cons, List.mem_append]
        exact .inr (.inl (weights_all hx (path_weight x)))
      have := List.all_eq_true.1 hw _ (DataW.weights_mem_each ht hd _ hm)
      simpa using this
end
end Go.Proofs.YtpfljooceppcbaaDoor
