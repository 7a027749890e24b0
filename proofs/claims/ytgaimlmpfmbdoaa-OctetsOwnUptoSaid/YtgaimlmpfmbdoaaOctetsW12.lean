/- A list of things that came in, read cell by cell; what laying such a list down leaves. -/
import Derived.Test.YtgaimlmpfmbdoaaOctetsW11
import Derived.Test.YtgaimlmpfmbdoaaRows
namespace Go.Proofs.Ytgaimlmpfmbdoaa
open Go.RowKit
set_option linter.unusedVariables false

/-- A number or a text, as it came in. -/
structure Thing where
  t : Bool
  n : Int
  s : ByteArray
instance : Inhabited Thing := ⟨⟨false, 0, ⟨#[]⟩⟩⟩
def encThing (x : Thing) : List UInt8 := if x.t then OM.encT x.s.data.toList else OM.enc x.n.toNat
def things (xs : List Thing) : List UInt8 := xs.flatMap encThing
def Fair (x : Thing) : Prop := (-9223372036854775808 ≤ x.n ∧ x.n ≤ 9223372036854775807) ∧ x.s.size ≤ 9223372036854775807
def datum {H : Type} (x : Thing) : DataW H := .agg [.lit (.bool x.t), .lit (.int .i64 x.n), .lit (.string x.s.data.toList)]
theorem things_snoc (xs : List Thing) (x : Thing) : things (xs ++ [x]) = things xs ++ encThing x := by simp [things]
theorem enc_thing_le {x : Thing} (h : Fair x) : (encThing x).length ≤ 9 + x.s.size := by
  have e : x.s.data.toList.length = x.s.size := rfl
  unfold encThing
  split
  · have := OM.enc_nine (n := x.s.data.toList.length) (by rw [e]; exact h.2)
    unfold OM.encT
    rw [List.length_append, e]
    rw [e] at this
    omega
  · have := OM.enc_nine (n := x.n.toNat) (by have := h.1; omega)
    omega
theorem bulk_thing {H : Type} (x : Thing) : Rows.uptoBulk (datum (H := H) x) = x.s.size + 4 := by
  have e : x.s.data.toList.length = x.s.size := rfl
  simp only [datum, Rows.uptoBulk, Rows.uptoBulkAll, e]
  omega
theorem bulk_things {H : Type} : ∀ (xs : List Thing), (∀ x ∈ xs, Fair x) → (things xs).length ≤ 10 * Rows.uptoBulkAll (xs.map (datum (H := H)))
  | [], _ => by simp [things]
  | x :: r, h => by
    have h1 := bulk_things (H := H) r (fun y hy => h y (List.mem_cons_of_mem _ hy))
    have h2 := enc_thing_le (h x (by simp))
    have h3 := bulk_thing (H := H) x
    have e : things (x :: r) = encThing x ++ things r := by simp [things]
    rw [e, List.length_append, List.map_cons]
    simp only [Rows.uptoBulkAll]
    omega

/-- A list of things that reads as xs; its cells lie below N. -/
def ThingsAt (N : Nat) (w : World) (A : Option Addr) (xs : List Thing) : Prop :=
  0 < xs.length → ∃ b o, A = some ⟨b, o, none⟩ ∧ b < N ∧ ∀ j x, xs[j]? = some x →
    w.cell? ⟨b, o + j * 3, none⟩ = some (.bool x.t) ∧ w.cell? ⟨b, o + j * 3 + 1, none⟩ = some (.int .i64 x.n) ∧ w.cell? ⟨b, o + j * 3 + 2, none⟩ = some (.string x.s)
theorem ThingsAt.below {N : Nat} {w w' : World} {A : Option Addr} {xs : List Thing} (h : ThingsAt N w A xs) (hb : Below N w w') : ThingsAt N w' A xs := fun h0 => by
  obtain ⟨b, o, e, hlt, hc⟩ := h h0
  refine ⟨b, o, e, hlt, fun j x hx => ?_⟩
  obtain ⟨h1, h2, h3⟩ := hc j x hx
  exact ⟨(hb.cell (p := ⟨b, o + j * 3, none⟩) hlt).trans h1, (hb.cell (p := ⟨b, o + j * 3 + 1, none⟩) hlt).trans h2, (hb.cell (p := ⟨b, o + j * 3 + 2, none⟩) hlt).trans h3⟩
theorem list_of {α : Type} [Inhabited α] {Q : Nat → α → Prop} (len : Nat) (h : ∀ i, i < len → ∃ x, Q i x) : ∃ xs : List α, xs.length = len ∧ ∀ i x, xs[i]? = some x → Q i x := by
  classical
  refine ⟨(List.range len).map fun i => if h' : i < len then Classical.choose (h i h') else default, by simp, fun i x hx => ?_⟩
  rw [List.getElem?_map] at hx
  obtain ⟨j, hj, rfl⟩ := Option.map_eq_some_iff.1 hx
  obtain ⟨hl, hj'⟩ := List.getElem?_eq_some_iff.1 hj
  have hji : i = j := by simpa using hj'
  subst hji
  have hlt : i < len := by simpa using hl
  rw [dif_pos hlt]
  exact Classical.choose_spec (h i hlt)
section
open Go.ChangeShapes Go.WideShapes Go.ChangeAt Go.Deep
theorem cells_bool : Try.prog.cellsOf 4 = 1 := by kernel_rfl
theorem cells_int : Try.prog.cellsOf 3 = 1 := by kernel_rfl
theorem cells_string : Try.prog.cellsOf 9 = 1 := by kernel_rfl
theorem cells_thing : Try.prog.cellsOf 38 = 3 := by kernel_rfl
theorem thing_of {H : Type} {enc : TypeId × Value → H} {W : World} {spare : Nat → Bool} {held : Bool} {n : Nat} {a : Addr} {d : DataW H} {pl : List MemPlace} {cs : List Value}
    (hc : W.cells? 0 a 3 = some cs) (h : DataW.trod enc Try.prog W 0 spare held n 38 cs = some (d, pl)) :
    ∃ x : Thing, Fair x ∧ d = datum x ∧ W.cell? (a.add 0) = some (.bool x.t) ∧ W.cell? (a.add 1) = some (.int .i64 x.n) ∧ W.cell? (a.add 2) = some (.string x.s) := by
  obtain ⟨ys, n', _, hy, _, hyl, hf⟩ := DataW.trod_struct Try.underlying38 h
  obtain ⟨_, hcl, hat⟩ := World.cells?_some hc
  match cs, hcl with
  | [v0, v1, v2], _ =>
    match ys, hyl with
    | [y0, y1, y2], _ =>
      have f0 := hf 0 _ rfl
      have f1 := hf 1 _ rfl
      have f2 := hf 2 _ rfl
      simp only [Prod.mk.injEq] at hy
      obtain ⟨b, e0, g0⟩ := DataW.trod_bool Try.underlying4 f0
      obtain ⟨k, e1, g1, hk⟩ := DataW.trod_int Try.underlying3 f1
      obtain ⟨s, e2, g2, hs⟩ := DataW.trod_string Try.underlying9 f2
      refine ⟨⟨b, k, s⟩, ⟨?_, ?_⟩, ?_, ?_, ?_, ?_⟩
      · simpa [Lit.wf, IntKind.min, IntKind.max, IntKind.signed, IntKind.bits] using hk
      · unfold maxLen at hs; omega
      · rw [hy.1]
        simp only [List.map_cons, List.map_nil, g0, g1, g2, datum]
      · have e : v0 = .bool b := by
          have h : List.take (Try.prog.cellsOf 4) [v0, v1, v2] = [.bool b] := e0
          rw [cells_bool] at h
          simpa using h
        rw [hat 0 (by decide), ← e]
        rfl
      · have e : v1 = .int .i64 k := by
          have h : List.take (Try.prog.cellsOf 3) [v1, v2] = [.int .i64 k] := e1
          rw [cells_int] at h
          simpa using h
        rw [hat 1 (by decide), ← e]
        rfl
      · have e : v2 = .string s := by
          have h : List.take (Try.prog.cellsOf 9) [v2] = [.string s] := e2
          rw [cells_string] at h
          simpa using h
        rw [hat 2 (by decide), ← e]
        rfl
theorem open_things {H : Type} {enc : TypeId × Value → H} {W : World} {base : Nat} {v : Value} {d : DataW H} {p : List MemPlace}
    (hv : Value.okWide Try.prog W .any base 34 v) (h : DataW.Trod enc Try.prog W 0 (fun _ => true) true 34 v d p) :
    ∃ A c xs, v = .slice A xs.length c ∧ ThingsAt W.heap.size W A xs ∧ xs.length ≤ c ∧ c ≤ 9223372036854775807 ∧ (∀ x ∈ xs, Fair x) ∧ (things xs).length ≤ 10 * Rows.uptoBulk d := by
  obtain ⟨A, len, cap, rfl⟩ := okWide_slice Try.underlying34 hv
  obtain ⟨fuel, hf⟩ := h
  rcases open_slice Try.underlying34 hf with ⟨hcs, hx⟩ | ⟨a, len', cap', m, n, D, Pl, hcs, _, hl, hm, hmm, hx, hi⟩
  · simp [Value.cells] at hcs
    obtain ⟨rfl, rfl, rfl⟩ := hcs
    exact ⟨none, 0, [], rfl, fun h => absurd h (Nat.lt_irrefl 0), Nat.le_refl _, by omega, fun x hx => by simp at hx, by simp [things]⟩
  · simp [Value.cells] at hcs
    obtain ⟨rfl, rfl, rfl⟩ := hcs
    simp only [Prod.mk.injEq] at hx
    obtain ⟨rfl, _⟩ := hx
    have hmc : m = cap := by simpa using hmm
    subst hmc
    obtain ⟨xs, hxl, hxs⟩ := list_of (Q := fun i (x : Thing) => Fair x ∧ D i = datum x ∧ W.cell? ((a.add (i * 3)).add 0) = some (.bool x.t) ∧ W.cell? ((a.add (i * 3)).add 1) = some (.int .i64 x.n) ∧ W.cell? ((a.add (i * 3)).add 2) = some (.string x.s)) len (fun i hil => by
      obtain ⟨cs, hc, ht⟩ := hi i (by omega)
      rw [cells_thing] at hc
      exact thing_of hc ht)
    have hD : (List.range len).map D = xs.map datum := by
      apply List.ext_getElem?
      intro i
      rw [List.getElem?_map, List.getElem?_map]
      by_cases h : i < len
      · have h1 : (List.range len)[i]? = some i := by simp [h]
        have h2 : i < xs.length := by omega
        rw [h1, List.getElem?_eq_getElem h2]
        exact congrArg some (hxs i _ (List.getElem?_eq_getElem h2)).2.1
      · rw [List.getElem?_eq_none (by simp; omega), List.getElem?_eq_none (by omega)]
        rfl
    refine ⟨some a, m, xs, by rw [hxl], fun h0 => ?_, by omega, by unfold maxLen at hm; omega, fun x hx => ?_, ?_⟩
    · obtain ⟨b, o, sp⟩ := a
      obtain ⟨_, _, c0, _, _⟩ := hxs 0 xs[0] (List.getElem?_eq_getElem h0)
      have hsp : sp = none := by simpa [Addr.add] using World.cell?_spot c0
      subst hsp
      have hlt : b < W.heap.size := by
        have := World.block_lt_of_cell? W _ c0
        simpa [Addr.add] using this
      refine ⟨b, o, rfl, hlt, fun j x hx => ?_⟩
      obtain ⟨_, _, c1, c2, c3⟩ := hxs j x hx
      rw [Addr.add_lit, Addr.add_lit] at c1 c2 c3
      exact ⟨c1, c2, c3⟩
    · obtain ⟨i, hi', rfl⟩ := List.mem_iff_getElem.1 hx
      exact (hxs i _ (List.getElem?_eq_getElem hi')).1
    · rw [hD]
      have hb := bulk_things (H := H) xs (fun x hx => by
        obtain ⟨i, hi', rfl⟩ := List.mem_iff_getElem.1 hx
        exact (hxs i _ (List.getElem?_eq_getElem hi')).1)
      simp only [Rows.uptoBulk]
      omega
end
end Go.Proofs.Ytgaimlmpfmbdoaa
