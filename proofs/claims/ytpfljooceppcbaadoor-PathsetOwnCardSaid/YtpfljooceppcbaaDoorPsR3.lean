/- The document's own answers of layer 5: what is put in. -/
import Derived.Test.YtpfljooceppcbaaDoorPsR2
import Derived.StillTailTactics
namespace Go.Proofs.YtpfljooceppcbaaDoor
open Go.RowKit
open SE (Ent)
set_option linter.unusedVariables false
set_option maxRecDepth 100000
/-- A list of entries and an answer beside it. -/
def TwoE (A0 : Option Addr) (w : World) (r : List Ent) (x : Value) (e : Ending) (w' : World) : Prop := ∃ A n c, e = .returned (.tuple #[.slice A n c, x]) ∧ n = r.length ∧ EntsAt w' A r ∧ n ≤ c ∧ c ≤ 9223372036854775807 ∧ Below w.heap.size w w' ∧ (A = A0 ∨ ∀ ad, A = some ad → w.heap.size ≤ ad.block ∧ ad.block < w'.heap.size)
theorem own_fresh {w : World} {base : Nat} {e : TypeId} {A : Option Addr} {n m c size : Nat} {xs : List Value} (h : w.ownsRow base e size (.slice A m c) n xs) {ad : Addr} (ha : A = some ad) : base ≤ ad.block ∧ ad.block < w.heap.size := by
  rcases h.2 with ⟨h1, _⟩ | ⟨g, cap, cur, hv, hb, hh, _⟩
  · injection h1 with h1
    rw [h1] at ha; cases ha
  · injection hv with hA
    rw [hA] at ha
    injection ha with ha
    subst ha
    exact ⟨hb, (Array.getElem?_eq_some_iff.1 hh).1⟩
theorem put_path {l : List Ent} {e : Ent} (h : PM.okB (SE.p e) = false) : SE.put l e = (l, 10) := by unfold SE.put; rw [if_pos h]
theorem put_mode {l : List Ent} {e : Ent} (h : PM.okB (SE.p e) = true) (h2 : SE.okMode e.mode = false) : SE.put l e = (l, 11) := by unfold SE.put; rw [if_neg (by rw [h]; decide), if_pos h2]
theorem put_twice {l : List Ent} {e : Ent} (h : PM.okB (SE.p e) = true) (h2 : SE.okMode e.mode = true) (h3 : SE.has l e.id = true) : SE.put l e = (l, 50) := by unfold SE.put; rw [if_neg (by rw [h]; decide), if_neg (by rw [h2]; decide), if_pos h3]
theorem put_full {l : List Ent} {e : Ent} (h : PM.okB (SE.p e) = true) (h2 : SE.okMode e.mode = true) (h3 : SE.has l e.id = false) (h4 : l.length = 64) : SE.put l e = (l, 51) := by unfold SE.put; rw [if_neg (by rw [h]; decide), if_neg (by rw [h2]; decide), if_neg (by rw [h3]; decide), if_pos h4]
theorem put_in {l : List Ent} {e : Ent} (h : PM.okB (SE.p e) = true) (h2 : SE.okMode e.mode = true) (h3 : SE.has l e.id = false) (h4 : l.length ≠ 64) : SE.put l e = (SE.ins l e, 0) := by unfold SE.put; rw [if_neg (by rw [h]; decide), if_neg (by rw [h2]; decide), if_neg (by rw [h3]; decide), if_neg h4]
theorem find_has {l : List Ent} {id : Int} : (SE.has l id = true ∧ 0 ≤ SE.find l id ∧ SE.find l id < l.length) ∨ (SE.has l id = false ∧ SE.find l id = -1) := by
  unfold SE.find
  cases h : l.findIdx? (fun e => decide (e.id = id)) with
  | some i =>
    left
    obtain ⟨hi, hp, _⟩ := List.findIdx?_eq_some_iff_getElem.1 h
    refine ⟨SE.has_iff.2 ⟨l[i], List.getElem_mem hi, by simpa using hp⟩, by simp only; omega, by simp only; omega⟩
  | none =>
    right
    refine ⟨?_, rfl⟩
    cases hh : SE.has l id with
    | false => rfl
    | true =>
      obtain ⟨e, he, h2⟩ := SE.has_iff.1 hh
      have := List.findIdx?_eq_none_iff.1 h e he
      simp [h2] at this
theorem ins_all {l : List Ent} {e : Ent} {k : Nat} (h : ∀ j (hj : j < l.length), j < k → SE.before l[j] e = true) (hk : k ≤ l.length) (hs : ∀ (hk : k < l.length), SE.before l[k] e = false) : SE.ins l e = l.take k ++ e :: l.drop k := by
  have e1 : l = l.take k ++ l.drop k := (List.take_append_drop k l).symm
  have ht : ∀ x ∈ l.take k, SE.before x e = true := fun x hx => by
    obtain ⟨j, hj, rfl⟩ := List.getElem_of_mem hx
    rw [List.length_take] at hj
    rw [List.getElem_take]
    exact h j (by omega) (by omega)
  have hd : (l.drop k).takeWhile (fun x => SE.before x e) = [] := by
    cases hd : l.drop k with
    | nil => rfl
    | cons x r =>
      have hlt : k < l.length := by
        refine Nat.lt_of_not_le fun hle => ?_
        rw [List.drop_of_length_le hle] at hd
        cases hd
      have hx := hs hlt
      rw [List.drop_eq_getElem_cons hlt] at hd
      injection hd with hd _
      rw [hd] at hx
      rw [List.takeWhile_cons, hx]
      rfl
  have hd2 : (l.drop k).dropWhile (fun x => SE.before x e) = l.drop k := by
    have h3 := List.takeWhile_append_dropWhile (p := fun x => SE.before x e) (l := l.drop k)
    rw [hd, List.nil_append] at h3
    exact h3
  unfold SE.ins
  conv => lhs; rw [e1]
  rw [List.takeWhile_append_of_pos ht, List.dropWhile_append_of_pos ht, hd, hd2, List.append_nil]
theorem boxed {w w2 : World} (e : Ent) (hb : Below (w.alloc (.cells (four e).toArray 25)).heap.size (w.alloc (.cells (four e).toArray 25)) w2) : EntCells w2 w.heap.size 0 e ∧ Below w.heap.size w w2 ∧ w.heap.size < w2.heap.size := by
  have key : ∀ k, w2.cell? ⟨w.heap.size, k, none⟩ = (four e).toArray[k]? := fun k =>
    (hb.cell (p := ⟨w.heap.size, k, none⟩) (by rw [World.size_alloc]; show w.heap.size < _; omega)).trans (World.cell?_alloc_new _ _ _ k)
  have hs := hb.size
  rw [World.size_alloc] at hs
  exact ⟨⟨key 0, key 1, key 2, key 3⟩, ((Below.refl _ w).alloc (Nat.le_refl _) _).trans (hb.mono (by rw [World.size_alloc]; omega)), by omega⟩
theorem EntCells.below {w w2 : World} {b k : Nat} {e : Ent} (h : EntCells w b k e) (hb : b < w.heap.size) (hw : Below w.heap.size w w2) : EntCells w2 b k e :=
  ⟨(hw.cell (p := ⟨b, k, none⟩) hb).trans h.1, (hw.cell (p := ⟨b, k + 1, none⟩) hb).trans h.2.1, (hw.cell (p := ⟨b, k + 2, none⟩) hb).trans h.2.2.1, (hw.cell (p := ⟨b, k + 3, none⟩) hb).trans h.2.2.2⟩
end Go.Proofs.YtpfljooceppcbaaDoor
