/- The statements' own helper: one call on a set and on a list. -/
import Derived.Test.YtpfljooceppcbaaDoorPsL1
namespace Go.Proofs.YtpfljooceppcbaaDoor
open Go.RowKit
open SE (Ent)
set_option linter.unusedVariables false
set_option maxRecDepth 100000
/-- One call. -/
structure Opr where
  kind : Int
  ent : Ent
def opv (o : Opr) : Value := .agg #[.int .i64 o.kind, .int .i64 o.ent.id, .string o.ent.path, .int .i64 o.ent.mode, .int .i64 o.ent.who]
def blk (A : Option Addr) : List Nat := A.toList.map (·.block)
theorem blk_mem {A : Option Addr} : ∀ ad, A = some ad → ad.block ∈ blk A := by
  rintro ad rfl
  simp [blk]
theorem blk_of {A : Option Addr} {b : Nat} (h : b ∈ blk A) : ∃ ad, A = some ad ∧ ad.block = b := by
  cases A with
  | none => simp [blk] at h
  | some ad => exact ⟨ad, rfl, by simp [blk] at h; exact h.symm⟩
theorem boxed2 {w w2 : World} (o : Obj) (e : Ent) (hb : Below ((w.alloc o).alloc (.cells (four e).toArray 25)).heap.size ((w.alloc o).alloc (.cells (four e).toArray 25)) w2) : EntCells w2 (w.heap.size + 1) 0 e ∧ Below w.heap.size w w2 := by
  obtain ⟨h1, h2, _⟩ := boxed e hb
  rw [World.size_alloc] at h1 h2
  exact ⟨h1, ((Below.refl _ w).alloc (Nat.le_refl _) o).trans (h2.mono (by omega))⟩
theorem find_get {L : List Ent} {id : Int} (h : SE.has L id = true) : ∃ k : Nat, ∃ hk : k < L.length, SE.find L id = (k : Int) ∧ L[k] = getE L id := by
  have h0 := h
  unfold SE.has at h
  rw [List.any_eq_true] at h
  obtain ⟨x, hx, hd⟩ := h
  cases hf : L.findIdx? (fun e => decide (e.id = id)) with
  | none => exact absurd (List.findIdx?_eq_none_iff.1 hf x hx) (by simpa using hd)
  | some i =>
    obtain ⟨hi, h1, h2⟩ := List.findIdx?_eq_some_iff_getElem.1 hf
    refine ⟨i, hi, by unfold SE.find; rw [hf], ?_⟩
    unfold getE
    have : L.find? (fun e => decide (e.id = id)) = some L[i] := by
      rw [List.find?_eq_some_iff_getElem]
      exact ⟨h1, i, hi, rfl, fun j hj => by simpa using h2 j hj⟩
    rw [this]
    rfl
theorem get_none {L : List Ent} {id : Int} (h : SE.has L id = false) : SE.find L id = -1 ∧ getE L id = noEnt := by
  have hn := SE.has_no h
  refine ⟨SE.find_none (fun j hj => hn _ (List.getElem_mem hj)), ?_⟩
  unfold getE
  rw [List.find?_eq_none.2 (fun x hx => by simpa using hn x hx)]
  rfl
/-- The list after a call. -/
def nextL (L : List Ent) (o : Opr) : List Ent := if o.kind = 1 then SE.drop L o.ent.id else if o.kind = 2 ∨ o.kind = 3 ∨ o.kind = 4 ∨ o.kind = 5 then L else (SE.put L o.ent).1
end Go.Proofs.YtpfljooceppcbaaDoor
