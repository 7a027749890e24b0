/- Small words that all texts on sets use: a pointer, the entry of an Id, a list of entries of the call's own. -/
import Derived.Test.YtpfljooceppcbaaDoorPsR7
import Derived.Test.YtpfljooceppcbaaDoorPathsW2
namespace Go.Proofs.YtpfljooceppcbaaDoor
open Go.RowKit
open SE (Ent)
set_option linter.unusedVariables false
set_option maxRecDepth 100000
def ptr (g : Nat) : Value := .pointer (some ⟨g, 0, none⟩)
def noEnt : Ent := ⟨0, ByteArray.empty, 0, 0⟩
def getE (l : List Ent) (id : Int) : Ent := (l.find? (fun e => decide (e.id = id))).getD noEnt
/-- A list of entries of the call's own is handed back. -/
def OneE (w : World) (xs : List Ent) (e : Ending) (w' : World) : Prop :=
  ∃ A n c, e = .returned (.slice A n c) ∧ Hid (n = xs.length) ∧ Hid (EntsAt w' A xs) ∧ Hid (w'.ownsRow w.heap.size 25 4 (.slice A n c) n (ents xs)) ∧ Hid (Below w.heap.size w w') ∧ n ≤ c ∧ c ≤ 9223372036854775807
theorem getE_of {L : List Ent} (hn : (L.map (·.id)).Nodup) {e : Ent} (he : e ∈ L) : getE L e.id = e := by
  unfold getE
  induction L with
  | nil => simp at he
  | cons a r ih =>
    rw [List.map_cons, List.nodup_cons] at hn
    rw [List.find?_cons]
    by_cases h : a.id = e.id
    · rw [decide_eq_true h]
      rcases List.mem_cons.1 he with h1 | h1
      · simp [h1]
      · exact (hn.1 (List.mem_map.2 ⟨e, h1, h.symm⟩)).elim
    · rw [decide_eq_false h]
      rcases List.mem_cons.1 he with h1 | h1
      · exact absurd (by rw [h1]) h
      · exact ih hn.2 h1
end Go.Proofs.YtpfljooceppcbaaDoor
