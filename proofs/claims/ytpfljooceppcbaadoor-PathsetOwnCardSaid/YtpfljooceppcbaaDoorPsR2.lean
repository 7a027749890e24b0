/- The document's own answers of layer 5: which entry stands ahead, what is put in, what is dropped. -/
import Derived.Test.YtpfljooceppcbaaDoorPsR1
namespace Go.Proofs.YtpfljooceppcbaaDoor
open Go.RowKit
open SE (Ent)
set_option linter.unusedVariables false
set_option maxRecDepth 100000
/-- Numbers and a text as they may come in. -/
def Fair (e : Ent) : Prop := (-9223372036854775808 ≤ e.id ∧ e.id ≤ 9223372036854775807) ∧ e.path.size ≤ 140737488351232 ∧ (-9223372036854775808 ≤ e.mode ∧ e.mode ≤ 9223372036854775807) ∧ (-9223372036854775808 ≤ e.who ∧ e.who ≤ 9223372036854775807)
theorem before_neg {a b : Ent} (h : PM.cmp (SE.p a) (SE.p b) = -1) : SE.before a b = true := by unfold SE.before; rw [h]; rfl
theorem before_pos {a b : Ent} (h : PM.cmp (SE.p a) (SE.p b) = 1) : SE.before a b = false := by unfold SE.before; rw [h]; rfl
theorem before_zero {a b : Ent} (h : PM.cmp (SE.p a) (SE.p b) = 0) : SE.before a b = decide (a.id < b.id) := by unfold SE.before; rw [h]; rfl
end Go.Proofs.YtpfljooceppcbaaDoor
