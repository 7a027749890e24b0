/- A call's Ask, as the package's call ask answers it. -/
import Derived.Test.YtnacchldecjcaaaCaLow
namespace Go.Proofs.Ytnacchldecjcaaa
open Go.RowKit
open CA (Cl St)
open WM (Msg)
set_option linter.unusedVariables false
set_option linter.unusedSimpArgs false
set_option maxRecDepth 100000
set_option maxHeartbeats 2000000 in
theorem ask_any (x : Cl) (w : World) : Calls Try.prog 23 #[aggC x] w fun e w' => e = .returned (.agg (cellsM (CA.askM x 0 0 0 0) (.slice none 0 0))) ∧ Below w.heap.size w w' := by
  have hz := fun w : World => Try.zeroValue45 w
  unfold aggC ten
  go_enter Try.func23, Try.ntmps23
  go_wp2_with fail
  change bodyPost Try.prog _ _ Exit.ret _ _
  refine bodyPost_ret (v := .agg (cellsM (CA.askM x 0 0 0 0) (.slice none 0 0))) (by simp [results, Try.results23, go_sem, CA.askM, cellsM]) rfl ?_
  exact ⟨rfl, ((Below.refl w.heap.size w).alloc (Nat.le_refl _) _).alloc (by simp) _⟩
end Go.Proofs.Ytnacchldecjcaaa
