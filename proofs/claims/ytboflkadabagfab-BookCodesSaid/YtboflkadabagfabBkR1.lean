/- Two books: the document's call. -/
import Derived.Test.YtboflkadabagfabBkW32
import Derived.Test.YtboflkadabagfabBkW12
namespace Go.Proofs.Ytboflkadabagfab
open Go.RowKit
open BM (Gr Rc Bk g0 r0 b0)
set_option linter.unusedVariables false
set_option linter.unusedSimpArgs false
set_option maxRecDepth 100000
/-- What Apply leaves is of 64 bits. -/
theorem in_ok {c : Bk} (h : BM.okBk c = true) : In64 c.next ∧ In64 c.boots ∧ In64 c.longest := by
  obtain ⟨p1, p2, p3, _, _⟩ := BM.okBk_parts h
  refine ⟨by unfold In64; omega, by unfold In64; omega, ?_⟩
  rcases p3 with e | e
  · rw [e]; unfold In64; omega
  · have := BM.legal_rng e; unfold In64; omega
theorem same_neq {x y : Int} (h : ¬ x = y) : (x != y) = true := by simpa using h
end Go.Proofs.Ytboflkadabagfab
