/- The statements' first calls: a grant. -/
import Derived.Test.YtboflkadabagfabBkW30
import Derived.Test.YtboflkadabagfabBkW28
import Derived.Test.YtboflkadabagfabBkWd
namespace Go.Proofs.Ytboflkadabagfab
open Go.RowKit
open BM (Gr Rc Bk g0 r0 b0)
set_option linter.unusedVariables false
set_option linter.unusedSimpArgs false
set_option maxRecDepth 100000
/-- The grant of the statements' examples. -/
def gx : Gr := ⟨1, 2, ⟨#[97]⟩, 2, [1], 300⟩
theorem own_one {w : World} {base g : Nat} {x : Int} (h : Whole w g 3 #[.int .i64 x]) (hb : base ≤ g) : OwnI w base (.slice (some ⟨g, 0, none⟩) 1 1) [x] :=
  ⟨rfl, .inr ⟨g, 1, #[.int .i64 x], rfl, hb, h, Nat.le_refl _, by unfold maxLen; omega, rfl, rfl⟩⟩
set_option maxHeartbeats 4000000 in
theorem law_grant (w : World) : Calls Try.prog 13 #[] w (CopyPost w gx) := by
  go_enter Try.func13, Try.ntmps13
  go_wp2_with fail
  refine bodyPost_ret (v := .agg (six gx (.slice (some ⟨w.heap.size + 1, 0, none⟩) 1 1))) (by simp [results, Try.results13, go_sem, six, gx]) rfl ?_
  refine ⟨_, rfl, own_one (g := w.heap.size + 1) ?_ (by omega), ((Below.refl _ w).alloc (Nat.le_refl _) _).alloc (by simp) _⟩
  have h := Whole.new (w.alloc (.cells #[.int .i64 1, .int .i64 2, .string ⟨#[97]⟩, .int .i64 2, .slice (some ⟨w.heap.size + 1, 0, none⟩) 1 1, .int .i64 300] 26)) 3 #[.int .i64 1]
  have e : (w.alloc (.cells #[.int .i64 1, .int .i64 2, .string ⟨#[97]⟩, .int .i64 2, .slice (some ⟨w.heap.size + 1, 0, none⟩) 1 1, .int .i64 300] 26)).heap.size = w.heap.size + 1 := by simp
  rw [e] at h
  exact h
end Go.Proofs.Ytboflkadabagfab
