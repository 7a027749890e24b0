/- The calls on numbers alone: sums, what is left, what is a term; the package's and the document's; each leaves the world as it is. -/
import Derived.Test.YtbcpphckjfbkbaaChecked
import Derived.Test.YtbcpphckjfbkbaaTermMath
import Derived.WalkKit
import Derived.WalkSpells
import Derived.WalkLawsBesides
import Derived.Deep.QuietTactic
import Derived.BigQuiet
import Derived.Lib.Hide
import Derived.WalkMore
namespace Go.Proofs.Ytbcpphckjfbkbaa.Tm
open Go.RowKit

theorem ret_int {k : IntKind} {a b : Int} (h : a = b) : Ending.returned (.int k a) = .returned (.int k b) := by rw [h]
theorem ret_bool {a b : Bool} (h : a = b) : Ending.returned (.bool a) = .returned (.bool b) := by rw [h]
/-- A number of Go's int. -/
def In (a : Int) : Prop := -9223372036854775808 ≤ a ∧ a ≤ 9223372036854775807

set_option maxHeartbeats 400000 in
theorem mayDrift_any (r : Int) (w : World) (hr : -9223372036854775808 ≤ r ∧ r ≤ 9223372036854775807) :
    Calls Try.prog 26 #[.int .i64 r] w fun e w' => e = .returned (.bool (decide (0 ≤ r ∧ r ≤ 999))) ∧ w = w' := by
  go_enter Try.func26, Try.ntmps26
  go_wp2
  all_goals
    go_ret
    exact ⟨ret_bool (by simp; omega), rfl⟩
theorem pair_back {a b c d : Int} (h1 : a = c) (h2 : b = d) : Ending.returned (.tuple #[.int .i64 a, .int .i64 b]) = .returned (.tuple #[.int .i64 c, .int .i64 d]) := by rw [h1, h2]
theorem prod_bounds {t r : Int} (ht : 0 ≤ t) (ht2 : t ≤ 1048576) (hr : 0 ≤ r) (hr2 : r ≤ 999) : 0 ≤ t * (1000 - r) ∧ t * (1000 - r) ≤ 1048576000 := by
  refine ⟨Int.mul_nonneg ht (by omega), ?_⟩
  have h := Int.mul_le_mul ht2 (show 1000 - r ≤ 1000 by omega) (by omega) (by omega)
  omega
theorem mayDrift_yes (r : Int) (w : World) (hr : 0 ≤ r ∧ r ≤ 999) :
    Calls Try.prog 26 #[.int .i64 r] w fun e w' => e = .returned (.bool true) ∧ w = w' := by
  have h := mayDrift_any r w (by omega)
  rw [decide_eq_true hr] at h
  exact h
theorem mayDrift_no (r : Int) (w : World) (h0 : -9223372036854775808 ≤ r ∧ r ≤ 9223372036854775807) (hr : ¬ (0 ≤ r ∧ r ≤ 999)) :
    Calls Try.prog 26 #[.int .i64 r] w fun e w' => e = .returned (.bool false) ∧ w = w' := by
  have h := mayDrift_any r w h0
  rw [decide_eq_false hr] at h
  exact h
theorem no_fit {t r : Int} (h : ¬ TM.fits t r) : Ending.returned (.tuple #[.int .i64 0, .int .i64 2]) = .returned (.tuple #[.int .i64 (TM.shrink t r), .int .i64 (TM.shrinkE t r)]) := by
  unfold TM.shrink TM.shrinkE
  rw [if_neg h, if_neg h]
theorem fit {t r n : Int} (h : TM.fits t r) (hn : n = TM.shrink t r) : Ending.returned (.tuple #[.int .i64 n, .int .i64 0]) = .returned (.tuple #[.int .i64 (TM.shrink t r), .int .i64 (TM.shrinkE t r)]) := by
  unfold TM.shrinkE
  rw [if_pos h, hn]
theorem shrink_div {t r : Int} (h : TM.fits t r) : (t * (1000 - r)).tdiv (1000 + r) = TM.shrink t r := by
  unfold TM.shrink
  rw [if_pos h]
  obtain ⟨h1, h2, h3, h4⟩ := h
  exact Int.tdiv_eq_ediv_of_nonneg (prod_bounds h1 h2 h3 h4).1
end Go.Proofs.Ytbcpphckjfbkbaa.Tm
