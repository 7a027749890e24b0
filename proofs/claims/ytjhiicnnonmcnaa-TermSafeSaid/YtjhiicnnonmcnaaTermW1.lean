/- The calls on numbers alone: sums, what is left, what is a term; the package's and the document's; each leaves the world as it is. -/
import Derived.Test.YtjhiicnnonmcnaaChecked
import Derived.Test.YtjhiicnnonmcnaaTermMath
import Derived.WalkKit
import Derived.WalkSpells
import Derived.WalkLawsBesides
import Derived.Deep.QuietTactic
import Derived.BigQuiet
import Derived.Lib.Hide
import Derived.WalkMore
namespace Go.Proofs.Ytjhiicnnonmcnaa
open Go.RowKit

theorem ret_int {k : IntKind} {a b : Int} (h : a = b) : Ending.returned (.int k a) = .returned (.int k b) := by rw [h]
theorem ret_bool {a b : Bool} (h : a = b) : Ending.returned (.bool a) = .returned (.bool b) := by rw [h]
/-- A number of Go's int. -/
def In (a : Int) : Prop := -9223372036854775808 ≤ a ∧ a ≤ 9223372036854775807

set_option maxHeartbeats 400000 in
theorem bounded_any (a : Int) (w : World) (ha : -9223372036854775808 ≤ a ∧ a ≤ 9223372036854775807) :
    Calls Try.prog 23 #[.int .i64 a] w fun e w' => e = .returned (.int .i64 (TM.clamp a)) ∧ w = w' := by
  go_enter Try.func23, Try.ntmps23
  go_wp2
  all_goals
    go_ret
    refine ⟨ret_int ?_, rfl⟩
    unfold TM.clamp
    (repeat' split) <;> first | omega | (rename_i h1 h2; rw [if_neg (by omega)] at h2; omega) | skip
set_option maxHeartbeats 400000 in
theorem mayDrift_any (r : Int) (w : World) (hr : -9223372036854775808 ≤ r ∧ r ≤ 9223372036854775807) :
    Calls Try.prog 24 #[.int .i64 r] w fun e w' => e = .returned (.bool (decide (0 ≤ r ∧ r ≤ 999))) ∧ w = w' := by
  go_enter Try.func24, Try.ntmps24
  go_wp2
  all_goals
    go_ret
    exact ⟨ret_bool (by simp; omega), rfl⟩
set_option maxHeartbeats 400000 in
theorem Legal_any (t : Int) (w : World) (ht : -9223372036854775808 ≤ t ∧ t ≤ 9223372036854775807) :
    Calls Try.prog 17 #[.int .i64 t] w fun e w' => e = .returned (.bool (TM.legal t)) ∧ w = w' := by
  go_enter Try.func17, Try.ntmps17
  go_wp2
  all_goals
    go_ret
    exact ⟨ret_bool (by unfold TM.legal; simp; omega), rfl⟩
set_option maxHeartbeats 400000 in
theorem Add_any (a b : Int) (w : World) (ha : -9223372036854775808 ≤ a ∧ a ≤ 9223372036854775807) (hb : -9223372036854775808 ≤ b ∧ b ≤ 9223372036854775807) :
    Calls Try.prog 11 #[.int .i64 a, .int .i64 b] w fun e w' => e = .returned (.int .i64 (TM.add a b)) ∧ w = w' := by
  have h1 := TM.clamp_range a
  have h2 := TM.clamp_range b
  go_enter Try.func11, Try.ntmps11
  go_wp2_with (go_at_call 23; refine (bounded_any _ _ (by assumption)).mono ?_; rintro e w' ⟨rfl, rfl⟩)
  all_goals
    go_ret
    refine ⟨ret_int ?_, rfl⟩
    unfold TM.add
    (repeat' split) <;> omega
set_option maxHeartbeats 400000 in
theorem Left_any (a b : Int) (w : World) (ha : -9223372036854775808 ≤ a ∧ a ≤ 9223372036854775807) (hb : -9223372036854775808 ≤ b ∧ b ≤ 9223372036854775807) :
    Calls Try.prog 15 #[.int .i64 a, .int .i64 b] w fun e w' => e = .returned (.int .i64 (TM.left a b)) ∧ w = w' := by
  have h1 := TM.clamp_range a
  have h2 := TM.clamp_range b
  go_enter Try.func15, Try.ntmps15
  go_wp2_with (go_at_call 23; refine (bounded_any _ _ (by assumption)).mono ?_; rintro e w' ⟨rfl, rfl⟩)
  all_goals
    go_ret
    refine ⟨ret_int ?_, rfl⟩
    unfold TM.left
    (repeat' split) <;> omega
theorem pair_back {a b c d : Int} (h1 : a = c) (h2 : b = d) : Ending.returned (.tuple #[.int .i64 a, .int .i64 b]) = .returned (.tuple #[.int .i64 c, .int .i64 d]) := by rw [h1, h2]
theorem prod_bounds {t r : Int} (ht : 0 ≤ t) (ht2 : t ≤ 1048576) (hr : 0 ≤ r) (hr2 : r ≤ 999) : 0 ≤ t * (1000 - r) ∧ t * (1000 - r) ≤ 1048576000 := by
  refine ⟨Int.mul_nonneg ht (by omega), ?_⟩
  have h := Int.mul_le_mul ht2 (show 1000 - r ≤ 1000 by omega) (by omega) (by omega)
  omega
theorem mayDrift_yes (r : Int) (w : World) (hr : 0 ≤ r ∧ r ≤ 999) :
    Calls Try.prog 24 #[.int .i64 r] w fun e w' => e = .returned (.bool true) ∧ w = w' := by
  have h := mayDrift_any r w (by omega)
  rw [decide_eq_true hr] at h
  exact h
theorem mayDrift_no (r : Int) (w : World) (h0 : -9223372036854775808 ≤ r ∧ r ≤ 9223372036854775807) (hr : ¬ (0 ≤ r ∧ r ≤ 999)) :
    Calls Try.prog 24 #[.int .i64 r] w fun e w' => e = .returned (.bool false) ∧ w = w' := by
  have h := mayDrift_any r w h0
  rw [decide_eq_false hr] at h
  exact h
theorem no_fit {t r : Int} (h : ¬ TM.fits t r) : Ending.returned (.tuple #[.int .i64 0, .int .i64 2]) = .returned (.tuple #[.int .i64 (TM.shrink t r), .int .i64 (TM.shrinkE t r)]) := by
  unfold TM.shrink TM.shrinkE
  rw [if_neg h, if_neg h]
theorem fit {t r n : Int} (h : TM.fits t r) (hn : n = TM.shrink t r) : Ending.returned (.tuple #[.int .i64 n, .int .i64 0]) = .returned (.tuple #[.int .i64 (TM.shrink t r), .int .i64 (TM.shrinkE t r)]) := by
  unfold TM.shrinkE
  rw [if_pos h, hn]
theorem shrink_div {t r : Int} (h : TM.fits t r) : (t * (1000 - r)).tdiv (1000 + r) = TM.shrink t r := by
  unfold TM.shrink
  rw [if_pos h]
  obtain ⟨h1, h2, h3, h4⟩ := h
  exact Int.tdiv_eq_ediv_of_nonneg (prod_bounds h1 h2 h3 h4).1
set_option maxHeartbeats 400000 in
theorem Shrink_any (t r : Int) (w : World) (ht : -9223372036854775808 ≤ t ∧ t ≤ 9223372036854775807) (hr : -9223372036854775808 ≤ r ∧ r ≤ 9223372036854775807) :
    Calls Try.prog 19 #[.int .i64 t, .int .i64 r] w fun e w' => e = .returned (.tuple #[.int .i64 (TM.shrink t r), .int .i64 (TM.shrinkE t r)]) ∧ w = w' := by
  by_cases h : TM.fits t r
  · have h0 := h
    obtain ⟨h1, h2, h3, h4⟩ := h0
    have hp := prod_bounds h1 h2 h3 h4
    have HF := Lib.hid h; clear h
    have hq := TM.shrink_range (t := t) (r := r)
    have HQ := Lib.hid (shrink_div HF.out)
    rw [← HQ.out] at hq
    go_enter Try.func19, Try.ntmps19
    go_wp2_with (go_at_call 24; refine (mayDrift_yes _ _ (by exact ⟨by assumption, by assumption⟩)).mono ?_; rintro e w' ⟨rfl, rfl⟩)
    go_ret2
    exact ⟨fit HF.out HQ.out, rfl⟩
  · have HF := Lib.hid h; clear h
    by_cases h1 : t < 0
    · go_enter Try.func19, Try.ntmps19
      go_wp2_with fail
      go_ret2
      exact ⟨no_fit HF.out, rfl⟩
    by_cases h2 : 1048576 < t
    · go_enter Try.func19, Try.ntmps19
      go_wp2_with fail
      go_ret2
      exact ⟨no_fit HF.out, rfl⟩
    have HR := Lib.hid (show ¬ (0 ≤ r ∧ r ≤ 999) from fun hh => HF.out ⟨by omega, by omega, hh.1, hh.2⟩)
    go_enter Try.func19, Try.ntmps19
    go_wp2_with (go_at_call 24; refine (mayDrift_no _ _ (by assumption) HR.out).mono ?_; rintro e w' ⟨rfl, rfl⟩)
    go_ret2
    exact ⟨no_fit HF.out, rfl⟩
set_option maxHeartbeats 400000 in
theorem RefClamp_any (a : Int) (w : World) (ha : -9223372036854775808 ≤ a ∧ a ≤ 9223372036854775807) :
    Calls Try.prog 29 #[.int .i64 a] w fun e w' => e = .returned (.int .i64 (TM.clamp a)) ∧ w = w' := by
  go_enter Try.func29, Try.ntmps29
  go_wp2
  all_goals
    go_ret
    refine ⟨ret_int ?_, rfl⟩
    unfold TM.clamp
    (repeat' split) <;> omega
set_option maxHeartbeats 400000 in
theorem RefLegal_any (t : Int) (w : World) (ht : -9223372036854775808 ≤ t ∧ t ≤ 9223372036854775807) :
    Calls Try.prog 18 #[.int .i64 t] w fun e w' => e = .returned (.bool (TM.legal t)) ∧ w = w' := by
  go_enter Try.func18, Try.ntmps18
  go_wp2
  all_goals
    go_ret
    exact ⟨ret_bool (by unfold TM.legal; simp; omega), rfl⟩
set_option maxHeartbeats 400000 in
theorem RefAdd_any (a b : Int) (w : World) (ha : -9223372036854775808 ≤ a ∧ a ≤ 9223372036854775807) (hb : -9223372036854775808 ≤ b ∧ b ≤ 9223372036854775807) :
    Calls Try.prog 14 #[.int .i64 a, .int .i64 b] w fun e w' => e = .returned (.int .i64 (TM.add a b)) ∧ w = w' := by
  have h1 := TM.clamp_range a
  have h2 := TM.clamp_range b
  go_enter Try.func14, Try.ntmps14
  go_wp2_with (go_at_call 29; refine (RefClamp_any _ _ (by assumption)).mono ?_; rintro e w' ⟨rfl, rfl⟩)
  all_goals
    go_ret
    refine ⟨ret_int ?_, rfl⟩
    unfold TM.add
    (repeat' split) <;> omega
set_option maxHeartbeats 400000 in
theorem RefLeft_any (a b : Int) (w : World) (ha : -9223372036854775808 ≤ a ∧ a ≤ 9223372036854775807) (hb : -9223372036854775808 ≤ b ∧ b ≤ 9223372036854775807) :
    Calls Try.prog 16 #[.int .i64 a, .int .i64 b] w fun e w' => e = .returned (.int .i64 (TM.left a b)) ∧ w = w' := by
  have h1 := TM.clamp_range a
  have h2 := TM.clamp_range b
  go_enter Try.func16, Try.ntmps16
  go_wp2_with (go_at_call 29; refine (RefClamp_any _ _ (by assumption)).mono ?_; rintro e w' ⟨rfl, rfl⟩)
  all_goals
    go_ret
    refine ⟨ret_int ?_, rfl⟩
    unfold TM.left
    (repeat' split) <;> omega
end Go.Proofs.Ytjhiicnnonmcnaa
