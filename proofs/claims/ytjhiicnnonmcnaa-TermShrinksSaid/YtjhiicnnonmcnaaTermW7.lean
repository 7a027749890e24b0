/- The law's own opening calls, whose answers the document fixes. -/
import Derived.Test.YtjhiicnnonmcnaaTermW6
namespace Go.Proofs.Ytjhiicnnonmcnaa
open Go.RowKit Go.Lib Go.Shelf Go.Sort
theorem shrink_c (w : World) : Calls Try.prog 19 #[.int .i64 100, .int .i64 500] w fun e w' => e = .returned (.tuple #[.int .i64 33, .int .i64 0]) ∧ w = w' := by
  have h := Shrink_any 100 500 w (by decide) (by decide)
  rw [show TM.shrink 100 500 = 33 by decide, show TM.shrinkE 100 500 = 0 by decide] at h
  exact h
theorem add_c (w : World) : Calls Try.prog 11 #[.int .i64 5, .int .i64 7] w fun e w' => e = .returned (.int .i64 12) ∧ w = w' := by
  have h := Add_any 5 7 w (by decide) (by decide)
  rw [show TM.add 5 7 = 12 by decide] at h
  exact h
theorem left_c (w : World) : Calls Try.prog 15 #[.int .i64 12, .int .i64 5] w fun e w' => e = .returned (.int .i64 7) ∧ w = w' := by
  have h := Left_any 12 5 w (by decide) (by decide)
  rw [show TM.left 12 5 = 7 by decide] at h
  exact h
theorem legal_4 (w : World) : Calls Try.prog 17 #[.int .i64 4] w fun e w' => e = .returned (.bool true) ∧ w = w' := by
  have h := Legal_any 4 w (by decide)
  rw [show TM.legal 4 = true by decide] at h
  exact h
theorem legal_3 (w : World) : Calls Try.prog 17 #[.int .i64 3] w fun e w' => e = .returned (.bool false) ∧ w = w' := by
  have h := Legal_any 3 w (by decide)
  rw [show TM.legal 3 = false by decide] at h
  exact h
theorem honest_99 (w : World) : Calls Try.prog 12 #[.int .i64 100, .int .i64 99, .int .i64 10] w fun e w' => e = .returned (.bool true) ∧ Up w w' := by
  have h := Honest_any 100 99 10 w (by decide) (by decide) (by decide)
  rw [show TM.honest 100 99 10 = true by decide] at h
  exact h
theorem honest_98 (w : World) : Calls Try.prog 12 #[.int .i64 100, .int .i64 98, .int .i64 10] w fun e w' => e = .returned (.bool false) ∧ Up w w' := by
  have h := Honest_any 100 98 10 w (by decide) (by decide) (by decide)
  rw [show TM.honest 100 98 10 = false by decide] at h
  exact h
theorem least_c (w : World) : Calls Try.prog 13 #[.int .i64 3, .int .i64 4] w fun e w' => e = .returned (.int .i64 334) ∧ Up w w' := by
  have h := Least_any 3 4 w (by decide) (by decide)
  rw [show TM.least 3 4 = 334 by decide +kernel] at h
  exact h
set_option maxHeartbeats 1000000 in
theorem awake_any (w : World) : Calls Try.prog 10 #[] w fun e w' => e = .returned (.bool true) ∧ Up w w' := by
  have HU := Lib.hid (Up.refl w)
  go_enter Try.func10, Try.ntmps10
  go_wp2_with fail
  refine (shrink_c _).mono ?_
  rintro e w' ⟨rfl, rfl⟩
  go_wp2_with fail
  refine (add_c _).mono ?_
  rintro e w' ⟨rfl, rfl⟩
  go_wp2_with fail
  refine (left_c _).mono ?_
  rintro e w' ⟨rfl, rfl⟩
  go_wp2_with fail
  refine (legal_4 _).mono ?_
  rintro e w' ⟨rfl, rfl⟩
  go_wp2_with fail
  refine (legal_3 _).mono ?_
  rintro e w' ⟨rfl, rfl⟩
  go_wp2_with fail
  refine (honest_99 _).mono ?_
  rintro e w' ⟨rfl, hU⟩
  have HU := Lib.hid (HU.out.trans hU)
  clear hU
  go_wp2_with fail
  refine (honest_98 _).mono ?_
  rintro e w' ⟨rfl, hU⟩
  have HU := Lib.hid (HU.out.trans hU)
  clear hU
  go_wp2_with fail
  refine (least_c _).mono ?_
  rintro e w' ⟨rfl, hU⟩
  have HU := Lib.hid (HU.out.trans hU)
  clear hU
  go_wp2_with fail
  go_ret
  exact ⟨rfl, HU.out⟩
end Go.Proofs.Ytjhiicnnonmcnaa
