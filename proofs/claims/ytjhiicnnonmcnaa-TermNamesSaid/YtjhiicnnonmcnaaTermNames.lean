/- The limits of times and terms are the document's, and the greatest numbers are reckoned rightly; there is no input. -/
import Derived.Test.YtjhiicnnonmcnaaRows
import Derived.Test.YtjhiicnnonmcnaaTermW8
import Derived.Test.YtjhiicnnonmcnaaTermW2
import Derived.Test.YtjhiicnnonmcnaaLawBare
import Derived.JoinedCond
import Derived.OpenShut
namespace Go.Proofs.Ytjhiicnnonmcnaa.lawTermNames
open Go Go.RowKit Go.ChangeShapes Go.WideShapes Go.ChangeAt
set_option linter.unusedVariables false
set_option linter.unusedSimpArgs false
theorem add_top (w : World) : Calls Try.prog 11 #[.int .i64 4611686018427387903, .int .i64 5] w fun e w' => e = .returned (.int .i64 4611686018427387904) ∧ w = w' := by
  have h := Add_any 4611686018427387903 5 w (by decide) (by decide)
  rw [show TM.add 4611686018427387903 5 = 4611686018427387904 by decide] at h
  exact h
theorem honest_top (w : World) : Calls Try.prog 12 #[.int .i64 9223372036854775807, .int .i64 9223372036854775807, .int .i64 0] w fun e w' => e = .returned (.bool true) ∧ Up w w' := by
  have h := Honest_any 9223372036854775807 9223372036854775807 0 w (by decide) (by decide) (by decide)
  rw [show TM.honest 9223372036854775807 9223372036854775807 0 = true by decide] at h
  exact h
theorem honest_less (w : World) : Calls Try.prog 12 #[.int .i64 9223372036854775807, .int .i64 9223372036854775806, .int .i64 0] w fun e w' => e = .returned (.bool false) ∧ Up w w' := by
  have h := Honest_any 9223372036854775807 9223372036854775806 0 w (by decide) (by decide) (by decide)
  rw [show TM.honest 9223372036854775807 9223372036854775806 0 = false by decide] at h
  exact h
theorem least_top (w : World) : Calls Try.prog 13 #[.int .i64 9223372036854775807, .int .i64 9223372036854775806] w fun e w' => e = .returned (.int .i64 1) ∧ Up w w' := by
  have h := Least_any 9223372036854775807 9223372036854775806 w (by decide) (by decide)
  rw [show TM.least 9223372036854775807 9223372036854775806 = 1 by decide +kernel] at h
  exact h
set_option maxRecDepth 100000 in
set_option maxHeartbeats 4000000 in
theorem walk (w : World)  :
    Calls Try.prog 3 #[] w (LK.True_ w) := by
  have HU := Lib.hid (Up.refl w)
  go_enter Try.func3, Try.ntmps3
  go_wp2_with fail
  refine (awake_any _).mono ?_
  rintro e w' ⟨rfl, hU⟩
  have HU := Lib.hid (HU.out.trans hU)
  clear hU
  go_wp2_with fail
  refine (add_top _).mono ?_
  rintro e w' ⟨rfl, rfl⟩
  go_wp2_with fail
  refine (honest_top _).mono ?_
  rintro e w' ⟨rfl, hU⟩
  have HU := Lib.hid (HU.out.trans hU)
  clear hU
  go_wp2_with fail
  refine (honest_less _).mono ?_
  rintro e w' ⟨rfl, hU⟩
  have HU := Lib.hid (HU.out.trans hU)
  clear hU
  go_wp2_with fail
  refine (least_top _).mono ?_
  rintro e w' ⟨rfl, hU⟩
  have HU := Lib.hid (HU.out.trans hU)
  clear hU
  go_wp2_with fail
  go_ret
  exact ⟨rfl, HU.out.below (Nat.le_refl _)⟩

theorem own : ownKnob Try.prog.godebug = none := by kernel_rfl
theorem laidOut : laidOutB Try.prog = true := by kernel_rfl
set_option maxRecDepth 100000 in
theorem lifted (os : Os) (started : os.Started) (H : Type) (enc : TypeId × Value → H) :
    ReturnsInHanded {} Try.checked os 3 .any (Rows.termNamesSpec.pre6 enc Try.prog Try.f3 [] false) (Rows.termNamesSpec.post enc Try.prog Try.f3 false true false false) := by
  refine LK.lifted_bare (C := Try.checked) (tb := 4) own started (by kernel_rfl) Try.func3 laidOut rfl (by kernel_rfl) (by kernel_rfl) Try.underlying4
    (fun ds h => by
      match ds, h with
      | [], _ => rfl)
    (ChangeSpec.witness6 (enc := enc) (C := Try.checked) false ⟨#[], #[], []⟩ 8 (by kernel_rfl) (by kernel_rfl) (by kernel_rfl) (by kernel_rfl)) ?_
  intro W base args ds ps hval hA hwt _
  rw [show Try.f3.params.toList = [] by kernel_rfl] at hA hwt
  have hval' : ∀ (j : Nat) t v, (#[] : Array TypeId)[j]? = some t → args[j]? = some v → Value.okWide Try.prog W .any base t v := by
    rw [← Try.params3]; exact hval
  clear hval
  obtain ⟨rfl, _, _⟩ := trodAll_none hA
  exact walk W

/-- The statement. -/
theorem proved : Rows.TermNamesSaid :=
  OpenClaim.holds_of_wide 3 Try.f3 rfl rfl rfl rfl rfl rfl rfl ⟨rfl, rfl, rfl, rfl, rfl⟩ rfl rfl rfl rfl rfl (by kernel_rfl) Try.func3 (by kernel_rfl)
    (of_decide_eq_true (by kernel_rfl)) (by unfold Func.isWrapper; first | (rw [if_pos (by decide +kernel)]; kernel_rfl) | (rw [if_neg (by decide +kernel)]; exact ⟨rfl, rfl⟩))
    (fun os started H enc _ => lifted os started H enc)

end Go.Proofs.Ytjhiicnnonmcnaa.lawTermNames
