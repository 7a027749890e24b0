/- Honest and Least answer what the document says; for any three numbers. -/
import Derived.Test.YtjhiicnnonmcnaaRows
import Derived.Test.YtjhiicnnonmcnaaTermW8
import Derived.Test.YtjhiicnnonmcnaaTermW2
import Derived.Test.YtjhiicnnonmcnaaLawBare
import Derived.JoinedCond
import Derived.OpenShut
namespace Go.Proofs.Ytjhiicnnonmcnaa.lawTermHonest
open Go Go.RowKit Go.ChangeShapes Go.WideShapes Go.ChangeAt
set_option linter.unusedVariables false
set_option linter.unusedSimpArgs false
set_option maxRecDepth 100000 in
set_option maxHeartbeats 4000000 in
theorem walk (d a r : Int) (w : World) (hd : -9223372036854775808 ≤ d ∧ d ≤ 9223372036854775807) (ha : -9223372036854775808 ≤ a ∧ a ≤ 9223372036854775807) (hr : -9223372036854775808 ≤ r ∧ r ≤ 9223372036854775807) :
    Calls Try.prog 6 #[.int .i64 d, .int .i64 a, .int .i64 r] w (LK.True_ w) := by
  have HA := Lib.hid (fun w' => Honest_any d a r w' hd ha hr)
  have HB := Lib.hid (fun w' => RefHonest_any d a r w' hd ha hr)
  have HC := Lib.hid (fun w' => Least_any d a w' hd ha)
  have HD := Lib.hid (fun w' => RefLeast_any d a w' hd ha)
  generalize TM.honest d a r = p at *
  generalize (TM.least d a : Int) = n at *
  have HU := Lib.hid (Up.refl w)
  go_enter Try.func6, Try.ntmps6
  go_wp2_with fail
  refine (awake_any _).mono ?_
  rintro e w' ⟨rfl, hU⟩
  have HU := Lib.hid (HU.out.trans hU)
  clear hU
  go_wp2_with fail
  refine (HA.out _).mono ?_
  rintro e w' ⟨rfl, hU⟩
  have HU := Lib.hid (HU.out.trans hU)
  clear hU
  go_wp2_with fail
  refine (HB.out _).mono ?_
  rintro e w' ⟨rfl, hU⟩
  have HU := Lib.hid (HU.out.trans hU)
  clear hU
  go_wp2_with fail
  refine (HC.out _).mono ?_
  rintro e w' ⟨rfl, hU⟩
  have HU := Lib.hid (HU.out.trans hU)
  clear hU
  go_wp2_with fail
  refine (HD.out _).mono ?_
  rintro e w' ⟨rfl, hU⟩
  have HU := Lib.hid (HU.out.trans hU)
  clear hU
  go_wp2_with fail
  go_ret
  exact ⟨rfl, HU.out.below (Nat.le_refl _)⟩

theorem own : ownKnob Try.prog.godebug = none := by kernel_rfl
theorem laidOut : laidOutB Try.prog = true := by kernel_rfl
set_option maxRecDepth 100000 in
theorem lifted (os : Os) (started : os.Started) (H : Type) (enc : TypeId × Value → H) :
    ReturnsInHanded {} Try.checked os 6 .any (Rows.termHonestSpec.pre6 enc Try.prog Try.f6 [] false) (Rows.termHonestSpec.post enc Try.prog Try.f6 false true false false) := by
  refine LK.lifted_bare (C := Try.checked) (tb := 4) own started (by kernel_rfl) Try.func6 laidOut rfl (by kernel_rfl) (by kernel_rfl) Try.underlying4
    (fun ds h => by
      match ds, h with
      | [_, _, _], _ => rfl)
    (ChangeSpec.witness6 (enc := enc) (C := Try.checked) false ⟨#[], #[.int .i64 0, .int .i64 0, .int .i64 0], []⟩ 8 (by kernel_rfl) (by kernel_rfl) (by kernel_rfl) (by kernel_rfl)) ?_
  intro W base args ds ps hval hA hwt _
  rw [show Try.f6.params.toList = [3, 3, 3] by kernel_rfl] at hA hwt
  have hval' : ∀ (j : Nat) t v, (#[3, 3, 3] : Array TypeId)[j]? = some t → args[j]? = some v → Value.okWide Try.prog W .any base t v := by
    rw [← Try.params6]; exact hval
  clear hval
  obtain ⟨v0, v1, v2, d0, d1, d2, p0, p1, p2, rfl, rfl, rfl, h0, h1, h2⟩ := trodAll_three hA
  obtain ⟨n0, rfl, rfl, rfl, hn0⟩ := open_int Try.underlying3 (hval' 0 3 v0 rfl rfl) h0
  have hr0 : -9223372036854775808 ≤ n0 ∧ n0 ≤ 9223372036854775807 := by simpa [Lit.wf, IntKind.min, IntKind.max, IntKind.signed, IntKind.bits] using hn0
  obtain ⟨n1, rfl, rfl, rfl, hn1⟩ := open_int Try.underlying3 (hval' 1 3 v1 rfl rfl) h1
  have hr1 : -9223372036854775808 ≤ n1 ∧ n1 ≤ 9223372036854775807 := by simpa [Lit.wf, IntKind.min, IntKind.max, IntKind.signed, IntKind.bits] using hn1
  obtain ⟨n2, rfl, rfl, rfl, hn2⟩ := open_int Try.underlying3 (hval' 2 3 v2 rfl rfl) h2
  have hr2 : -9223372036854775808 ≤ n2 ∧ n2 ≤ 9223372036854775807 := by simpa [Lit.wf, IntKind.min, IntKind.max, IntKind.signed, IntKind.bits] using hn2
  exact walk n0 n1 n2 W hr0 hr1 hr2

/-- The statement. -/
theorem proved : Rows.TermHonestSaid :=
  OpenClaim.holds_of_wide 6 Try.f6 rfl rfl rfl rfl rfl rfl rfl ⟨rfl, rfl, rfl, rfl, rfl⟩ rfl rfl rfl rfl rfl (by kernel_rfl) Try.func6 (by kernel_rfl)
    (of_decide_eq_true (by kernel_rfl)) (by unfold Func.isWrapper; first | (rw [if_pos (by decide +kernel)]; kernel_rfl) | (rw [if_neg (by decide +kernel)]; exact ⟨rfl, rfl⟩))
    (fun os started H enc _ => lifted os started H enc)

end Go.Proofs.Ytjhiicnnonmcnaa.lawTermHonest
