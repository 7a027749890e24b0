/- The error and limits are the document's, and no clock passes the last time; there is no input. -/
import Derived.Test.YtbcpphckjfbkbaaRows
import Derived.Test.YtbcpphckjfbkbaaClkArg
import Derived.Test.YtbcpphckjfbkbaaClkW6
import Derived.Test.YtbcpphckjfbkbaaLawBare
import Derived.JoinedCond
import Derived.OpenShut
namespace Go.Proofs.Ytbcpphckjfbkbaa.lawClocksNames
open Go Go.RowKit Go.ChangeShapes Go.WideShapes Go.ChangeAt
set_option linter.unusedVariables false
set_option linter.unusedSimpArgs false
def all8 : List Int := [1152921504606846976, 0, 0, 0, 0, 0, 0, 1152921504606846976]
def one8 : List Int := [0, 0, 0, 0, 0, 0, 0, 1]
def nil8 : List Int := [0, 0, 0, 0, 0, 0, 0, 0]
def ckE : CK.Ck := ⟨all8, 1152921504606846976, 1000⟩
theorem st1 : CK.err (CK.zero 8) 1152921504606846976 all8 = 0 := by decide +kernel
theorem st1' : CK.step (CK.zero 8) 1152921504606846976 all8 = ckE := CK.step_eq st1 rfl rfl (by decide +kernel)
theorem st2 : CK.err ckE 1 (List.replicate 8 0) = 30 := by decide +kernel
theorem st2' : CK.step ckE 1 (List.replicate 8 0) = ckE := CK.step_no (by rw [st2]; decide)
theorem st3 : CK.err ckE 0 one8 = 30 := by decide +kernel
theorem st3' : CK.step ckE 0 one8 = ckE := CK.step_no (by rw [st3]; decide)
theorem st4 : CK.err ckE 0 (List.replicate 8 0) = 0 := by decide +kernel
theorem st4' : CK.step ckE 0 (List.replicate 8 0) = ckE := CK.step_eq st4 rfl rfl (by decide +kernel)
set_option maxRecDepth 100000 in
set_option maxHeartbeats 8000000 in
theorem walk (w : World) : Calls Try.prog 3 #[] w (LK.True_ w) := by
  have hmk : ∀ w' : World, (Instr.makeSlice 27 (.int .i64 8) (.int .i64 8)).run Try.prog w' = .ok (.slice (some ⟨w'.heap.size, 0, none⟩) 8 8) (w'.alloc (.cells (madeCells #[.int .i64 0] 8) 3)) := fun w' => run_make_row' (P := Try.prog) 27 3 (.int .i64 0) 8 Try.underlying27 info_int rfl .i64 .i64 8 (by omega) (by omega) w'
  go_enter Try.func3, Try.ntmps3
  go_wp2_with fail
  refine (New_ok 8 w (by decide)).mono ?_
  rintro e w1 ⟨rfl, hc, hb⟩
  have HC := Lib.hid hc
  have HX := Lib.hid hb
  clear hc hb
  go_wp2_with fail
  refine (New_no 9 w1 (.inr (by decide)) (by decide)).mono ?_
  rintro e w2 ⟨rfl, rfl⟩
  go_wp2_with fail
  refine (New_no 0 w1 (.inl (by decide)) (by decide)).mono ?_
  rintro e w2 ⟨rfl, rfl⟩
  go_wp2_with fail
  refine (awake_any w1).mono ?_
  rintro e w2 ⟨rfl, hb⟩
  have HX2 := Lib.hid (below_on HX.out hb)
  have HC2 := Lib.hid (HC.out.below hb)
  clear hb HX HC
  go_wp2_with fail
  refine (tick_new HC2.out HX2.out (Nat.le_refl _) HX2.out.size all8 (.cells (i64s all8).toArray 3) (ints_lit w2 all8) 1152921504606846976 8 (by decide) (by decide) (by decide) (in64 rfl) st1 st1').mono ?_
  rintro e w3 ⟨rfl, HC3, HX3⟩
  clear HC2 HX2
  go_wp2_with fail
  refine (tick_new HC3.out HX3.out (Nat.le_refl _) HX3.out.size (List.replicate 8 0) (.cells (madeCells #[.int .i64 0] 8) 3) (made_ints w3 8) 1 8 (by decide) (by decide) (by decide) (in64 rfl) st2 st2').mono ?_
  rintro e w4 ⟨rfl, HC4, HX4⟩
  clear HC3 HX3
  go_wp2_with fail
  refine (tick_new HC4.out HX4.out (Nat.le_refl _) HX4.out.size one8 (.cells (i64s one8).toArray 3) (ints_lit w4 one8) 0 8 (by decide) (by decide) (by decide) (in64 rfl) st3 st3').mono ?_
  rintro e w5 ⟨rfl, HC5, HX5⟩
  clear HC4 HX4
  go_wp2_with fail
  refine (tick_new HC5.out HX5.out (Nat.le_refl _) HX5.out.size (List.replicate 8 0) (.cells (madeCells #[.int .i64 0] 8) 3) (made_ints w5 8) 0 8 (by decide) (by decide) (by decide) (in64 rfl) st4 st4').mono ?_
  rintro e w6 ⟨rfl, HC6, HX6⟩
  clear HC5 HX5
  go_wp2_with fail
  refine (Now_any HC6.out 0 (by decide)).mono ?_
  rintro e w7 ⟨rfl, rfl⟩
  rw [show CK.now ckE 0 = 1152921504606846976 from rfl]
  go_wp2_with fail
  refine (Drift_any HC6.out).mono ?_
  rintro e w7 ⟨rfl, rfl⟩
  rw [show ckE.dr = 1000 from rfl]
  go_wp2_with fail
  go_ret
  exact ⟨rfl, HX6.out⟩

theorem own : ownKnob Try.prog.godebug = none := by kernel_rfl
theorem laidOut : laidOutB Try.prog = true := by kernel_rfl
set_option maxRecDepth 100000 in
theorem lifted (os : Os) (started : os.Started) (H : Type) (enc : TypeId × Value → H) :
    ReturnsInHanded {} Try.checked os 3 .any (Rows.clocksNamesSpec.pre6 enc Try.prog Try.f3 [] false) (Rows.clocksNamesSpec.post enc Try.prog Try.f3 false true false false) := by
  refine LK.lifted_bare (C := Try.checked) (tb := 4) own started (by kernel_rfl) Try.func3 laidOut rfl (by kernel_rfl) (by kernel_rfl) Try.underlying4
    (fun ds h => by
      match ds, h with
      | [], _ => rfl)
    (ChangeSpec.witness6 (enc := enc) (C := Try.checked) false ⟨#[], #[], []⟩ 8 (by kernel_rfl) (by kernel_rfl) (by kernel_rfl) (by kernel_rfl)) ?_
  intro W base args ds ps hval hA hwt _
  rw [show Try.f3.params.toList = [] by kernel_rfl] at hA hwt
  have hval' : ∀ (j : Nat) t v, (#[] : Array TypeId)[j]? = some t → args[j]? = some v → Value.okWide Try.prog W .any base t v := by
    rw [← Try.params3]; exact hval
  clear hval
  obtain ⟨rfl, _, _⟩ := trodAll_none hA
  exact walk W

/-- The statement. -/
theorem proved : Rows.ClocksNamesSaid :=
  OpenClaim.holds_of_wide 3 Try.f3 rfl rfl rfl rfl rfl rfl rfl ⟨rfl, rfl, rfl, rfl, rfl⟩ rfl rfl rfl rfl rfl (by kernel_rfl) Try.func3 (by kernel_rfl)
    (of_decide_eq_true (by kernel_rfl)) (by unfold Func.isWrapper; first | (rw [if_pos (by decide +kernel)]; kernel_rfl) | (rw [if_neg (by decide +kernel)]; exact ⟨rfl, rfl⟩))
    (fun os started H enc _ => lifted os started H enc)

end Go.Proofs.Ytbcpphckjfbkbaa.lawClocksNames
