/- For every text, Valid, Split and Depth answer what the document says. -/
import Derived.Deep.DeepCutAuto
import Derived.Test.YtabilfjaiopemaaDoorPathsW5
import Derived.Test.YtabilfjaiopemaaDoorLawKit
import Derived.Test.YtabilfjaiopemaaDoorCards
import Derived.Test.YtabilfjaiopemaaDoorTie
import Derived.SevenTiedAt
namespace Go.Proofs.YtabilfjaiopemaaDoor.lawPathsReads
open Go Go.RowKit Go.ChangeShapes Go.WideShapes Go.ChangeAt
open Go.ChangeMaps (open_string shut_string)
open PM (str)
set_option linter.unusedVariables false

set_option maxHeartbeats 1000000 in
theorem walk (p : ByteArray) (w : World) (hp : p.size ≤ 140737488351232) (hw : HasMax w) : Calls Tryd.prog 4 #[.string p] w (LK.True_ w) := by
  have hp' : p.size ≤ 9223372036854775807 := by omega
  have HW := Lib.hid hw; clear hw
  go_enter Tryd.func4, Tryd.ntmps4
  go_wp2_with fail
  refine (awake_any _ HW.out).mono ?_
  rintro e w1 ⟨rfl, hb1⟩
  have HW1 := Lib.hid (HW.out.below hb1)
  by_cases ho : PM.okB p.data.toList = true
  · have HO := Lib.hid ho; clear ho
    go_wp2_with fail
    refine (Split_ok p _ HW1.out HO.out).mono ?_
    rintro e w2 ⟨A, c, rfl, hS, hb2, _, _⟩
    go_wp2_with fail
    refine (RSplit_any p _ hp).mono ?_
    rintro e w3 ⟨hcase, hb3⟩
    rcases hcase with ⟨_, B, d, rfl, hS2⟩ | ⟨hno, _⟩
    · have h4 := (segs_len HO.out).1
      have HS := Lib.hid (hS.below hb3); have HS2 := Lib.hid hS2; clear hS hS2
      go_wp2_with fail
      refine (same_any _ _ _ _ _ _ _ HS.out HS2.out (by omega)).mono ?_
      rintro e w4 ⟨rfl, hb4⟩
      go_wp2_with (first
        | (go_at_call 12; refine (Valid_any _ _ hp').mono ?_; rintro e w' ⟨rfl, rfl⟩)
        | (go_at_call 16; refine (RValid_any _ _ hp).mono ?_; rintro e w5 ⟨rfl, hb5⟩)
        | (go_at_call 17; refine (Depth_any _ _ hp').mono ?_; rintro e w' ⟨rfl, rfl⟩)
        | (go_at_call 18; refine (RDepth_any _ _ hp).mono ?_; rintro e w6 ⟨rfl, hb6⟩))
      go_ret
      exact ⟨ret_bool (by simp), ((((hb1.on hb2).on hb3).on hb4).on hb5).on hb6⟩
    · rw [HO.out] at hno; cases hno
  · have HO := Lib.hid (Bool.eq_false_iff.2 ho); clear ho
    go_wp2_with fail
    refine (Split_no p _ hp' HO.out).mono ?_
    rintro e w2 ⟨rfl, rfl⟩
    go_wp2_with fail
    refine (RSplit_any p _ hp).mono ?_
    rintro e w3 ⟨hcase, hb3⟩
    rcases hcase with ⟨hno, _⟩ | ⟨_, rfl⟩
    · rw [HO.out] at hno; cases hno
    · go_wp2_with fail
      refine (same_none _ _ _ _ _).mono ?_
      rintro e w4 ⟨rfl, rfl⟩
      go_wp2_with (first
        | (go_at_call 12; refine (Valid_any _ _ hp').mono ?_; rintro e w' ⟨rfl, rfl⟩)
        | (go_at_call 16; refine (RValid_any _ _ hp).mono ?_; rintro e w5 ⟨rfl, hb5⟩)
        | (go_at_call 17; refine (Depth_any _ _ hp').mono ?_; rintro e w' ⟨rfl, rfl⟩)
        | (go_at_call 18; refine (RDepth_any _ _ hp).mono ?_; rintro e w6 ⟨rfl, hb6⟩))
      go_ret
      exact ⟨ret_bool (by simp), ((hb1.on hb3).on hb5).on hb6⟩

theorem own : ownKnob Tryd.prog.godebug = none := by kernel_rfl
theorem laidOut : laidOutB Tryd.prog = true := by kernel_rfl
set_option maxRecDepth 100000 in
theorem lifted (os : Os) (started : os.Started) (H : Type) (enc : TypeId × Value → H) :
    ReturnsInHanded {} Tryd.checked os 4 .any (fun w args => (Rows.pathsReadsSpec.pre enc Tryd.prog Tryd.f4 [] false w args ∧ laidMetH Tryd.prog Rows.pathsReadsRow.laid w) ∧ sizedMet enc Tryd.prog Tryd.f4 (OpenSpec.ofChange Rows.pathsReadsSpec) false w args)
      (Rows.pathsReadsSpec.post enc Tryd.prog Tryd.f4 false true false false) := by
  refine LK.lifted_of_law (C := Tryd.checked) (laid := Rows.pathsReadsRow.laid) (tb := 4) own started (by kernel_rfl) Tryd.func4 laidOut rfl (by kernel_rfl) (by kernel_rfl) Tryd.underlying4
    (fun ds h => by
      match ds, h with
      | [_], _ => rfl)
    (ChangeSpec.witness_shaped (enc := enc) (C := Tryd.checked) (os := os) (X := fun w _ => laidMetH Tryd.prog Rows.pathsReadsRow.laid w) false (World.laidAll Tryd.prog os Rows.pathsReadsRow.laid) #[.string ⟨#[]⟩] 8 (World.laidAll_os _ _ _)
      (World.shaped_of_ZipB (by kernel_rfl) (by kernel_rfl)) (by kernel_rfl) (by kernel_rfl) (by kernel_rfl)
      (by rw [MakeChecks.laidMetH_plain _ _ _ (by kernel_rfl)]; exact laidMet_laidAll _ (by kernel_rfl) (by kernel_rfl))) ?_
  intro W base args ds ps hval hA hwt hsh _
  rw [show Tryd.f4.params.toList = [9] by kernel_rfl] at hA hwt
  have hval' : ∀ (j : Nat) t v, (#[9] : Array TypeId)[j]? = some t → args[j]? = some v → Value.okWide Tryd.prog W .any base t v := by
    rw [← Tryd.params4]; exact hval
  clear hval
  obtain ⟨v0, d0, rfl, rfl, h0⟩ := trodAll_one hA
  obtain ⟨s0, rfl, rfl, _, _⟩ := open_string Tryd.underlying9 (hval' 0 9 v0 rfl rfl) h0
  have k0 : s0.size ≤ 140737488351232 := sized_string hwt (j := 0) rfl rfl
  exact walk s0 W k0 (max_of hsh)

theorem over : Rows.pathsReadsRow.holds Tryd.pinned (OpenSpec.ofChange Rows.pathsReadsSpec) :=
  OpenClaim.holds_of_wide 4 Tryd.f4 rfl rfl rfl rfl rfl rfl rfl ⟨rfl, rfl, rfl, rfl, rfl⟩ rfl rfl rfl rfl rfl (by kernel_rfl) Tryd.func4 (by kernel_rfl)
    (of_decide_eq_true (by kernel_rfl)) (by unfold Func.isWrapper; first | (rw [if_pos (by decide +kernel)]; kernel_rfl) | (rw [if_neg (by decide +kernel)]; exact ⟨rfl, rfl⟩))
    (fun os started H enc _ => lifted os started H enc)

/-- The statement. -/
theorem proved : Rows.PathsReadsCardSaid :=
  Claim7.holds_tied_plain_at .later [] Rows.pathsReadsCard.laidKinds true Rows.pathsReadsCard.stood.harness false
    over (fun _ h => by cases h) (by kernel_rfl) (fun _ h => by cases h) pathsReads_row_tie rfl ⟨rfl, rfl⟩ (by kernel_rfl) rfl
    (fun f fn hf hfn => by
      obtain rfl : f = 4 := Option.some.inj ((show Tryd.prog.funcNamed Rows.pathsReadsRow.func = some 4 by kernel_rfl).symm.trans hf) |>.symm
      obtain rfl : fn = Tryd.f4 := (Option.some.inj (Tryd.func4.symm.trans hfn)).symm
      exact ⟨by kernel_rfl, fun j t ht => by
        rw [Tryd.params4] at ht
        have hm : t ∈ ([9] : List TypeId) := by simpa using Array.mem_of_getElem? ht
        have hall : (([9] : List TypeId).all fun u => !Tryd.prog.wantsStandIn u) = true := by kernel_rfl
        exact (show Tryd.prog.wantsStandIn t = false by simpa using List.all_eq_true.1 hall t hm)⟩)
    (by kernel_rfl)

end Go.Proofs.YtabilfjaiopemaaDoor.lawPathsReads
