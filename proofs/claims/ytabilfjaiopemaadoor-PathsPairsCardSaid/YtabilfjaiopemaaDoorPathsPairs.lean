/- For any two texts, Covers, Overlap, Meet and Compare answer what the document says. -/
import Derived.Deep.DeepCutAuto
import Derived.Test.YtabilfjaiopemaaDoorPathsW5
import Derived.Test.YtabilfjaiopemaaDoorLawKit
import Derived.Test.YtabilfjaiopemaaDoorCards
import Derived.Test.YtabilfjaiopemaaDoorTie
import Derived.SevenTiedAt
namespace Go.Proofs.YtabilfjaiopemaaDoor.lawPathsPairs
open Go Go.RowKit Go.ChangeShapes Go.WideShapes Go.ChangeAt
open Go.ChangeMaps (open_string shut_string)
open PM (str)
set_option linter.unusedVariables false

theorem meet_form (p q : ByteArray) : ∃ (m : ByteArray) (b : Bool), ∀ e, MeetPost p q e → e = .returned (.tuple #[.string m, .bool b]) := by
  unfold MeetPost
  split
  · exact ⟨_, _, fun e h => h⟩
  · split
    · exact ⟨_, _, fun e h => h⟩
    · exact ⟨_, _, fun e h => h⟩

set_option maxHeartbeats 1000000 in
theorem walk (p q : ByteArray) (w : World) (hp : p.size ≤ 140737488351232) (hq : q.size ≤ 140737488351232) (hw : HasMax w) : Calls Tryd.prog 6 #[.string p, .string q] w (LK.True_ w) := by
  have hp' : p.size ≤ 9223372036854775807 := by omega
  have hq' : q.size ≤ 9223372036854775807 := by omega
  have HW := Lib.hid hw; clear hw
  obtain ⟨m, b, hm⟩ := meet_form p q
  have HM := Lib.hid hm; clear hm
  go_enter Tryd.func6, Tryd.ntmps6
  go_wp2_with fail
  refine (awake_any _ HW.out).mono ?_
  rintro e w1 ⟨rfl, hb1⟩
  go_wp2_with fail
  refine (Meet_any p q _ hp' hq').mono ?_
  rintro e w' ⟨he, rfl⟩
  obtain rfl := HM.out e he
  clear he
  go_wp2_with fail
  refine (RMeet_any p q _ hp hq).mono ?_
  rintro e w2 ⟨he, hb2⟩
  obtain rfl := HM.out e he
  clear he
  go_wp2_with (first
    | (go_at_call 23; refine (Covers_any _ _ _ hp' hq').mono ?_; rintro e w' ⟨rfl, rfl⟩)
    | (go_at_call 24; refine (RCovers_any _ _ _ hp hq).mono ?_; rintro e w3 ⟨rfl, hb3⟩)
    | (go_at_call 25; refine (Overlap_any _ _ _ hp' hq').mono ?_; rintro e w' ⟨rfl, rfl⟩)
    | (go_at_call 26; refine (ROverlap_any _ _ _ hp hq).mono ?_; rintro e w4 ⟨rfl, hb4⟩)
    | (go_at_call 27; refine (Compare_any _ _ _).mono ?_; rintro e w' ⟨rfl, rfl⟩)
    | (go_at_call 28; refine (RCompare_any _ _ _ hp).mono ?_; rintro e w5 ⟨rfl, hb5⟩))
  go_ret
  exact ⟨ret_bool (by simp), (((hb1.on hb2).on hb3).on hb4).on hb5⟩

theorem own : ownKnob Tryd.prog.godebug = none := by kernel_rfl
theorem laidOut : laidOutB Tryd.prog = true := by kernel_rfl
set_option maxRecDepth 100000 in
theorem lifted (os : Os) (started : os.Started) (H : Type) (enc : TypeId × Value → H) :
    ReturnsInHanded {} Tryd.checked os 6 .any (fun w args => (Rows.pathsPairsSpec.pre enc Tryd.prog Tryd.f6 [] false w args ∧ laidMetH Tryd.prog Rows.pathsPairsRow.laid w) ∧ sizedMet enc Tryd.prog Tryd.f6 (OpenSpec.ofChange Rows.pathsPairsSpec) false w args)
      (Rows.pathsPairsSpec.post enc Tryd.prog Tryd.f6 false true false false) := by
  refine LK.lifted_of_law (C := Tryd.checked) (laid := Rows.pathsPairsRow.laid) (tb := 4) own started (by kernel_rfl) Tryd.func6 laidOut rfl (by kernel_rfl) (by kernel_rfl) Tryd.underlying4
    (fun ds h => by
      match ds, h with
      | [_, _], _ => rfl)
    (ChangeSpec.witness_shaped (enc := enc) (C := Tryd.checked) (os := os) (X := fun w _ => laidMetH Tryd.prog Rows.pathsPairsRow.laid w) false (World.laidAll Tryd.prog os Rows.pathsPairsRow.laid) #[.string ⟨#[]⟩, .string ⟨#[]⟩] 8 (World.laidAll_os _ _ _)
      (World.shaped_of_ZipB (by kernel_rfl) (by kernel_rfl)) (by kernel_rfl) (by kernel_rfl) (by kernel_rfl)
      (by rw [MakeChecks.laidMetH_plain _ _ _ (by kernel_rfl)]; exact laidMet_laidAll _ (by kernel_rfl) (by kernel_rfl))) ?_
  intro W base args ds ps hval hA hwt hsh _
  rw [show Tryd.f6.params.toList = [9, 9] by kernel_rfl] at hA hwt
  have hval' : ∀ (j : Nat) t v, (#[9, 9] : Array TypeId)[j]? = some t → args[j]? = some v → Value.okWide Tryd.prog W .any base t v := by
    rw [← Tryd.params6]; exact hval
  clear hval
  obtain ⟨v0, v1, d0, d1, p0, p1, rfl, rfl, rfl, h0, h1⟩ := trodAll_two hA
  obtain ⟨s0, rfl, rfl, _, _⟩ := open_string Tryd.underlying9 (hval' 0 9 v0 rfl rfl) h0
  have k0 : s0.size ≤ 140737488351232 := sized_string hwt (j := 0) rfl rfl
  obtain ⟨s1, rfl, rfl, _, _⟩ := open_string Tryd.underlying9 (hval' 1 9 v1 rfl rfl) h1
  have k1 : s1.size ≤ 140737488351232 := sized_string hwt (j := 1) rfl rfl
  exact walk s0 s1 W k0 k1 (max_of hsh)

theorem over : Rows.pathsPairsRow.holds Tryd.pinned (OpenSpec.ofChange Rows.pathsPairsSpec) :=
  OpenClaim.holds_of_wide 6 Tryd.f6 rfl rfl rfl rfl rfl rfl rfl ⟨rfl, rfl, rfl, rfl, rfl⟩ rfl rfl rfl rfl rfl (by kernel_rfl) Tryd.func6 (by kernel_rfl)
    (of_decide_eq_true (by kernel_rfl)) (by unfold Func.isWrapper; first | (rw [if_pos (by decide +kernel)]; kernel_rfl) | (rw [if_neg (by decide +kernel)]; exact ⟨rfl, rfl⟩))
    (fun os started H enc _ => lifted os started H enc)

/-- The statement. -/
theorem proved : Rows.PathsPairsCardSaid :=
  Claim7.holds_tied_plain_at .later [] Rows.pathsPairsCard.laidKinds true Rows.pathsPairsCard.stood.harness false
    over (fun _ h => by cases h) (by kernel_rfl) (fun _ h => by cases h) pathsPairs_row_tie rfl ⟨rfl, rfl⟩ (by kernel_rfl) rfl
    (fun f fn hf hfn => by
      obtain rfl : f = 6 := Option.some.inj ((show Tryd.prog.funcNamed Rows.pathsPairsRow.func = some 6 by kernel_rfl).symm.trans hf) |>.symm
      obtain rfl : fn = Tryd.f6 := (Option.some.inj (Tryd.func6.symm.trans hfn)).symm
      exact ⟨by kernel_rfl, fun j t ht => by
        rw [Tryd.params6] at ht
        have hm : t ∈ ([9, 9] : List TypeId) := by simpa using Array.mem_of_getElem? ht
        have hall : (([9, 9] : List TypeId).all fun u => !Tryd.prog.wantsStandIn u) = true := by kernel_rfl
        exact (show Tryd.prog.wantsStandIn t = false by simpa using List.all_eq_true.1 hall t hm)⟩)
    (by kernel_rfl)

end Go.Proofs.YtabilfjaiopemaaDoor.lawPathsPairs
