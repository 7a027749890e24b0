/- What two paths both cover is just what their Meet covers, and there is a Meet just if they overlap; for any three texts. -/
import Derived.Deep.DeepCutAuto
import Derived.Test.YtabilfjaiopemaaDoorPathsW5
import Derived.Test.YtabilfjaiopemaaDoorLawKit
import Derived.Test.YtabilfjaiopemaaDoorCards
import Derived.Test.YtabilfjaiopemaaDoorTie
import Derived.SevenTiedAt
namespace Go.Proofs.YtabilfjaiopemaaDoor.lawPathsMeets
open Go Go.RowKit Go.ChangeShapes Go.WideShapes Go.ChangeAt
open Go.ChangeMaps (open_string shut_string)
open PM (str)
set_option linter.unusedVariables false

section
variable {p q r : List UInt8}
theorem mA (h : PM.cov p q = true) (hn : ¬ PM.cov p r = true) : (!PM.cov q r) = true := by
  cases hq : PM.cov q r with
  | false => rfl
  | true => exact absurd (PM.cov_trans h hq) hn
theorem mB (h : PM.cov q p = true) (hn : PM.cov p r = true) : PM.cov q r = true := PM.cov_trans h hn
theorem mC (h1 : PM.cov p q = false) (h2 : PM.cov q p = false) (hn : PM.cov p r = true) : (!PM.cov q r) = true := by
  cases hq : PM.cov q r with
  | false => rfl
  | true =>
    rcases PM.cov_both hn hq with h | h
    · rw [h] at h1; cases h1
    · rw [h] at h2; cases h2
theorem mD {b : Bool} (h : PM.okB q = true) (hn : ¬ PM.cov q q = true) : b = true := absurd ((PM.cov_self q).trans h) hn
end

set_option maxHeartbeats 4000000 in
theorem walk (p q r : ByteArray) (w : World) (hp : p.size ≤ 140737488351232) (hq : q.size ≤ 140737488351232) (hr : r.size ≤ 140737488351232) (hw : HasMax w) : Calls Tryd.prog 9 #[.string p, .string q, .string r] w (LK.True_ w) := by
  have hp' : p.size ≤ 9223372036854775807 := by omega
  have hq' : q.size ≤ 9223372036854775807 := by omega
  have hr' : r.size ≤ 9223372036854775807 := by omega
  have HW := Lib.hid hw; clear hw
  go_enter Tryd.func9, Tryd.ntmps9
  go_wp2_with fail
  refine (awake_any _ HW.out).mono ?_
  rintro e w1 ⟨rfl, hb1⟩
  go_wp2_with fail
  refine (Meet_any p q _ hp' hq').mono ?_
  rintro e w' ⟨he, rfl⟩
  unfold MeetPost at he
  by_cases h1 : PM.cov p.data.toList q.data.toList = true
  · rw [if_pos h1] at he
    subst he
    have g2 : PM.okB q.data.toList = true := PM.cov_okr h1
    go_wp2_with (first
      | (go_at_call 23; refine (Covers_any _ _ _ (by assumption) (by assumption)).mono ?_; rintro e w' ⟨rfl, rfl⟩)
      | (go_at_call 25; refine (Overlap_any _ _ _ (by assumption) (by assumption)).mono ?_; rintro e w' ⟨rfl, rfl⟩))
    all_goals
      go_ret
      refine ⟨ret_bool ?_, hb1⟩
      first
        | rfl
        | exact mD g2 ‹_›
        | exact mA h1 ‹_›
        | simp
  · rw [if_neg h1] at he
    have h1' : PM.cov p.data.toList q.data.toList = false := by simpa using h1
    clear h1
    by_cases h2 : PM.cov q.data.toList p.data.toList = true
    · rw [if_pos h2] at he
      subst he
      have g2 : PM.okB p.data.toList = true := PM.cov_okr h2
      go_wp2_with (first
        | (go_at_call 23; refine (Covers_any _ _ _ (by assumption) (by assumption)).mono ?_; rintro e w' ⟨rfl, rfl⟩)
        | (go_at_call 25; refine (Overlap_any _ _ _ (by assumption) (by assumption)).mono ?_; rintro e w' ⟨rfl, rfl⟩))
      all_goals
        go_ret
        refine ⟨ret_bool ?_, hb1⟩
        first
          | rfl
          | exact mD g2 ‹_›
          | exact mB h2 ‹_›
          | simp
    · rw [if_neg h2] at he
      have h2' : PM.cov q.data.toList p.data.toList = false := by simpa using h2
      clear h2
      subst he
      go_wp2_with (first
        | (go_at_call 23; refine (Covers_any _ _ _ (by assumption) (by assumption)).mono ?_; rintro e w' ⟨rfl, rfl⟩)
        | (go_at_call 25; refine (Overlap_any _ _ _ (by assumption) (by assumption)).mono ?_; rintro e w' ⟨rfl, rfl⟩))
      all_goals
        go_ret
        refine ⟨ret_bool ?_, hb1⟩
        first
          | rfl
          | exact mC h1' h2' ‹_›
          | simp

theorem own : ownKnob Tryd.prog.godebug = none := by kernel_rfl
theorem laidOut : laidOutB Tryd.prog = true := by kernel_rfl
set_option maxRecDepth 100000 in
theorem lifted (os : Os) (started : os.Started) (H : Type) (enc : TypeId × Value → H) :
    ReturnsInHanded {} Tryd.checked os 9 .any (fun w args => (Rows.pathsMeetsSpec.pre enc Tryd.prog Tryd.f9 [] false w args ∧ laidMetH Tryd.prog Rows.pathsMeetsRow.laid w) ∧ sizedMet enc Tryd.prog Tryd.f9 (OpenSpec.ofChange Rows.pathsMeetsSpec) false w args)
      (Rows.pathsMeetsSpec.post enc Tryd.prog Tryd.f9 false true false false) := by
  refine LK.lifted_of_law (C := Tryd.checked) (laid := Rows.pathsMeetsRow.laid) (tb := 4) own started (by kernel_rfl) Tryd.func9 laidOut rfl (by kernel_rfl) (by kernel_rfl) Tryd.underlying4
    (fun ds h => by
      match ds, h with
      | [_, _, _], _ => rfl)
    (ChangeSpec.witness_shaped (enc := enc) (C := Tryd.checked) (os := os) (X := fun w _ => laidMetH Tryd.prog Rows.pathsMeetsRow.laid w) false (World.laidAll Tryd.prog os Rows.pathsMeetsRow.laid) #[.string ⟨#[]⟩, .string ⟨#[]⟩, .string ⟨#[]⟩] 8 (World.laidAll_os _ _ _)
      (World.shaped_of_ZipB (by kernel_rfl) (by kernel_rfl)) (by kernel_rfl) (by kernel_rfl) (by kernel_rfl)
      (by rw [MakeChecks.laidMetH_plain _ _ _ (by kernel_rfl)]; exact laidMet_laidAll _ (by kernel_rfl) (by kernel_rfl))) ?_
  intro W base args ds ps hval hA hwt hsh _
  rw [show Tryd.f9.params.toList = [9, 9, 9] by kernel_rfl] at hA hwt
  have hval' : ∀ (j : Nat) t v, (#[9, 9, 9] : Array TypeId)[j]? = some t → args[j]? = some v → Value.okWide Tryd.prog W .any base t v := by
    rw [← Tryd.params9]; exact hval
  clear hval
  obtain ⟨v0, v1, v2, d0, d1, d2, p0, p1, p2, rfl, rfl, rfl, h0, h1, h2⟩ := trodAll_three hA
  obtain ⟨s0, rfl, rfl, _, _⟩ := open_string Tryd.underlying9 (hval' 0 9 v0 rfl rfl) h0
  have k0 : s0.size ≤ 140737488351232 := sized_string hwt (j := 0) rfl rfl
  obtain ⟨s1, rfl, rfl, _, _⟩ := open_string Tryd.underlying9 (hval' 1 9 v1 rfl rfl) h1
  have k1 : s1.size ≤ 140737488351232 := sized_string hwt (j := 1) rfl rfl
  obtain ⟨s2, rfl, rfl, _, _⟩ := open_string Tryd.underlying9 (hval' 2 9 v2 rfl rfl) h2
  have k2 : s2.size ≤ 140737488351232 := sized_string hwt (j := 2) rfl rfl
  exact walk s0 s1 s2 W k0 k1 k2 (max_of hsh)

theorem over : Rows.pathsMeetsRow.holds Tryd.pinned (OpenSpec.ofChange Rows.pathsMeetsSpec) :=
  OpenClaim.holds_of_wide 9 Tryd.f9 rfl rfl rfl rfl rfl rfl rfl ⟨rfl, rfl, rfl, rfl, rfl⟩ rfl rfl rfl rfl rfl (by kernel_rfl) Tryd.func9 (by kernel_rfl)
    (of_decide_eq_true (by kernel_rfl)) (by unfold Func.isWrapper; first | (rw [if_pos (by decide +kernel)]; kernel_rfl) | (rw [if_neg (by decide +kernel)]; exact ⟨rfl, rfl⟩))
    (fun os started H enc _ => lifted os started H enc)

/-- The statement. -/
theorem proved : Rows.PathsMeetsCardSaid :=
  Claim7.holds_tied_plain_at .later [] Rows.pathsMeetsCard.laidKinds true Rows.pathsMeetsCard.stood.harness false
    over (fun _ h => by cases h) (by kernel_rfl) (fun _ h => by cases h) pathsMeets_row_tie rfl ⟨rfl, rfl⟩ (by kernel_rfl) rfl
    (fun f fn hf hfn => by
      obtain rfl : f = 9 := Option.some.inj ((show Tryd.prog.funcNamed Rows.pathsMeetsRow.func = some 9 by kernel_rfl).symm.trans hf) |>.symm
      obtain rfl : fn = Tryd.f9 := (Option.some.inj (Tryd.func9.symm.trans hfn)).symm
      exact ⟨by kernel_rfl, fun j t ht => by
        rw [Tryd.params9] at ht
        have hm : t ∈ ([9, 9, 9] : List TypeId) := by simpa using Array.mem_of_getElem? ht
        have hall : (([9, 9, 9] : List TypeId).all fun u => !Tryd.prog.wantsStandIn u) = true := by kernel_rfl
        exact (show Tryd.prog.wantsStandIn t = false by simpa using List.all_eq_true.1 hall t hm)⟩)
    (by kernel_rfl)

end Go.Proofs.YtabilfjaiopemaaDoor.lawPathsMeets
