/- Covering is an order of paths, overlapping goes both ways, and Compare is an order of all texts that goes along with covering; for any three texts. -/
import Derived.Deep.DeepCutAuto
import Derived.Test.YtabilfjaiopemaaDoorPathsW5
import Derived.Test.YtabilfjaiopemaaDoorLawKit
import Derived.Test.YtabilfjaiopemaaDoorCards
import Derived.Test.YtabilfjaiopemaaDoorTie
import Derived.SevenTiedAt
namespace Go.Proofs.YtabilfjaiopemaaDoor.lawPathsOrder
open Go Go.RowKit Go.ChangeShapes Go.WideShapes Go.ChangeAt
open Go.ChangeMaps (open_string shut_string)
open PM (str)
set_option linter.unusedVariables false

set_option maxHeartbeats 4000000 in
set_option maxRecDepth 100000 in
theorem walk (p q r : ByteArray) (w : World) (hp : p.size ≤ 140737488351232) (hq : q.size ≤ 140737488351232) (hr : r.size ≤ 140737488351232) (hw : HasMax w) : Calls Tryd.prog 8 #[.string p, .string q, .string r] w (LK.True_ w) := by
  have hp' : p.size ≤ 9223372036854775807 := by omega
  have hq' : q.size ≤ 9223372036854775807 := by omega
  have hr' : r.size ≤ 9223372036854775807 := by omega
  have HW := Lib.hid hw; clear hw
  have cpp : ∀ w, Calls Tryd.prog 23 #[.string p, .string p] w fun e w' => e = .returned (.bool (PM.okB p.data.toList)) ∧ w = w' := fun w => by
    have := Covers_any p p w hp' hp'
    rw [PM.cov_self] at this
    exact this
  have oqp : ∀ w, Calls Tryd.prog 25 #[.string q, .string p] w fun e w' => e = .returned (.bool (PM.cov p.data.toList q.data.toList || PM.cov q.data.toList p.data.toList)) ∧ w = w' := fun w => by
    have := Overlap_any q p w hq' hp'
    rw [Bool.or_comm] at this
    exact this
  have kqp : ∀ w, Calls Tryd.prog 27 #[.string q, .string p] w fun e w' => e = .returned (.int .i64 (-PM.cmp p.data.toList q.data.toList)) ∧ w = w' := fun w => by
    have := Compare_any q p w
    rw [PM.cmp_neg] at this
    exact this
  have CPP := Lib.hid cpp; have OQP := Lib.hid oqp; have KQP := Lib.hid kqp
  clear cpp oqp kqp
  have r1 : -1 ≤ PM.cmp p.data.toList q.data.toList := by rcases PM.cmp_range p.data.toList q.data.toList with h | h | h <;> omega
  have r2 : PM.cmp p.data.toList q.data.toList ≤ 1 := by rcases PM.cmp_range p.data.toList q.data.toList with h | h | h <;> omega
  have hz : (PM.cmp p.data.toList q.data.toList == 0) = (p.toList == q.toList) := by
    rw [Bool.eq_iff_iff, beq_iff_eq, beq_iff_eq, Lib.toList_data, Lib.toList_data]
    exact ⟨fun h => PM.cmp_eq _ _ h, fun h => by rw [h]; exact PM.cmp_self _⟩
  go_enter Tryd.func8, Tryd.ntmps8
  go_wp2_with fail
  refine (awake_any _ HW.out).mono ?_
  rintro e w1 ⟨rfl, hb1⟩
  go_upto_region 5 with (first
    | (go_at_call 23; with_reducible refine (CPP.out _).mono ?_; rintro e w' ⟨rfl, rfl⟩)
    | (go_at_call 12; refine (Valid_any _ _ (by assumption)).mono ?_; rintro e w' ⟨rfl, rfl⟩)
    | (go_at_call 25; with_reducible refine (OQP.out _).mono ?_; rintro e w' ⟨rfl, rfl⟩)
    | (go_at_call 25; with_reducible refine (Overlap_any p q _ hp' hq').mono ?_; rintro e w' ⟨rfl, rfl⟩)
    | (go_at_call 27; with_reducible refine (KQP.out _).mono ?_; rintro e w' ⟨rfl, rfl⟩)
    | (go_at_call 27; with_reducible refine (Compare_any p q _).mono ?_; rintro e w' ⟨rfl, rfl⟩))
  clear hz
  go_cut [71] (fun s wx => s = .bool false ∧ w1 = wx)
  case first =>
    by_cases h1 : PM.cov p.data.toList q.data.toList = true
    · have a1 : PM.okB p.data.toList = true := PM.cov_okl h1
      have a2 : PM.okB q.data.toList = true := PM.cov_okr h1
      have a3 : PM.cmp p.data.toList q.data.toList ≤ 0 := PM.cov_cmp h1
      have a4 : PM.cov q.data.toList p.data.toList = (p.toList == q.toList) := by
        rw [Bool.eq_iff_iff, beq_iff_eq, Lib.toList_data, Lib.toList_data]
        exact ⟨fun h => PM.cov_anti h1 h, fun h => by rw [← h, PM.cov_self]; exact a1⟩
      go_wp2_with (first
        | (go_at_call 23; refine (Covers_any _ _ _ (by assumption) (by assumption)).mono ?_; rintro e w' ⟨rfl, rfl⟩)
        | (go_at_call 12; refine (Valid_any _ _ (by assumption)).mono ?_; rintro e w' ⟨rfl, rfl⟩)
        | (go_at_call 27; refine (Compare_any _ _ _).mono ?_; rintro e w' ⟨rfl, rfl⟩))
      go_meet
      exact ⟨congrArg Value.bool (decide_eq_false (by omega)), rfl⟩
    · have h1' : PM.cov p.data.toList q.data.toList = false := by simpa using h1
      clear h1
      go_wp2_with (go_at_call 23; refine (Covers_any _ _ _ (by assumption) (by assumption)).mono ?_; rintro e w' ⟨rfl, rfl⟩)
      go_meet
      exact ⟨rfl, rfl⟩
  case rest =>
    obtain ⟨rfl, rfl⟩ := hcut
    go_upto_region 7 with (fail)
    go_cut [101] (fun s wx => s = .bool false ∧ w1 = wx)
    case first =>
      by_cases h1 : PM.cov p.data.toList q.data.toList = true
      · by_cases h2 : PM.cov q.data.toList r.data.toList = true
        · have h3 := PM.cov_trans h1 h2
          go_wp2_with (first
            | (go_at_call 23; refine (Covers_any _ _ _ (by assumption) (by assumption)).mono ?_; rintro e w' ⟨rfl, rfl⟩)
            | (go_at_call 25; refine (Overlap_any _ _ _ (by assumption) (by assumption)).mono ?_; rintro e w' ⟨rfl, rfl⟩))
          go_meet
          exact ⟨rfl, rfl⟩
        · have h2' : PM.cov q.data.toList r.data.toList = false := by simpa using h2
          clear h2
          go_wp2_with (go_at_call 23; refine (Covers_any _ _ _ (by assumption) (by assumption)).mono ?_; rintro e w' ⟨rfl, rfl⟩)
          all_goals
            go_meet
            exact ⟨by simp, rfl⟩
      · have h1' : PM.cov p.data.toList q.data.toList = false := by simpa using h1
        clear h1
        by_cases h3 : PM.cov p.data.toList r.data.toList = true
        · by_cases h2 : PM.cov q.data.toList r.data.toList = true
          · have h4 : PM.cov q.data.toList p.data.toList = true := (PM.cov_both h3 h2).resolve_left (fun h => by rw [h1'] at h; cases h)
            go_wp2_with (first
              | (go_at_call 23; refine (Covers_any _ _ _ (by assumption) (by assumption)).mono ?_; rintro e w' ⟨rfl, rfl⟩)
              | (go_at_call 25; refine (Overlap_any _ _ _ (by assumption) (by assumption)).mono ?_; rintro e w' ⟨rfl, rfl⟩))
            go_meet
            exact ⟨rfl, rfl⟩
          · have h2' : PM.cov q.data.toList r.data.toList = false := by simpa using h2
            clear h2
            go_wp2_with (go_at_call 23; refine (Covers_any _ _ _ (by assumption) (by assumption)).mono ?_; rintro e w' ⟨rfl, rfl⟩)
            go_meet
            exact ⟨rfl, rfl⟩
        · have h3' : PM.cov p.data.toList r.data.toList = false := by simpa using h3
          clear h3
          go_wp2_with (go_at_call 23; refine (Covers_any _ _ _ (by assumption) (by assumption)).mono ?_; rintro e w' ⟨rfl, rfl⟩)
          go_meet
          exact ⟨rfl, rfl⟩
    case rest =>
      obtain ⟨rfl, rfl⟩ := hcut
      go_upto_region 9 with (fail)
      go_cut [115] (fun s wx => s = .bool false ∧ w1 = wx)
      case first =>
        by_cases h1 : PM.cov p.data.toList q.data.toList = true
        · have h2 := PM.cov_depth h1
          go_wp2_with (first
            | (go_at_call 23; refine (Covers_any _ _ _ (by assumption) (by assumption)).mono ?_; rintro e w' ⟨rfl, rfl⟩)
            | (go_at_call 17; refine (Depth_any _ _ (by assumption)).mono ?_; rintro e w' ⟨rfl, rfl⟩)
            | (go_at_call 25; refine (Overlap_any _ _ _ (by assumption) (by assumption)).mono ?_; rintro e w' ⟨rfl, rfl⟩))
          go_meet
          exact ⟨rfl, rfl⟩
        · have h1' : PM.cov p.data.toList q.data.toList = false := by simpa using h1
          clear h1
          by_cases h2 : PM.cov q.data.toList p.data.toList = true
          · have h3 : PM.depthI q.data.toList < PM.depthI p.data.toList := by
              rcases Int.lt_or_le (PM.depthI q.data.toList) (PM.depthI p.data.toList) with h | h
              · exact h
              · have e := PM.cov_of_depth h2 h
                rw [e, PM.cov_self, PM.cov_okl h2] at h1'
                cases h1'
            go_wp2_with (first
              | (go_at_call 23; refine (Covers_any _ _ _ (by assumption) (by assumption)).mono ?_; rintro e w' ⟨rfl, rfl⟩)
              | (go_at_call 17; refine (Depth_any _ _ (by assumption)).mono ?_; rintro e w' ⟨rfl, rfl⟩)
              | (go_at_call 25; refine (Overlap_any _ _ _ (by assumption) (by assumption)).mono ?_; rintro e w' ⟨rfl, rfl⟩))
            go_meet
            exact ⟨congrArg Value.bool (decide_eq_false (by omega)), rfl⟩
          · have h2' : PM.cov q.data.toList p.data.toList = false := by simpa using h2
            clear h2
            go_wp2_with (first
              | (go_at_call 23; refine (Covers_any _ _ _ (by assumption) (by assumption)).mono ?_; rintro e w' ⟨rfl, rfl⟩)
              | (go_at_call 25; refine (Overlap_any _ _ _ (by assumption) (by assumption)).mono ?_; rintro e w' ⟨rfl, rfl⟩))
            go_meet
            exact ⟨rfl, rfl⟩
      case rest =>
        obtain ⟨rfl, rfl⟩ := hcut
        go_wp2_with fail
        have h3 := PM.cmp_trans p.data.toList q.data.toList r.data.toList
        have H3 := Lib.hid h3; clear h3
        go_wp2_with (go_at_call 27; refine (Compare_any _ _ _).mono ?_; rintro e w' ⟨rfl, rfl⟩)
        all_goals
          go_ret
          refine ⟨ret_bool ?_, hb1⟩
          first
            | rfl
            | (simp; done)
            | (simp only [Bool.or_eq_true, decide_eq_true_eq]; exact Or.inr (H3.out (by omega) (by omega)))

theorem own : ownKnob Tryd.prog.godebug = none := by kernel_rfl
theorem laidOut : laidOutB Tryd.prog = true := by kernel_rfl
set_option maxRecDepth 100000 in
theorem lifted (os : Os) (started : os.Started) (H : Type) (enc : TypeId × Value → H) :
    ReturnsInHanded {} Tryd.checked os 8 .any (fun w args => (Rows.pathsOrderSpec.pre enc Tryd.prog Tryd.f8 [] false w args ∧ laidMetH Tryd.prog Rows.pathsOrderRow.laid w) ∧ sizedMet enc Tryd.prog Tryd.f8 (OpenSpec.ofChange Rows.pathsOrderSpec) false w args)
      (Rows.pathsOrderSpec.post enc Tryd.prog Tryd.f8 false true false false) := by
  refine LK.lifted_of_law (C := Tryd.checked) (laid := Rows.pathsOrderRow.laid) (tb := 4) own started (by kernel_rfl) Tryd.func8 laidOut rfl (by kernel_rfl) (by kernel_rfl) Tryd.underlying4
    (fun ds h => by
      match ds, h with
      | [_, _, _], _ => rfl)
    (ChangeSpec.witness_shaped (enc := enc) (C := Tryd.checked) (os := os) (X := fun w _ => laidMetH Tryd.prog Rows.pathsOrderRow.laid w) false (World.laidAll Tryd.prog os Rows.pathsOrderRow.laid) #[.string ⟨#[]⟩, .string ⟨#[]⟩, .string ⟨#[]⟩] 8 (World.laidAll_os _ _ _)
      (World.shaped_of_ZipB (by kernel_rfl) (by kernel_rfl)) (by kernel_rfl) (by kernel_rfl) (by kernel_rfl)
      (by rw [MakeChecks.laidMetH_plain _ _ _ (by kernel_rfl)]; exact laidMet_laidAll _ (by kernel_rfl) (by kernel_rfl))) ?_
  intro W base args ds ps hval hA hwt hsh _
  rw [show Tryd.f8.params.toList = [9, 9, 9] by kernel_rfl] at hA hwt
  have hval' : ∀ (j : Nat) t v, (#[9, 9, 9] : Array TypeId)[j]? = some t → args[j]? = some v → Value.okWide Tryd.prog W .any base t v := by
    rw [← Tryd.params8]; exact hval
  clear hval
  obtain ⟨v0, v1, v2, d0, d1, d2, p0, p1, p2, rfl, rfl, rfl, h0, h1, h2⟩ := trodAll_three hA
  obtain ⟨s0, rfl, rfl, _, _⟩ := open_string Tryd.underlying9 (hval' 0 9 v0 rfl rfl) h0
  have k0 : s0.size ≤ 140737488351232 := sized_string hwt (j := 0) rfl rfl
  obtain ⟨s1, rfl, rfl, _, _⟩ := open_string Tryd.underlying9 (hval' 1 9 v1 rfl rfl) h1
  have k1 : s1.size ≤ 140737488351232 := sized_string hwt (j := 1) rfl rfl
  obtain ⟨s2, rfl, rfl, _, _⟩ := open_string Tryd.underlying9 (hval' 2 9 v2 rfl rfl) h2
  have k2 : s2.size ≤ 140737488351232 := sized_string hwt (j := 2) rfl rfl
  exact walk s0 s1 s2 W k0 k1 k2 (max_of hsh)

theorem over : Rows.pathsOrderRow.holds Tryd.pinned (OpenSpec.ofChange Rows.pathsOrderSpec) :=
  OpenClaim.holds_of_wide 8 Tryd.f8 rfl rfl rfl rfl rfl rfl rfl ⟨rfl, rfl, rfl, rfl, rfl⟩ rfl rfl rfl rfl rfl (by kernel_rfl) Tryd.func8 (by kernel_rfl)
    (of_decide_eq_true (by kernel_rfl)) (by unfold Func.isWrapper; first | (rw [if_pos (by decide +kernel)]; kernel_rfl) | (rw [if_neg (by decide +kernel)]; exact ⟨rfl, rfl⟩))
    (fun os started H enc _ => lifted os started H enc)

/-- The statement. -/
theorem proved : Rows.PathsOrderCardSaid :=
  Claim7.holds_tied_plain_at .later [] Rows.pathsOrderCard.laidKinds true Rows.pathsOrderCard.stood.harness false
    over (fun _ h => by cases h) (by kernel_rfl) (fun _ h => by cases h) pathsOrder_row_tie rfl ⟨rfl, rfl⟩ (by kernel_rfl) rfl
    (fun f fn hf hfn => by
      obtain rfl : f = 8 := Option.some.inj ((show Tryd.prog.funcNamed Rows.pathsOrderRow.func = some 8 by kernel_rfl).symm.trans hf) |>.symm
      obtain rfl : fn = Tryd.f8 := (Option.some.inj (Tryd.func8.symm.trans hfn)).symm
      exact ⟨by kernel_rfl, fun j t ht => by
        rw [Tryd.params8] at ht
        have hm : t ∈ ([9, 9, 9] : List TypeId) := by simpa using Array.mem_of_getElem? ht
        have hall : (([9, 9, 9] : List TypeId).all fun u => !Tryd.prog.wantsStandIn u) = true := by kernel_rfl
        exact (show Tryd.prog.wantsStandIn t = false by simpa using List.all_eq_true.1 hall t hm)⟩)
    (by kernel_rfl)

end Go.Proofs.YtabilfjaiopemaaDoor.lawPathsOrder
