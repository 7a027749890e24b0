/- Sums and shrunk terms never fall as their numbers rise, Left takes off what Add put on, and Least is where Honest begins; for any three numbers. -/
import Derived.Deep.DeepCutAuto
import Derived.Test.YtjhiicnnonmcnaaRows
import Derived.Test.YtjhiicnnonmcnaaTermW8
import Derived.Test.YtjhiicnnonmcnaaTermW2
import Derived.Test.YtjhiicnnonmcnaaLawBare
import Derived.JoinedCond
import Derived.OpenShut
namespace Go.Proofs.Ytjhiicnnonmcnaa.lawTermRises
open Go Go.RowKit Go.ChangeShapes Go.WideShapes Go.ChangeAt
set_option linter.unusedVariables false
set_option linter.unusedSimpArgs false
theorem wrap64_in (x : Int) : -9223372036854775808 ≤ wrap64 x ∧ wrap64 x ≤ 9223372036854775807 := by
  unfold wrap64
  omega
theorem wrap64_id {x : Int} (h : -9223372036854775808 ≤ x ∧ x ≤ 9223372036854775807) : wrap64 x = x := by
  unfold wrap64
  omega
theorem shrinks_or {a b : Int} (ha : -9223372036854775808 ≤ a ∧ a ≤ 9223372036854775807) (hb : -9223372036854775808 ≤ b ∧ b ≤ 9223372036854775807) :
    TM.shrinkE a b = 2 ∨ (0 ≤ a ∧ 0 ≤ b) ∧ TM.shrinkE a b = 0 ∧ TM.shrinkE a (wrap64 (b - b.tmod 7)) = 0 ∧ TM.shrinkE (wrap64 (a - a.tmod 5)) b = 0 ∧ TM.shrink a b ≤ TM.shrink a (wrap64 (b - b.tmod 7)) ∧ TM.shrink (wrap64 (a - a.tmod 5)) b ≤ TM.shrink a b := by
  by_cases hf : TM.fits a b
  · right
    have h := hf
    obtain ⟨h1, h2, h3, h4⟩ := h
    have e1 : b.tmod 7 = b % 7 := Int.tmod_eq_emod_of_nonneg h3
    have e2 : a.tmod 5 = a % 5 := Int.tmod_eq_emod_of_nonneg h1
    rw [e1, e2, wrap64_id (by omega), wrap64_id (by omega)]
    have f1 : TM.fits a (b - b % 7) := ⟨h1, h2, by omega, by omega⟩
    have f2 : TM.fits (a - a % 5) b := ⟨by omega, by omega, h3, h4⟩
    exact ⟨⟨h1, h3⟩, if_pos hf, if_pos f1, if_pos f2, TM.shrink_mono_r hf (by omega) (by omega), TM.shrink_mono_t hf (by omega) (by omega)⟩
  · left
    exact if_neg hf
/-- Where the least is, and what holds below it and behind it. -/
theorem least_at (a b : Int) : 0 ≤ (TM.least a b : Int) ∧ (TM.least a b : Int) ≤ 1000 ∧ ((TM.least a b : Int) < 1000 → TM.honest a b (TM.least a b : Int) = true) ∧ (0 < (TM.least a b : Int) → TM.honest a b ((TM.least a b : Int) - 1) = false) ∧ ∀ c : Int, TM.honest a b c = true → (TM.least a b : Int) ≤ c ∧ TM.honest a b 999 = true := by
  have h0 := TM.least_le a b
  refine ⟨by omega, by omega, fun h => ?_, fun h => ?_, fun c h => ⟨TM.least_of h, decide_eq_true (TM.keeps_mono (of_decide_eq_true h) (TM.honest_range h).2 (by decide))⟩⟩
  · rcases TM.least_cases a b with ⟨h1, _⟩ | ⟨_, h2, _⟩
    · omega
    · exact h2
  · have key : ∀ i : Nat, i < TM.least a b → TM.honest a b (i : Int) = false := by
      intro i hi
      rcases TM.least_cases a b with ⟨h1, h2⟩ | ⟨_, _, h2⟩
      · exact h2 i (by omega)
      · exact h2 i hi
    have := key (TM.least a b - 1) (by omega)
    rwa [show ((TM.least a b - 1 : Nat) : Int) = (TM.least a b : Int) - 1 by omega] at this
set_option maxRecDepth 100000 in
set_option maxHeartbeats 4000000 in
theorem walk (a b c : Int) (w : World) (ha : -9223372036854775808 ≤ a ∧ a ≤ 9223372036854775807) (hb : -9223372036854775808 ≤ b ∧ b ≤ 9223372036854775807) (hc : -9223372036854775808 ≤ c ∧ c ≤ 9223372036854775807) :
    Calls Try.prog 9 #[.int .i64 a, .int .i64 b, .int .i64 c] w (LK.True_ w) := by
  have HA := Lib.hid (fun w' => Add_any a b w' ha hb)
  have HA2 := Lib.hid (fun w' => Add_any a c w' ha hc)
  have HB := Lib.hid (fun w' => Add_any b a w' hb ha)
  rw [TM.add_comm b a] at HB
  have HL := Lib.hid (fun w' => Left_any b a w' hb ha)
  have HL2 := Lib.hid (fun w' => Left_any c a w' hc ha)
  have HLA := Lib.hid (fun w' => Left_any (TM.add a b) a w' (by have := TM.add_range a b; omega) ha)
  have hA := TM.add_range a b
  have HM := Lib.hid (fun (h : b ≤ c) => TM.add_mono a h)
  have HML := Lib.hid (fun (h : b ≤ c) => TM.left_mono a h)
  have HS := Lib.hid (fun (h1 : 0 ≤ a) (h2 : 0 ≤ b) (h3 : a ≤ 1152921504606846976) (h4 : b ≤ 1152921504606846976) => And.intro (TM.add_small h1 h2 h3 h4) (TM.left_add h1 h2 h3 h4))
  generalize TM.left (TM.add a b) a = la at *
  generalize TM.add a b = p at *
  generalize TM.add a c = q at *
  generalize TM.left b a = l at *
  generalize TM.left c a = m at *
  have HU := Lib.hid (Up.refl w)
  go_enter Try.func9, Try.ntmps9
  go_wp2_with fail
  refine (awake_any _).mono ?_
  rintro x w1 ⟨rfl, hU⟩
  have HU := Lib.hid (HU.out.trans hU)
  clear hU
  go_upto_region 3 with (fail)
  go_cut [57] (fun s wx => s = .bool false ∧ w1 = wx)
  case first =>
    by_cases hbc : b ≤ c
    · have hm := HM.out hbc
      have hl := HML.out hbc
      go_wp2_with fail
      refine (HA.out _).mono ?_
      rintro x w9 ⟨rfl, rfl⟩
      go_wp2_with fail
      refine (HA2.out _).mono ?_
      rintro x w9 ⟨rfl, rfl⟩
      go_wp2_with fail
      refine (HL.out _).mono ?_
      rintro x w9 ⟨rfl, rfl⟩
      go_wp2_with fail
      refine (HL2.out _).mono ?_
      rintro x w9 ⟨rfl, rfl⟩
      go_wp2_with fail
      refine (HA.out _).mono ?_
      rintro x w9 ⟨rfl, rfl⟩
      go_wp2_with fail
      refine (HB.out _).mono ?_
      rintro x w9 ⟨rfl, rfl⟩
      go_wp2_with fail
      refine (HA.out _).mono ?_
      rintro x w9 ⟨rfl, rfl⟩
      go_wp2_with fail
      refine (HA.out _).mono ?_
      rintro x w9 ⟨rfl, rfl⟩
      go_wp2_with fail
      go_meet
      exact ⟨congrArg Value.bool (by simp; omega), rfl⟩
    · go_wp2_with fail
      refine (HA.out _).mono ?_
      rintro x w9 ⟨rfl, rfl⟩
      go_wp2_with fail
      refine (HB.out _).mono ?_
      rintro x w9 ⟨rfl, rfl⟩
      go_wp2_with fail
      refine (HA.out _).mono ?_
      rintro x w9 ⟨rfl, rfl⟩
      go_wp2_with fail
      refine (HA.out _).mono ?_
      rintro x w9 ⟨rfl, rfl⟩
      go_wp2_with fail
      go_meet
      exact ⟨congrArg Value.bool (by simp; omega), rfl⟩
  case rest =>
    obtain ⟨rfl, rfl⟩ := hcut
    go_upto_region 5 with (fail)
    go_cut [89] (fun s wx => s = .bool false ∧ w1 = wx)
    case first =>
      by_cases hin : 0 ≤ a ∧ 0 ≤ b ∧ a ≤ 1152921504606846976 ∧ b ≤ 1152921504606846976
      · obtain ⟨h1, h2, h3, h4⟩ := hin
        obtain ⟨e1, e2⟩ := HS.out h1 h2 h3 h4
        clear HS
        subst e1
        subst e2
        go_wp2_with fail
        refine (HA.out _).mono ?_
        rintro x w9 ⟨rfl, rfl⟩
        go_wp2_with fail
        refine (HLA.out _).mono ?_
        rintro x w9 ⟨rfl, rfl⟩
        go_wp2_with fail
        refine (HA.out _).mono ?_
        rintro x w9 ⟨rfl, rfl⟩
        go_wp2_with fail
        go_meet
        exact ⟨rfl, rfl⟩
      · have hor : a < 0 ∨ b < 0 ∨ 1152921504606846976 < a ∨ 1152921504606846976 < b := by omega
        clear hin
        rcases hor with h1 | h1 | h1 | h1
        all_goals
          go_wp2_with fail
          all_goals
            go_meet
            exact ⟨rfl, rfl⟩
    case rest =>
      obtain ⟨rfl, rfl⟩ := hcut
      clear HA HA2 HB HL HL2 HLA hA HM HML HS
      have HX := Lib.hid (fun w' => Shrink_any a b w' ha hb)
      have HY := Lib.hid (fun w' => Shrink_any a (wrap64 (b - b.tmod 7)) w' ha (wrap64_in _))
      have HZ := Lib.hid (fun w' => Shrink_any (wrap64 (a - a.tmod 5)) b w' (wrap64_in _) hb)
      have hor : TM.shrinkE a b = 2 ∨ (0 ≤ a ∧ 0 ≤ b) ∧ TM.shrinkE a b = 0 ∧ TM.shrinkE a (wrap64 (b - b.tmod 7)) = 0 ∧ TM.shrinkE (wrap64 (a - a.tmod 5)) b = 0 ∧ TM.shrink a b ≤ TM.shrink a (wrap64 (b - b.tmod 7)) ∧ TM.shrink (wrap64 (a - a.tmod 5)) b ≤ TM.shrink a b := shrinks_or ha hb
      have HLE := Lib.hid (fun w' => Least_any a b w' ha hb)
      have HAT := Lib.hid (least_at a b)
      have HC := Lib.hid (fun w' => Honest_any a b c w' ha hb hc)
      have H9 := Lib.hid (fun w' => Honest_any a b 999 w' ha hb (by decide))
      generalize TM.shrink a b = x at *
      generalize TM.shrinkE a b = e at *
      generalize TM.shrink a (wrap64 (b - b.tmod 7)) = y at *
      generalize TM.shrinkE a (wrap64 (b - b.tmod 7)) = f at *
      generalize TM.shrink (wrap64 (a - a.tmod 5)) b = z at *
      generalize TM.shrinkE (wrap64 (a - a.tmod 5)) b = g at *
      have HO := Lib.hid hor; clear hor
      go_wp2_with fail
      refine (HX.out _).mono ?_
      rintro x w9 ⟨rfl, rfl⟩
      go_wp2_with fail
      refine (HY.out _).mono ?_
      rintro x w9 ⟨rfl, rfl⟩
      go_wp2_with fail
      refine (HZ.out _).mono ?_
      rintro x w9 ⟨rfl, rfl⟩
      go_upto_region 10 with (fail)
      go_cut [141] (fun s wx => s = .bool false ∧ w1 = wx)
      case first =>
        rcases HO.out with h | ⟨⟨h1, h2⟩, h3, h4, h5, h6, h7⟩
        · subst h
          go_wp2_with fail
          all_goals
            go_meet
            exact ⟨rfl, rfl⟩
        · subst h3
          subst h4
          subst h5
          go_wp2_with fail
          all_goals
            go_meet
            exact ⟨congrArg Value.bool (by first | rfl | (simp; done) | (simp; omega)), rfl⟩
      case rest =>
        obtain ⟨rfl, rfl⟩ := hcut
        clear HX HY HZ HO
        have HN := Lib.hid (fun w' => Honest_any a b (TM.least a b : Int) w' ha hb (by have := HAT.out.1; have := HAT.out.2.1; omega))
        have HM := Lib.hid (fun w' => Honest_any a b ((TM.least a b : Int) - 1) w' ha hb (by have := HAT.out.1; have := HAT.out.2.1; omega))
        have HR := Lib.hid (TM.honest_range (d := a) (a := b) (r := c))
        generalize (TM.least a b : Int) = n at *
        obtain ⟨n0, n1, hn, hm, hcc⟩ := HAT.out
        have HCC := Lib.hid (hcc c); clear hcc
        have HH := Lib.hid hn; clear hn
        have HK := Lib.hid hm; clear hm
        cases hp : TM.honest a b c with
        | false =>
          rw [hp] at HC
          clear hp
          by_cases hk : n = 1000
          · subst hk
            have HM9 := HM.out
            rw [HK.out (by decide)] at HM9
            have HM := Lib.hid (fun w' => HM9 w'); clear HM9
            go_wp2_with fail
            refine (HLE.out _).mono ?_
            rintro z9 w9 ⟨rfl, hU⟩
            have HU := Lib.hid (HU.out.trans hU)
            clear hU
            go_wp2_with fail
            refine (HM.out _).mono ?_
            rintro z9 w9 ⟨rfl, hU⟩
            have HU := Lib.hid (HU.out.trans hU)
            clear hU
            go_wp2_with fail
            refine (HC.out _).mono ?_
            rintro z9 w9 ⟨rfl, hU⟩
            have HU := Lib.hid (HU.out.trans hU)
            clear hU
            go_wp2_with fail
            go_ret
            exact ⟨rfl, HU.out.below (Nat.le_refl _)⟩
          · have HN9 := HN.out
            rw [HH.out (by omega)] at HN9
            have HN := Lib.hid (fun w' => HN9 w'); clear HN9
            by_cases hz : n = 0
            · subst hz
              go_wp2_with fail
              refine (HLE.out _).mono ?_
              rintro z9 w9 ⟨rfl, hU⟩
              have HU := Lib.hid (HU.out.trans hU)
              clear hU
              go_wp2_with fail
              refine (HN.out _).mono ?_
              rintro z9 w9 ⟨rfl, hU⟩
              have HU := Lib.hid (HU.out.trans hU)
              clear hU
              go_wp2_with fail
              refine (HC.out _).mono ?_
              rintro z9 w9 ⟨rfl, hU⟩
              have HU := Lib.hid (HU.out.trans hU)
              clear hU
              go_wp2_with fail
              go_ret
              exact ⟨rfl, HU.out.below (Nat.le_refl _)⟩
            · have HM9 := HM.out
              rw [HK.out (by omega)] at HM9
              have HM := Lib.hid (fun w' => HM9 w'); clear HM9
              have hk1 : (n == 1000) = false := by simpa using hk
              have hz1 : (n == 0) = false := by simpa using hz
              go_wp2_with fail
              refine (HLE.out _).mono ?_
              rintro z9 w9 ⟨rfl, hU⟩
              have HU := Lib.hid (HU.out.trans hU)
              clear hU
              go_wp2_with fail
              refine (HN.out _).mono ?_
              rintro z9 w9 ⟨rfl, hU⟩
              have HU := Lib.hid (HU.out.trans hU)
              clear hU
              go_wp2_with fail
              refine (HM.out _).mono ?_
              rintro z9 w9 ⟨rfl, hU⟩
              have HU := Lib.hid (HU.out.trans hU)
              clear hU
              go_wp2_with fail
              refine (HC.out _).mono ?_
              rintro z9 w9 ⟨rfl, hU⟩
              have HU := Lib.hid (HU.out.trans hU)
              clear hU
              go_wp2_with fail
              go_ret
              exact ⟨rfl, HU.out.below (Nat.le_refl _)⟩
        | true =>
          obtain ⟨hnc, h9⟩ := HCC.out hp
          have hc9 := (HR.out hp).2
          rw [hp] at HC
          rw [h9] at H9
          clear hp h9
          have HN9 := HN.out
          rw [HH.out (by omega)] at HN9
          have HN := Lib.hid (fun w' => HN9 w'); clear HN9
          have hk : ¬ n = 1000 := by omega
          have hk1 : (n == 1000) = false := by simpa using hk
          by_cases hz : n = 0
          · subst hz
            go_wp2_with fail
            refine (HLE.out _).mono ?_
            rintro z9 w9 ⟨rfl, hU⟩
            have HU := Lib.hid (HU.out.trans hU)
            clear hU
            go_wp2_with fail
            refine (HN.out _).mono ?_
            rintro z9 w9 ⟨rfl, hU⟩
            have HU := Lib.hid (HU.out.trans hU)
            clear hU
            go_wp2_with fail
            refine (HC.out _).mono ?_
            rintro z9 w9 ⟨rfl, hU⟩
            have HU := Lib.hid (HU.out.trans hU)
            clear hU
            go_wp2_with fail
            refine (H9.out _).mono ?_
            rintro z9 w9 ⟨rfl, hU⟩
            have HU := Lib.hid (HU.out.trans hU)
            clear hU
            go_wp2_with fail
            go_ret
            exact ⟨rfl, HU.out.below (Nat.le_refl _)⟩
          · have HM9 := HM.out
            rw [HK.out (by omega)] at HM9
            have HM := Lib.hid (fun w' => HM9 w'); clear HM9
            have hz1 : (n == 0) = false := by simpa using hz
            go_wp2_with fail
            refine (HLE.out _).mono ?_
            rintro z9 w9 ⟨rfl, hU⟩
            have HU := Lib.hid (HU.out.trans hU)
            clear hU
            go_wp2_with fail
            refine (HN.out _).mono ?_
            rintro z9 w9 ⟨rfl, hU⟩
            have HU := Lib.hid (HU.out.trans hU)
            clear hU
            go_wp2_with fail
            refine (HM.out _).mono ?_
            rintro z9 w9 ⟨rfl, hU⟩
            have HU := Lib.hid (HU.out.trans hU)
            clear hU
            go_wp2_with fail
            refine (HC.out _).mono ?_
            rintro z9 w9 ⟨rfl, hU⟩
            have HU := Lib.hid (HU.out.trans hU)
            clear hU
            go_wp2_with fail
            refine (H9.out _).mono ?_
            rintro z9 w9 ⟨rfl, hU⟩
            have HU := Lib.hid (HU.out.trans hU)
            clear hU
            go_wp2_with fail
            go_ret
            exact ⟨rfl, HU.out.below (Nat.le_refl _)⟩


theorem own : ownKnob Try.prog.godebug = none := by kernel_rfl
theorem laidOut : laidOutB Try.prog = true := by kernel_rfl
set_option maxRecDepth 100000 in
theorem lifted (os : Os) (started : os.Started) (H : Type) (enc : TypeId × Value → H) :
    ReturnsInHanded {} Try.checked os 9 .any (Rows.termRisesSpec.pre6 enc Try.prog Try.f9 [] false) (Rows.termRisesSpec.post enc Try.prog Try.f9 false true false false) := by
  refine LK.lifted_bare (C := Try.checked) (tb := 4) own started (by kernel_rfl) Try.func9 laidOut rfl (by kernel_rfl) (by kernel_rfl) Try.underlying4
    (fun ds h => by
      match ds, h with
      | [_, _, _], _ => rfl)
    (ChangeSpec.witness6 (enc := enc) (C := Try.checked) false ⟨#[], #[.int .i64 0, .int .i64 0, .int .i64 0], []⟩ 8 (by kernel_rfl) (by kernel_rfl) (by kernel_rfl) (by kernel_rfl)) ?_
  intro W base args ds ps hval hA hwt _
  rw [show Try.f9.params.toList = [3, 3, 3] by kernel_rfl] at hA hwt
  have hval' : ∀ (j : Nat) t v, (#[3, 3, 3] : Array TypeId)[j]? = some t → args[j]? = some v → Value.okWide Try.prog W .any base t v := by
    rw [← Try.params9]; exact hval
  clear hval
  obtain ⟨v0, v1, v2, d0, d1, d2, p0, p1, p2, rfl, rfl, rfl, h0, h1, h2⟩ := trodAll_three hA
  obtain ⟨n0, rfl, rfl, rfl, hn0⟩ := open_int Try.underlying3 (hval' 0 3 v0 rfl rfl) h0
  have hr0 : -9223372036854775808 ≤ n0 ∧ n0 ≤ 9223372036854775807 := by simpa [Lit.wf, IntKind.min, IntKind.max, IntKind.signed, IntKind.bits] using hn0
  obtain ⟨n1, rfl, rfl, rfl, hn1⟩ := open_int Try.underlying3 (hval' 1 3 v1 rfl rfl) h1
  have hr1 : -9223372036854775808 ≤ n1 ∧ n1 ≤ 9223372036854775807 := by simpa [Lit.wf, IntKind.min, IntKind.max, IntKind.signed, IntKind.bits] using hn1
  obtain ⟨n2, rfl, rfl, rfl, hn2⟩ := open_int Try.underlying3 (hval' 2 3 v2 rfl rfl) h2
  have hr2 : -9223372036854775808 ≤ n2 ∧ n2 ≤ 9223372036854775807 := by simpa [Lit.wf, IntKind.min, IntKind.max, IntKind.signed, IntKind.bits] using hn2
  exact walk n0 n1 n2 W hr0 hr1 hr2

/-- The statement. -/
theorem proved : Rows.TermRisesSaid :=
  OpenClaim.holds_of_wide 9 Try.f9 rfl rfl rfl rfl rfl rfl rfl ⟨rfl, rfl, rfl, rfl, rfl⟩ rfl rfl rfl rfl rfl (by kernel_rfl) Try.func9 (by kernel_rfl)
    (of_decide_eq_true (by kernel_rfl)) (by unfold Func.isWrapper; first | (rw [if_pos (by decide +kernel)]; kernel_rfl) | (rw [if_neg (by decide +kernel)]; exact ⟨rfl, rfl⟩))
    (fun os started H enc _ => lifted os started H enc)

end Go.Proofs.Ytjhiicnnonmcnaa.lawTermRises
