/- Stamps are in one total order, in which all that is under a stamp lies between it and everything later that is not; for any three lists. -/
import Derived.Deep.DeepCutAuto
import Derived.Test.YthhkgdknmehaoaaDoorRows
import Derived.Test.YthhkgdknmehaoaaDoorStampsW9
import Derived.Test.YthhkgdknmehaoaaDoorStampsMath2
import Derived.Test.YthhkgdknmehaoaaDoorLawLaid
import Derived.Test.YthhkgdknmehaoaaDoorBulk
import Derived.Test.YthhkgdknmehaoaaDoorCards
import Derived.Test.YthhkgdknmehaoaaDoorTie
import Derived.SevenTiedAt
import Derived.JoinedCond
import Derived.OpenShut
import Derived.ChangeMaps5
namespace Go.Proofs.YthhkgdknmehaoaaDoor.lawStampsOrder
open Go Go.RowKit Go.ChangeShapes Go.WideShapes Go.ChangeAt
open Go.ChangeMaps (open_string)
set_option linter.unusedVariables false
set_option linter.unusedSimpArgs false
set_option maxRecDepth 100000
theorem cmp_at {w : World} {A B : Option Addr} {n c m d : Nat} {a b : List Int} {r : Int} (e : SM.cmp a b = r) (h : Lst w A n c a) (k : Lst w B m d b) : Calls Tryd.prog 17 #[.slice A n c, .slice B m d] w fun e w' => e = .returned (.int .i64 r) ∧ Below w.heap.size w w' := by
  have h := Compare_in h k
  rw [e] at h
  exact h
theorem under_at {w : World} {A B : Option Addr} {n c m d : Nat} {a b : List Int} {r : Bool} (e : SM.under a b = r) (h : Lst w A n c a) (k : Lst w B m d b) : Calls Tryd.prog 19 #[.slice A n c, .slice B m d] w fun e w' => e = .returned (.bool r) ∧ Below w.heap.size w w' := by
  have h := Under_in h k
  rw [e] at h
  exact h
theorem same_at {w : World} {A B : Option Addr} {n c m d : Nat} {a b : List Int} {r : Bool} (e : decide (a = b) = r) (h : Lst w A n c a) (k : Lst w B m d b) : Calls Tryd.prog 21 #[.slice A n c, .slice B m d] w fun e w' => e = .returned (.bool r) ∧ Below w.heap.size w w' := by
  have h := same_in h k
  rw [e] at h
  exact h
theorem later_at {w : World} {A B : Option Addr} {n c m d : Nat} {a b l : List Int} (e : SM.later a b = l) (h : Lst w A n c a) (k : Lst w B m d b) : Calls Tryd.prog 22 #[.slice A n c, .slice B m d] w (NewList w l) := by
  have h := Later_in h k
  rw [e] at h
  exact h
theorem same_cmp {a b : List Int} {r : Int} (e : SM.cmp a b = r) : decide (a = b) = (r == 0) := by
  rw [Bool.eq_iff_iff, decide_eq_true_iff, beq_iff_eq, ← e, SM.cmp_zero_iff]
set_option maxRecDepth 100000 in
set_option maxHeartbeats 4000000 in
theorem walk (Aa : Option Addr) (na ca : Nat) (a : List Int) (Ab : Option Addr) (nb cb : Nat) (b : List Int) (Ac : Option Addr) (nc cc : Nat) (c : List Int) (w : World) (Ha : Lst w Aa na ca a) (Hb : Lst w Ab nb cb b) (Hc : Lst w Ac nc cc c) (hT : Tabs w) :
    Calls Tryd.prog 8 #[.slice Aa na ca, .slice Ab nb cb, .slice Ac nc cc] w (LK.True_ w) := by
  have HT := Lib.hid hT; clear hT
  have Ka := Lib.hid Ha
  have Kb := Lib.hid Hb
  have Kc := Lib.hid Hc
  clear Ha Hb Hc
  obtain ⟨ab, eab⟩ : ∃ r, SM.cmp a b = r := ⟨_, rfl⟩
  obtain ⟨bc, ebc⟩ : ∃ r, SM.cmp b c = r := ⟨_, rfl⟩
  obtain ⟨ac, eac⟩ : ∃ r, SM.cmp a c = r := ⟨_, rfl⟩
  obtain ⟨u1, eu1⟩ : ∃ r, SM.under a b = r := ⟨_, rfl⟩
  obtain ⟨u2, eu2⟩ : ∃ r, SM.under a c = r := ⟨_, rfl⟩
  obtain ⟨u3, eu3⟩ : ∃ r, SM.under b c = r := ⟨_, rfl⟩
  have eba : SM.cmp b a = -ab := by rw [SM.cmp_neg b a, eab]
  have hr := SM.cmp_range a b
  rw [eab] at hr
  have HTR := Lib.hid (show ab ≤ 0 → bc ≤ 0 → ac ≤ 0 from fun h k => by rw [← eac]; exact SM.cmp_trans (b := b) (by omega) (by omega))
  have HU1 := Lib.hid (show u1 = true → ab ≤ 0 from fun h => by rw [← eab]; exact SM.cmp_prefix (SM.under_iff.1 (eu1.trans h)))
  have HU2 := Lib.hid (show u1 = true → ac < 0 → u2 = false → bc < 0 from fun h k n => by
    rw [← ebc]
    exact SM.cmp_between (SM.under_iff.1 (eu1.trans h)) (by omega) (fun hp => by rw [SM.under_iff.2 hp] at eu2; rw [n] at eu2; cases eu2))
  have HU3 := Lib.hid (show u1 = true → u3 = true → u2 = true from fun h k => by rw [← eu2]; exact SM.under_iff.2 (List.IsPrefix.trans (SM.under_iff.1 (eu1.trans h)) (SM.under_iff.1 (eu3.trans k))))
  have HLT := Lib.hid (SM.later_cases a b)
  rw [eab] at HLT
  have Eab := Lib.hid eab; have Ebc := Lib.hid ebc; have Eac := Lib.hid eac; have Eba := Lib.hid eba; have Eu1 := Lib.hid eu1; have Eu2 := Lib.hid eu2; have Eu3 := Lib.hid eu3
  clear eab ebc eac eba eu1 eu2 eu3
  have hr2 : -1 ≤ ab ∧ ab ≤ 1 := by omega
  clear hr
  have HB := Lib.hid (Below.refl w.heap.size w)
  go_enter Tryd.func8, Tryd.ntmps8
  go_wp2_with fail
  refine (awake_any _ (HT.out.below HB.out)).mono ?_
  rintro x9 w1 ⟨rfl, hb⟩
  have HB := Lib.hid (below_on HB.out hb)
  clear hb
  go_wp2_with fail
  refine (own_in (Ka.out.below HB.out)).mono ?_
  rintro x9 w2 ⟨AP, nP, cP, rfl, hl, hb⟩
  have HB := Lib.hid (below_on HB.out hb)
  have HP := Lib.hid hl
  clear hl
  clear hb
  go_wp2_with fail
  refine (own_in (Kb.out.below HB.out)).mono ?_
  rintro x9 w3 ⟨AQ, nQ, cQ, rfl, hl, hb⟩
  have HP := Lib.hid (HP.out.below hb)
  have HB := Lib.hid (below_on HB.out hb)
  have HQ := Lib.hid hl
  clear hl
  clear hb
  go_wp2_with fail
  refine (cmp_at Eab.out HP.out HQ.out).mono ?_
  rintro x9 w4 ⟨rfl, hb⟩
  have HP := Lib.hid (HP.out.below hb)
  have HQ := Lib.hid (HQ.out.below hb)
  have HB := Lib.hid (below_on HB.out hb)
  clear hb
  go_wp2_with fail
  refine (own_in (Kb.out.below HB.out)).mono ?_
  rintro x9 w5 ⟨AP, nP, cP, rfl, hl, hb⟩
  have HB := Lib.hid (below_on HB.out hb)
  have HP := Lib.hid hl
  clear hl
  clear hb
  go_wp2_with fail
  refine (own_in (Kc.out.below HB.out)).mono ?_
  rintro x9 w6 ⟨AQ, nQ, cQ, rfl, hl, hb⟩
  have HP := Lib.hid (HP.out.below hb)
  have HB := Lib.hid (below_on HB.out hb)
  have HQ := Lib.hid hl
  clear hl
  clear hb
  go_wp2_with fail
  refine (cmp_at Ebc.out HP.out HQ.out).mono ?_
  rintro x9 w7 ⟨rfl, hb⟩
  have HP := Lib.hid (HP.out.below hb)
  have HQ := Lib.hid (HQ.out.below hb)
  have HB := Lib.hid (below_on HB.out hb)
  clear hb
  go_wp2_with fail
  refine (own_in (Ka.out.below HB.out)).mono ?_
  rintro x9 w8 ⟨AP, nP, cP, rfl, hl, hb⟩
  have HB := Lib.hid (below_on HB.out hb)
  have HP := Lib.hid hl
  clear hl
  clear hb
  go_wp2_with fail
  refine (own_in (Kc.out.below HB.out)).mono ?_
  rintro x9 w9 ⟨AQ, nQ, cQ, rfl, hl, hb⟩
  have HP := Lib.hid (HP.out.below hb)
  have HB := Lib.hid (below_on HB.out hb)
  have HQ := Lib.hid hl
  clear hl
  clear hb
  go_wp2_with fail
  refine (cmp_at Eac.out HP.out HQ.out).mono ?_
  rintro x9 w10 ⟨rfl, hb⟩
  have HP := Lib.hid (HP.out.below hb)
  have HQ := Lib.hid (HQ.out.below hb)
  have HB := Lib.hid (below_on HB.out hb)
  clear hb
  go_upto_region 4 with (fail)
  go_cut [63] (fun s wx => s = .bool false ∧ Below w.heap.size w wx)
  case first =>
    by_cases h1 : ab ≤ 0
    · by_cases h2 : bc ≤ 0
      · have h3 := HTR.out h1 h2
        go_wp2_with fail
        refine (own_in (Kb.out.below HB.out)).mono ?_
        rintro x9 w11 ⟨AP, nP, cP, rfl, hl, hb⟩
        have HB := Lib.hid (below_on HB.out hb)
        have HP := Lib.hid hl
        clear hl
        clear hb
        go_wp2_with fail
        refine (own_in (Ka.out.below HB.out)).mono ?_
        rintro x9 w12 ⟨AQ, nQ, cQ, rfl, hl, hb⟩
        have HP := Lib.hid (HP.out.below hb)
        have HB := Lib.hid (below_on HB.out hb)
        have HQ := Lib.hid hl
        clear hl
        clear hb
        go_wp2_with fail
        refine (cmp_at Eba.out HP.out HQ.out).mono ?_
        rintro x9 w13 ⟨rfl, hb⟩
        have HP := Lib.hid (HP.out.below hb)
        have HQ := Lib.hid (HQ.out.below hb)
        have HB := Lib.hid (below_on HB.out hb)
        clear hb
        go_wp2_with fail
        refine (same_at (same_cmp Eab.out) (Ka.out.below HB.out) (Kb.out.below HB.out)).mono ?_
        rintro x9 w14 ⟨rfl, hb⟩
        have HB := Lib.hid (below_on HB.out hb)
        clear hb
        go_wp2_with fail
        all_goals
          go_meet
          exact ⟨congrArg Value.bool (by first | rfl | (simp; done) | (simp; omega)), HB.out⟩
      · skip
        go_wp2_with fail
        refine (own_in (Kb.out.below HB.out)).mono ?_
        rintro x9 w11 ⟨AP, nP, cP, rfl, hl, hb⟩
        have HB := Lib.hid (below_on HB.out hb)
        have HP := Lib.hid hl
        clear hl
        clear hb
        go_wp2_with fail
        refine (own_in (Ka.out.below HB.out)).mono ?_
        rintro x9 w12 ⟨AQ, nQ, cQ, rfl, hl, hb⟩
        have HP := Lib.hid (HP.out.below hb)
        have HB := Lib.hid (below_on HB.out hb)
        have HQ := Lib.hid hl
        clear hl
        clear hb
        go_wp2_with fail
        refine (cmp_at Eba.out HP.out HQ.out).mono ?_
        rintro x9 w13 ⟨rfl, hb⟩
        have HP := Lib.hid (HP.out.below hb)
        have HQ := Lib.hid (HQ.out.below hb)
        have HB := Lib.hid (below_on HB.out hb)
        clear hb
        go_wp2_with fail
        refine (same_at (same_cmp Eab.out) (Ka.out.below HB.out) (Kb.out.below HB.out)).mono ?_
        rintro x9 w14 ⟨rfl, hb⟩
        have HB := Lib.hid (below_on HB.out hb)
        clear hb
        go_wp2_with fail
        all_goals
          go_meet
          exact ⟨congrArg Value.bool (by first | rfl | (simp; done) | (simp; omega)), HB.out⟩
    · skip
      go_wp2_with fail
      refine (own_in (Kb.out.below HB.out)).mono ?_
      rintro x9 w11 ⟨AP, nP, cP, rfl, hl, hb⟩
      have HB := Lib.hid (below_on HB.out hb)
      have HP := Lib.hid hl
      clear hl
      clear hb
      go_wp2_with fail
      refine (own_in (Ka.out.below HB.out)).mono ?_
      rintro x9 w12 ⟨AQ, nQ, cQ, rfl, hl, hb⟩
      have HP := Lib.hid (HP.out.below hb)
      have HB := Lib.hid (below_on HB.out hb)
      have HQ := Lib.hid hl
      clear hl
      clear hb
      go_wp2_with fail
      refine (cmp_at Eba.out HP.out HQ.out).mono ?_
      rintro x9 w13 ⟨rfl, hb⟩
      have HP := Lib.hid (HP.out.below hb)
      have HQ := Lib.hid (HQ.out.below hb)
      have HB := Lib.hid (below_on HB.out hb)
      clear hb
      go_wp2_with fail
      refine (same_at (same_cmp Eab.out) (Ka.out.below HB.out) (Kb.out.below HB.out)).mono ?_
      rintro x9 w14 ⟨rfl, hb⟩
      have HB := Lib.hid (below_on HB.out hb)
      clear hb
      go_wp2_with fail
      all_goals
        go_meet
        exact ⟨congrArg Value.bool (by first | rfl | (simp; done) | (simp; omega)), HB.out⟩
  case rest =>
    obtain ⟨rfl, hb⟩ := hcut
    have HB := Lib.hid hb; clear hb
    go_upto_region 6 with (fail)
    go_cut [88] (fun s wx => s = .bool false ∧ Below w.heap.size w wx)
    case first =>
      cases u1 with
      | false =>
        go_wp2_with fail
        refine (own_in (Ka.out.below HB.out)).mono ?_
        rintro x9 w51 ⟨AP, nP, cP, rfl, hl, hb⟩
        have HB := Lib.hid (below_on HB.out hb)
        have HP := Lib.hid hl
        clear hl
        clear hb
        go_wp2_with fail
        refine (own_in (Kb.out.below HB.out)).mono ?_
        rintro x9 w52 ⟨AQ, nQ, cQ, rfl, hl, hb⟩
        have HP := Lib.hid (HP.out.below hb)
        have HB := Lib.hid (below_on HB.out hb)
        have HQ := Lib.hid hl
        clear hl
        clear hb
        go_wp2_with fail
        refine (under_at Eu1.out HP.out HQ.out).mono ?_
        rintro x9 w53 ⟨rfl, hb⟩
        have HP := Lib.hid (HP.out.below hb)
        have HQ := Lib.hid (HQ.out.below hb)
        have HB := Lib.hid (below_on HB.out hb)
        clear hb
        go_wp2_with fail
        go_meet
        exact ⟨congrArg Value.bool (by first | rfl | (simp; done) | (simp; omega)), HB.out⟩
      | true =>
        have h1 := HU1.out rfl
        by_cases h2 : ac < 0
        · cases u2 with
          | false =>
            have h3 := HU2.out rfl h2 rfl
            go_wp2_with fail
            refine (own_in (Ka.out.below HB.out)).mono ?_
            rintro x9 w51 ⟨AP, nP, cP, rfl, hl, hb⟩
            have HB := Lib.hid (below_on HB.out hb)
            have HP := Lib.hid hl
            clear hl
            clear hb
            go_wp2_with fail
            refine (own_in (Kb.out.below HB.out)).mono ?_
            rintro x9 w52 ⟨AQ, nQ, cQ, rfl, hl, hb⟩
            have HP := Lib.hid (HP.out.below hb)
            have HB := Lib.hid (below_on HB.out hb)
            have HQ := Lib.hid hl
            clear hl
            clear hb
            go_wp2_with fail
            refine (under_at Eu1.out HP.out HQ.out).mono ?_
            rintro x9 w53 ⟨rfl, hb⟩
            have HP := Lib.hid (HP.out.below hb)
            have HQ := Lib.hid (HQ.out.below hb)
            have HB := Lib.hid (below_on HB.out hb)
            clear hb
            go_wp2_with fail
            refine (own_in (Ka.out.below HB.out)).mono ?_
            rintro x9 w54 ⟨AP, nP, cP, rfl, hl, hb⟩
            have HB := Lib.hid (below_on HB.out hb)
            have HP := Lib.hid hl
            clear hl
            clear hb
            go_wp2_with fail
            refine (own_in (Kc.out.below HB.out)).mono ?_
            rintro x9 w55 ⟨AQ, nQ, cQ, rfl, hl, hb⟩
            have HP := Lib.hid (HP.out.below hb)
            have HB := Lib.hid (below_on HB.out hb)
            have HQ := Lib.hid hl
            clear hl
            clear hb
            go_wp2_with fail
            refine (under_at Eu2.out HP.out HQ.out).mono ?_
            rintro x9 w56 ⟨rfl, hb⟩
            have HP := Lib.hid (HP.out.below hb)
            have HQ := Lib.hid (HQ.out.below hb)
            have HB := Lib.hid (below_on HB.out hb)
            clear hb
            go_wp2_with fail
            all_goals
              go_meet
              exact ⟨congrArg Value.bool (by first | rfl | (simp; done) | (simp; omega)), HB.out⟩
          | true =>
            go_wp2_with fail
            refine (own_in (Ka.out.below HB.out)).mono ?_
            rintro x9 w51 ⟨AP, nP, cP, rfl, hl, hb⟩
            have HB := Lib.hid (below_on HB.out hb)
            have HP := Lib.hid hl
            clear hl
            clear hb
            go_wp2_with fail
            refine (own_in (Kb.out.below HB.out)).mono ?_
            rintro x9 w52 ⟨AQ, nQ, cQ, rfl, hl, hb⟩
            have HP := Lib.hid (HP.out.below hb)
            have HB := Lib.hid (below_on HB.out hb)
            have HQ := Lib.hid hl
            clear hl
            clear hb
            go_wp2_with fail
            refine (under_at Eu1.out HP.out HQ.out).mono ?_
            rintro x9 w53 ⟨rfl, hb⟩
            have HP := Lib.hid (HP.out.below hb)
            have HQ := Lib.hid (HQ.out.below hb)
            have HB := Lib.hid (below_on HB.out hb)
            clear hb
            go_wp2_with fail
            refine (own_in (Ka.out.below HB.out)).mono ?_
            rintro x9 w54 ⟨AP, nP, cP, rfl, hl, hb⟩
            have HB := Lib.hid (below_on HB.out hb)
            have HP := Lib.hid hl
            clear hl
            clear hb
            go_wp2_with fail
            refine (own_in (Kc.out.below HB.out)).mono ?_
            rintro x9 w55 ⟨AQ, nQ, cQ, rfl, hl, hb⟩
            have HP := Lib.hid (HP.out.below hb)
            have HB := Lib.hid (below_on HB.out hb)
            have HQ := Lib.hid hl
            clear hl
            clear hb
            go_wp2_with fail
            refine (under_at Eu2.out HP.out HQ.out).mono ?_
            rintro x9 w56 ⟨rfl, hb⟩
            have HP := Lib.hid (HP.out.below hb)
            have HQ := Lib.hid (HQ.out.below hb)
            have HB := Lib.hid (below_on HB.out hb)
            clear hb
            go_wp2_with fail
            all_goals
              go_meet
              exact ⟨congrArg Value.bool (by first | rfl | (simp; done) | (simp; omega)), HB.out⟩
        · skip
          go_wp2_with fail
          refine (own_in (Ka.out.below HB.out)).mono ?_
          rintro x9 w51 ⟨AP, nP, cP, rfl, hl, hb⟩
          have HB := Lib.hid (below_on HB.out hb)
          have HP := Lib.hid hl
          clear hl
          clear hb
          go_wp2_with fail
          refine (own_in (Kb.out.below HB.out)).mono ?_
          rintro x9 w52 ⟨AQ, nQ, cQ, rfl, hl, hb⟩
          have HP := Lib.hid (HP.out.below hb)
          have HB := Lib.hid (below_on HB.out hb)
          have HQ := Lib.hid hl
          clear hl
          clear hb
          go_wp2_with fail
          refine (under_at Eu1.out HP.out HQ.out).mono ?_
          rintro x9 w53 ⟨rfl, hb⟩
          have HP := Lib.hid (HP.out.below hb)
          have HQ := Lib.hid (HQ.out.below hb)
          have HB := Lib.hid (below_on HB.out hb)
          clear hb
          go_wp2_with fail
          all_goals
            go_meet
            exact ⟨congrArg Value.bool (by first | rfl | (simp; done) | (simp; omega)), HB.out⟩
    case rest =>
      obtain ⟨rfl, hb⟩ := hcut
      have HB := Lib.hid hb; clear hb
      go_upto_region 8 with (fail)
      go_cut [108] (fun s wx => s = .bool false ∧ Below w.heap.size w wx)
      case first =>
        cases u1 with
        | false =>
          go_wp2_with fail
          refine (own_in (Ka.out.below HB.out)).mono ?_
          rintro x9 w51 ⟨AP, nP, cP, rfl, hl, hb⟩
          have HB := Lib.hid (below_on HB.out hb)
          have HP := Lib.hid hl
          clear hl
          clear hb
          go_wp2_with fail
          refine (own_in (Kb.out.below HB.out)).mono ?_
          rintro x9 w52 ⟨AQ, nQ, cQ, rfl, hl, hb⟩
          have HP := Lib.hid (HP.out.below hb)
          have HB := Lib.hid (below_on HB.out hb)
          have HQ := Lib.hid hl
          clear hl
          clear hb
          go_wp2_with fail
          refine (under_at Eu1.out HP.out HQ.out).mono ?_
          rintro x9 w53 ⟨rfl, hb⟩
          have HP := Lib.hid (HP.out.below hb)
          have HQ := Lib.hid (HQ.out.below hb)
          have HB := Lib.hid (below_on HB.out hb)
          clear hb
          go_wp2_with fail
          go_meet
          exact ⟨congrArg Value.bool (by first | rfl | (simp; done) | (simp; omega)), HB.out⟩
        | true =>
          cases u3 with
          | false =>
            go_wp2_with fail
            refine (own_in (Ka.out.below HB.out)).mono ?_
            rintro x9 w51 ⟨AP, nP, cP, rfl, hl, hb⟩
            have HB := Lib.hid (below_on HB.out hb)
            have HP := Lib.hid hl
            clear hl
            clear hb
            go_wp2_with fail
            refine (own_in (Kb.out.below HB.out)).mono ?_
            rintro x9 w52 ⟨AQ, nQ, cQ, rfl, hl, hb⟩
            have HP := Lib.hid (HP.out.below hb)
            have HB := Lib.hid (below_on HB.out hb)
            have HQ := Lib.hid hl
            clear hl
            clear hb
            go_wp2_with fail
            refine (under_at Eu1.out HP.out HQ.out).mono ?_
            rintro x9 w53 ⟨rfl, hb⟩
            have HP := Lib.hid (HP.out.below hb)
            have HQ := Lib.hid (HQ.out.below hb)
            have HB := Lib.hid (below_on HB.out hb)
            clear hb
            go_wp2_with fail
            refine (own_in (Kb.out.below HB.out)).mono ?_
            rintro x9 w54 ⟨AP, nP, cP, rfl, hl, hb⟩
            have HB := Lib.hid (below_on HB.out hb)
            have HP := Lib.hid hl
            clear hl
            clear hb
            go_wp2_with fail
            refine (own_in (Kc.out.below HB.out)).mono ?_
            rintro x9 w55 ⟨AQ, nQ, cQ, rfl, hl, hb⟩
            have HP := Lib.hid (HP.out.below hb)
            have HB := Lib.hid (below_on HB.out hb)
            have HQ := Lib.hid hl
            clear hl
            clear hb
            go_wp2_with fail
            refine (under_at Eu3.out HP.out HQ.out).mono ?_
            rintro x9 w56 ⟨rfl, hb⟩
            have HP := Lib.hid (HP.out.below hb)
            have HQ := Lib.hid (HQ.out.below hb)
            have HB := Lib.hid (below_on HB.out hb)
            clear hb
            go_wp2_with fail
            go_meet
            exact ⟨congrArg Value.bool (by first | rfl | (simp; done) | (simp; omega)), HB.out⟩
          | true =>
            have h3 := HU3.out rfl rfl
            subst h3
            go_wp2_with fail
            refine (own_in (Ka.out.below HB.out)).mono ?_
            rintro x9 w51 ⟨AP, nP, cP, rfl, hl, hb⟩
            have HB := Lib.hid (below_on HB.out hb)
            have HP := Lib.hid hl
            clear hl
            clear hb
            go_wp2_with fail
            refine (own_in (Kb.out.below HB.out)).mono ?_
            rintro x9 w52 ⟨AQ, nQ, cQ, rfl, hl, hb⟩
            have HP := Lib.hid (HP.out.below hb)
            have HB := Lib.hid (below_on HB.out hb)
            have HQ := Lib.hid hl
            clear hl
            clear hb
            go_wp2_with fail
            refine (under_at Eu1.out HP.out HQ.out).mono ?_
            rintro x9 w53 ⟨rfl, hb⟩
            have HP := Lib.hid (HP.out.below hb)
            have HQ := Lib.hid (HQ.out.below hb)
            have HB := Lib.hid (below_on HB.out hb)
            clear hb
            go_wp2_with fail
            refine (own_in (Kb.out.below HB.out)).mono ?_
            rintro x9 w54 ⟨AP, nP, cP, rfl, hl, hb⟩
            have HB := Lib.hid (below_on HB.out hb)
            have HP := Lib.hid hl
            clear hl
            clear hb
            go_wp2_with fail
            refine (own_in (Kc.out.below HB.out)).mono ?_
            rintro x9 w55 ⟨AQ, nQ, cQ, rfl, hl, hb⟩
            have HP := Lib.hid (HP.out.below hb)
            have HB := Lib.hid (below_on HB.out hb)
            have HQ := Lib.hid hl
            clear hl
            clear hb
            go_wp2_with fail
            refine (under_at Eu3.out HP.out HQ.out).mono ?_
            rintro x9 w56 ⟨rfl, hb⟩
            have HP := Lib.hid (HP.out.below hb)
            have HQ := Lib.hid (HQ.out.below hb)
            have HB := Lib.hid (below_on HB.out hb)
            clear hb
            go_wp2_with fail
            refine (own_in (Ka.out.below HB.out)).mono ?_
            rintro x9 w57 ⟨AP, nP, cP, rfl, hl, hb⟩
            have HB := Lib.hid (below_on HB.out hb)
            have HP := Lib.hid hl
            clear hl
            clear hb
            go_wp2_with fail
            refine (own_in (Kc.out.below HB.out)).mono ?_
            rintro x9 w58 ⟨AQ, nQ, cQ, rfl, hl, hb⟩
            have HP := Lib.hid (HP.out.below hb)
            have HB := Lib.hid (below_on HB.out hb)
            have HQ := Lib.hid hl
            clear hl
            clear hb
            go_wp2_with fail
            refine (under_at Eu2.out HP.out HQ.out).mono ?_
            rintro x9 w59 ⟨rfl, hb⟩
            have HP := Lib.hid (HP.out.below hb)
            have HQ := Lib.hid (HQ.out.below hb)
            have HB := Lib.hid (below_on HB.out hb)
            clear hb
            go_wp2_with fail
            go_meet
            exact ⟨congrArg Value.bool (by first | rfl | (simp; done) | (simp; omega)), HB.out⟩
      case rest =>
        obtain ⟨rfl, hb⟩ := hcut
        have HB := Lib.hid hb; clear hb
        rcases HLT.out with ⟨el, hl0⟩ | ⟨el, hl0⟩
        · have EL := Lib.hid el
          clear el
          go_wp2_with fail
          refine (own_in (Ka.out.below HB.out)).mono ?_
          rintro x9 w51 ⟨AP, nP, cP, rfl, hl, hb⟩
          have HB := Lib.hid (below_on HB.out hb)
          have HP := Lib.hid hl
          clear hl
          clear hb
          go_wp2_with fail
          refine (own_in (Kb.out.below HB.out)).mono ?_
          rintro x9 w52 ⟨AQ, nQ, cQ, rfl, hl, hb⟩
          have HP := Lib.hid (HP.out.below hb)
          have HB := Lib.hid (below_on HB.out hb)
          have HQ := Lib.hid hl
          clear hl
          clear hb
          go_wp2_with fail
          refine (later_at EL.out HP.out HQ.out).mono ?_
          rintro x9 w53 ⟨AY, nY, cY, rfl, hl, hb⟩
          have HP := Lib.hid (HP.out.below hb)
          have HQ := Lib.hid (HQ.out.below hb)
          have HB := Lib.hid (below_on HB.out hb)
          have HY := Lib.hid hl
          clear hl
          clear hb
          go_wp2_with fail
          refine (same_c HY.out (Ka.out.below HB.out)).mono ?_
          rintro x9 w54 ⟨rfl, hb⟩
          have HY := Lib.hid (HY.out.below hb)
          have HB := Lib.hid (below_on HB.out hb)
          clear hb
          go_wp2_with fail
          refine (own_in HY.out).mono ?_
          rintro x9 w55 ⟨AP, nP, cP, rfl, hl, hb⟩
          have HY := Lib.hid (HY.out.below hb)
          have HB := Lib.hid (below_on HB.out hb)
          have HP := Lib.hid hl
          clear hl
          clear hb
          go_wp2_with fail
          refine (own_in (Ka.out.below HB.out)).mono ?_
          rintro x9 w56 ⟨AQ, nQ, cQ, rfl, hl, hb⟩
          have HY := Lib.hid (HY.out.below hb)
          have HP := Lib.hid (HP.out.below hb)
          have HB := Lib.hid (below_on HB.out hb)
          have HQ := Lib.hid hl
          clear hl
          clear hb
          go_wp2_with fail
          refine (cmp_at (SM.cmp_self a) HP.out HQ.out).mono ?_
          rintro x9 w57 ⟨rfl, hb⟩
          have HY := Lib.hid (HY.out.below hb)
          have HP := Lib.hid (HP.out.below hb)
          have HQ := Lib.hid (HQ.out.below hb)
          have HB := Lib.hid (below_on HB.out hb)
          clear hb
          go_wp2_with fail
          refine (own_in HY.out).mono ?_
          rintro x9 w58 ⟨AP, nP, cP, rfl, hl, hb⟩
          have HY := Lib.hid (HY.out.below hb)
          have HB := Lib.hid (below_on HB.out hb)
          have HP := Lib.hid hl
          clear hl
          clear hb
          go_wp2_with fail
          refine (own_in (Kb.out.below HB.out)).mono ?_
          rintro x9 w59 ⟨AQ, nQ, cQ, rfl, hl, hb⟩
          have HY := Lib.hid (HY.out.below hb)
          have HP := Lib.hid (HP.out.below hb)
          have HB := Lib.hid (below_on HB.out hb)
          have HQ := Lib.hid hl
          clear hl
          clear hb
          go_wp2_with fail
          refine (cmp_at Eab.out HP.out HQ.out).mono ?_
          rintro x9 w60 ⟨rfl, hb⟩
          have HY := Lib.hid (HY.out.below hb)
          have HP := Lib.hid (HP.out.below hb)
          have HQ := Lib.hid (HQ.out.below hb)
          have HB := Lib.hid (below_on HB.out hb)
          clear hb
          go_wp2_with fail
          all_goals
            go_ret
            exact ⟨ret_bool (by first | rfl | (simp; done) | (simp; omega)), HB.out⟩
        · have EL := Lib.hid el
          have EN := Lib.hid (show decide (b = a) = false from decide_eq_false (fun e => by have h := Eab.out; rw [e, SM.cmp_self] at h; omega))
          clear el
          go_wp2_with fail
          refine (own_in (Ka.out.below HB.out)).mono ?_
          rintro x9 w51 ⟨AP, nP, cP, rfl, hl, hb⟩
          have HB := Lib.hid (below_on HB.out hb)
          have HP := Lib.hid hl
          clear hl
          clear hb
          go_wp2_with fail
          refine (own_in (Kb.out.below HB.out)).mono ?_
          rintro x9 w52 ⟨AQ, nQ, cQ, rfl, hl, hb⟩
          have HP := Lib.hid (HP.out.below hb)
          have HB := Lib.hid (below_on HB.out hb)
          have HQ := Lib.hid hl
          clear hl
          clear hb
          go_wp2_with fail
          refine (later_at EL.out HP.out HQ.out).mono ?_
          rintro x9 w53 ⟨AY, nY, cY, rfl, hl, hb⟩
          have HP := Lib.hid (HP.out.below hb)
          have HQ := Lib.hid (HQ.out.below hb)
          have HB := Lib.hid (below_on HB.out hb)
          have HY := Lib.hid hl
          clear hl
          clear hb
          go_wp2_with fail
          refine (same_at EN.out HY.out (Ka.out.below HB.out)).mono ?_
          rintro x9 w54 ⟨rfl, hb⟩
          have HY := Lib.hid (HY.out.below hb)
          have HB := Lib.hid (below_on HB.out hb)
          clear hb
          go_wp2_with fail
          refine (same_c HY.out (Kb.out.below HB.out)).mono ?_
          rintro x9 w55 ⟨rfl, hb⟩
          have HY := Lib.hid (HY.out.below hb)
          have HB := Lib.hid (below_on HB.out hb)
          clear hb
          go_wp2_with fail
          refine (own_in HY.out).mono ?_
          rintro x9 w56 ⟨AP, nP, cP, rfl, hl, hb⟩
          have HY := Lib.hid (HY.out.below hb)
          have HB := Lib.hid (below_on HB.out hb)
          have HP := Lib.hid hl
          clear hl
          clear hb
          go_wp2_with fail
          refine (own_in (Ka.out.below HB.out)).mono ?_
          rintro x9 w57 ⟨AQ, nQ, cQ, rfl, hl, hb⟩
          have HY := Lib.hid (HY.out.below hb)
          have HP := Lib.hid (HP.out.below hb)
          have HB := Lib.hid (below_on HB.out hb)
          have HQ := Lib.hid hl
          clear hl
          clear hb
          go_wp2_with fail
          refine (cmp_at Eba.out HP.out HQ.out).mono ?_
          rintro x9 w58 ⟨rfl, hb⟩
          have HY := Lib.hid (HY.out.below hb)
          have HP := Lib.hid (HP.out.below hb)
          have HQ := Lib.hid (HQ.out.below hb)
          have HB := Lib.hid (below_on HB.out hb)
          clear hb
          go_wp2_with fail
          refine (own_in HY.out).mono ?_
          rintro x9 w59 ⟨AP, nP, cP, rfl, hl, hb⟩
          have HY := Lib.hid (HY.out.below hb)
          have HB := Lib.hid (below_on HB.out hb)
          have HP := Lib.hid hl
          clear hl
          clear hb
          go_wp2_with fail
          refine (own_in (Kb.out.below HB.out)).mono ?_
          rintro x9 w60 ⟨AQ, nQ, cQ, rfl, hl, hb⟩
          have HY := Lib.hid (HY.out.below hb)
          have HP := Lib.hid (HP.out.below hb)
          have HB := Lib.hid (below_on HB.out hb)
          have HQ := Lib.hid hl
          clear hl
          clear hb
          go_wp2_with fail
          refine (cmp_at (SM.cmp_self b) HP.out HQ.out).mono ?_
          rintro x9 w61 ⟨rfl, hb⟩
          have HY := Lib.hid (HY.out.below hb)
          have HP := Lib.hid (HP.out.below hb)
          have HQ := Lib.hid (HQ.out.below hb)
          have HB := Lib.hid (below_on HB.out hb)
          clear hb
          go_wp2_with fail
          all_goals
            go_ret
            exact ⟨ret_bool (by first | rfl | (simp; done) | (simp; omega)), HB.out⟩

theorem own : ownKnob Tryd.prog.godebug = none := by kernel_rfl
theorem laidOut : laidOutB Tryd.prog = true := by kernel_rfl
theorem lifted (os : Os) (started : os.Started) (H : Type) (enc : TypeId × Value → H) (F : Stop.Interp) :
    ReturnsInHanded {} Tryd.checked os 8 .any ((OpenSpec.ofChange Rows.stampsOrderSpec).preRow enc Tryd.prog Tryd.f8 Rows.stampsOrderRow.domain false Rows.stampsOrderRow.laid) (((OpenSpec.ofChange Rows.stampsOrderSpec).at F).post enc Tryd.prog Tryd.f8 false true false false) := by
  refine LK.lifted_row (C := Tryd.checked) (s := (OpenSpec.ofChange Rows.stampsOrderSpec)) (F := F) (s0 := Rows.stampsOrderSpec) (tb := 4) (laid := Rows.stampsOrderRow.laid) rfl own started (by kernel_rfl) Tryd.func8 laidOut rfl rfl rfl rfl (by kernel_rfl) (by kernel_rfl) Tryd.underlying4
    (fun ds h => by
      match ds, h with
      | [_, _, _], _ => rfl)
    (World.laidAll Tryd.prog os Rows.stampsOrderRow.laid) #[.slice none 0 0, .slice none 0 0, .slice none 0 0] 8 (x := ([.nil, .nil, .nil], [], [])) (World.laidAll_os _ _ _) (World.shaped_of_ZipB (by kernel_rfl) (by kernel_rfl)) (by kernel_rfl) (by kernel_rfl) (fun k hk => by cases hk) (by kernel_rfl)
    (by rw [MakeChecks.laidMetH_plain _ _ _ (by kernel_rfl)]; exact laidMet_laidAll _ (by kernel_rfl) (by kernel_rfl)) ?_
  intro W base args ds ps hval hA hwt hk hsh hlaid
  rw [show Tryd.f8.params.toList = [22, 22, 22] by kernel_rfl] at hA hwt
  have hval' : ∀ (j : Nat) t v, (#[22, 22, 22] : Array TypeId)[j]? = some t → args[j]? = some v → Value.okWide Tryd.prog W .any base t v := by
    rw [← Tryd.params8]; exact hval
  clear hval
  obtain ⟨v0, v1, v2, d0, d1, d2, p0, p1, p2, rfl, rfl, rfl, h0, h1, h2⟩ := trodAll_three hA
  obtain ⟨A0, c0, l0, rfl, hI0, hc0, hm0, hr0⟩ := open_nums (hval' 0 22 v0 rfl rfl) h0 hwt (j := 0) rfl rfl
  obtain ⟨A1, c1, l1, rfl, hI1, hc1, hm1, hr1⟩ := open_nums (hval' 1 22 v1 rfl rfl) h1 hwt (j := 1) rfl rfl
  obtain ⟨A2, c2, l2, rfl, hI2, hc2, hm2, hr2⟩ := open_nums (hval' 2 22 v2 rfl rfl) h2 hwt (j := 2) rfl rfl
  exact walk A0 l0.length c0 l0 A1 l1.length c1 l1 A2 l2.length c2 l2 W ⟨rfl, hI0, hc0, by omega, by omega, hr0⟩ ⟨rfl, hI1, hc1, by omega, by omega, hr1⟩ ⟨rfl, hI2, hc2, by omega, by omega, hr2⟩ (tabs_of hsh hlaid)

theorem over : Rows.stampsOrderRow.holds Tryd.pinned (OpenSpec.ofChange Rows.stampsOrderSpec) :=
  OpenClaim.holds_of_cond 8 Tryd.f8 rfl rfl rfl rfl rfl rfl rfl ⟨rfl, rfl, rfl, rfl, rfl⟩ rfl rfl rfl rfl rfl (by kernel_rfl) Tryd.func8 (by kernel_rfl)
    (of_decide_eq_true (by kernel_rfl)) (by unfold Func.isWrapper; first | (rw [if_pos (by decide +kernel)]; kernel_rfl) | (rw [if_neg (by decide +kernel)]; exact ⟨rfl, rfl⟩))
    (fun os started H enc _ F => by rw [OpenClaim.pre_eq_preRow]; exact lifted os started H enc F)

/-- The statement. -/
theorem proved : Rows.StampsOrderCardSaid :=
  Claim7.holds_tied_plain_at .later [] Rows.stampsOrderCard.laidKinds true Rows.stampsOrderCard.stood.harness Rows.stampsOrderCard.stood.looks
    over (fun _ h => by cases h) (by kernel_rfl) (fun _ h => by cases h) stampsOrder_row_tie rfl ⟨rfl, rfl⟩ (by kernel_rfl) rfl
    (fun f fn hf hfn => by
      obtain rfl : f = 8 := Option.some.inj ((show Tryd.prog.funcNamed Rows.stampsOrderRow.func = some 8 by kernel_rfl).symm.trans hf) |>.symm
      obtain rfl : fn = Tryd.f8 := (Option.some.inj (Tryd.func8.symm.trans hfn)).symm
      exact ⟨by kernel_rfl, fun j t ht => by
        rw [Tryd.params8] at ht
        have hm : t ∈ ([22, 22, 22] : List TypeId) := by simpa using Array.mem_of_getElem? ht
        have hall : (([22, 22, 22] : List TypeId).all fun u => !Tryd.prog.wantsStandIn u) = true := by kernel_rfl
        exact (show Tryd.prog.wantsStandIn t = false by simpa using List.all_eq_true.1 hall t hm)⟩)
    (by kernel_rfl)

end Go.Proofs.YthhkgdknmehaoaaDoor.lawStampsOrder
