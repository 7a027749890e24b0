/- The document's own answers of layer 4 on lists: the later one, the longer and the next stamp. -/
import Derived.Test.YthhkgdknmehaoaaDoorStampsW2
namespace Go.Proofs.YthhkgdknmehaoaaDoor
open Go.RowKit
set_option linter.unusedVariables false
set_option maxHeartbeats 1000000 in
theorem RefLater_any (A B : Option Addr) (c d : Nat) (a b : List Int) (w : World) (hA : IntsAt w A a) (hB : IntsAt w B b) (ha : a.length ≤ c) (hb : b.length ≤ d) (hc : c ≤ 9223372036854775807) (hd : d ≤ 9223372036854775807) (ha8 : a.length * 8 ≤ 140737488355328) (hb8 : b.length * 8 ≤ 140737488355328) :
    Calls Tryd.prog 23 #[.slice A a.length c, .slice B b.length d] w fun e w' => ∃ v, e = .returned v ∧ Grew w (SM.later a b) v w' := by
  have HA := Lib.hid hA
  have HB := Lib.hid hB
  have HC := Lib.hid (RefCompare_any A B c d a b w hA hB ha hb hc hd)
  clear hA hB
  by_cases h : SM.cmp a b < 0
  · have HE := Lib.hid (show SM.later a b = b from if_pos h)
    generalize SM.cmp a b = n at *
    go_enter Tryd.func23, Tryd.ntmps23
    go_wp2_with fail
    refine HC.out.mono ?_
    rintro x w2 ⟨rfl, hb⟩
    have HW := Lib.hid hb; clear hb
    go_wp2_with fail
    refine (RefCopy_any B d b w2 (HB.out.below HW.out) (by assumption) hd hb8).mono ?_
    rintro x w3 ⟨v, rfl, hG⟩
    have HG := Lib.hid (Grew.later HW.out hG); clear hG
    go_wp2_with fail
    go_ret
    exact ⟨v, rfl, by rw [HE.out]; exact HG.out⟩
  · have HE := Lib.hid (show SM.later a b = a from if_neg h)
    generalize SM.cmp a b = n at *
    go_enter Tryd.func23, Tryd.ntmps23
    go_wp2_with fail
    refine HC.out.mono ?_
    rintro x w2 ⟨rfl, hb⟩
    have HW := Lib.hid hb; clear hb
    go_wp2_with fail
    refine (RefCopy_any A c a w2 (HA.out.below HW.out) (by assumption) hc ha8).mono ?_
    rintro x w3 ⟨v, rfl, hG⟩
    have HG := Lib.hid (Grew.later HW.out hG); clear hG
    go_wp2_with fail
    go_ret
    exact ⟨v, rfl, by rw [HE.out]; exact HG.out⟩
theorem two_back {v v' : Value} {a b : Int} (h1 : v = v') (h2 : a = b) : Ending.returned (.tuple #[v, .int .i64 a]) = .returned (.tuple #[v', .int .i64 b]) := by rw [h1, h2]
set_option maxHeartbeats 1000000 in
theorem RefExtend_any (A : Option Addr) (c : Nat) (l : List Int) (n : Int) (w : World) (hA : IntsAt w A l) (hl : l.length ≤ c) (hc : c ≤ 9223372036854775807) (hn : -9223372036854775808 ≤ n ∧ n ≤ 9223372036854775807) :
    Calls Tryd.prog 24 #[.slice A l.length c, .int .i64 n] w fun e w' => ∃ v, e = .returned (.tuple #[v, .int .i64 (SM.extend l n).2]) ∧ Grew w (SM.extend l n).1 v w' := by
  have HA := Lib.hid hA
  have HV := Lib.hid (RefValid_any A c l w hA hl hc)
  clear hA
  cases hv : SM.valid l with
  | false =>
    have HE := Lib.hid (show SM.extend l n = ([], 13) from if_pos hv)
    rw [hv] at HV
    clear hv
    go_enter Tryd.func24, Tryd.ntmps24
    go_wp2_with fail
    refine HV.out.mono ?_
    rintro x w2 ⟨rfl, rfl⟩
    go_wp2_with fail
    go_ret2
    exact ⟨_, two_back rfl (by rw [HE.out]), by rw [HE.out]; exact Grew.nil w⟩
  | true =>
    rw [hv] at HV
    have h4 := (SM.valid_iff.1 hv).1
    by_cases hl4 : l.length = 4
    · have HE := Lib.hid (show SM.extend l n = ([], 14) by unfold SM.extend; rw [if_neg (by rw [hv]; decide), if_pos hl4])
      have hz : ((l.length : Int) == 4) = true := by simpa using (show (l.length : Int) = 4 by omega)
      clear hv hl4
      go_enter Tryd.func24, Tryd.ntmps24
      go_wp2_with fail
      refine HV.out.mono ?_
      rintro x w2 ⟨rfl, rfl⟩
      go_wp2_with fail
      go_ret2
      exact ⟨_, two_back rfl (by rw [HE.out]), by rw [HE.out]; exact Grew.nil w⟩
    · cases hk : SM.count n with
      | false =>
        have HE := Lib.hid (show SM.extend l n = ([], 66) by unfold SM.extend; rw [if_neg (by rw [hv]; decide), if_neg hl4, if_pos hk])
        have hor : n < 1 ∨ 1099511627776 < n := by
          refine Decidable.byContradiction fun hn => ?_
          rw [SM.count_iff.2 (by omega)] at hk
          cases hk
        clear hv hk
        have hz : ((l.length : Int) == 4) = false := by simpa using (fun e => hl4 (by omega))
        rcases hor with h1 | h1
        all_goals
          go_enter Tryd.func24, Tryd.ntmps24
          go_wp2_with fail
          refine HV.out.mono ?_
          rintro x w2 ⟨rfl, rfl⟩
          go_wp2_with fail
          all_goals
            go_ret2
            exact ⟨_, two_back rfl (by rw [HE.out]), by rw [HE.out]; exact Grew.nil w⟩
      | true =>
        have HE := Lib.hid (show SM.extend l n = (l ++ [n], 0) by unfold SM.extend; rw [if_neg (by rw [hv]; decide), if_neg hl4, if_neg (by rw [hk]; decide)])
        obtain ⟨r1, r2⟩ := SM.count_iff.1 hk
        clear hv hk
        have hz : ((l.length : Int) == 4) = false := by simpa using (fun e => hl4 (by omega))
        go_enter Tryd.func24, Tryd.ntmps24
        go_wp2_with fail
        refine HV.out.mono ?_
        rintro x w2 ⟨rfl, rfl⟩
        go_wp2_with fail
        refine (RefCopy_any A c l _ HA.out hl hc (by omega)).mono ?_
        rintro x w3 ⟨v, rfl, hG⟩
        have HG := Lib.hid hG; clear hG
        go_wp2_with (at_builtin; refine app_one rfl (.tmp 21) (.tmp 23) rfl _ _ HG.out rfl n rfl (by omega) ?_; intro v2 w2 hg2; have HG2 := Lib.hid hg2; clear hg2)
        go_ret2
        exact ⟨_, two_back rfl (by rw [HE.out]), by rw [HE.out]; exact HG2.out⟩
end Go.Proofs.YthhkgdknmehaoaaDoor
