/- The document's own answers of layer 5: what stands against a path, a mode and a holder. -/
import Derived.Test.YtbgcjbekbeobnaaGreatDoorPsR5
namespace Go.Proofs.YtbgcjbekbeobnaaGreatDoor
open Go.RowKit
open SE (Ent)
set_option linter.unusedVariables false
set_option maxRecDepth 100000
set_option maxHeartbeats 4000000 in
theorem RefClash_any (A : Option Addr) (c : Nat) (l : List Ent) (q : ByteArray) (m who : Int) (w : World) (hA : EntsAt w A l) (hl : l.length ≤ c) (hc : c ≤ 9223372036854775807) (h64 : l.length ≤ 64) (hF : ∀ x ∈ l, Fair x) (hq : q.size ≤ 140737488351232) :
    Calls Tryz.prog 19 #[.slice A l.length c, .string q, .int .i64 m, .int .i64 who] w (OneI w (SE.clash l q.data.toList m who)) := by
  have HA := Lib.hid hA; clear hA
  have HF := Lib.hid hF; clear hF
  have HR := Lib.hid (show SE.clash l q.data.toList m who = SE.rise (sel l (SE.against q.data.toList m who)) from rfl)
  rw [HR.out]
  have HM := Lib.hid (fun w => Mode_any m w)
  go_enter Tryz.func19, Tryz.ntmps19
  go_wp2_with fail
  go_loopw [9, 10, 11, 12] (fun v i _ _ wx => ∃ k : Nat, i = .int .i64 (k : Int) ∧ k ≤ l.length ∧ Hid (Grew w (sel (l.take k) (SE.against q.data.toList m who)) v wx)) (fun _ i _ _ _ => l.length - (intOf i).toNat)
  case atStart => exact ⟨0, rfl, by omega, Lib.hid (by rw [List.take_zero]; exact Grew.nil w)⟩
  case round =>
    obtain ⟨k, rfl, hk, HG⟩ := hrel
    by_cases hlt : k < l.length
    · obtain ⟨b, o, eA, hb, hca⟩ := HA.out (by omega)
      subst eA
      have HX := Lib.hid (hca k l[k] (List.getElem?_eq_getElem hlt))
      obtain ⟨x0, x1, x2, x3⟩ := HX.out.below hb HG.out.2
      have HY := Lib.hid (sel_yes (f := SE.against q.data.toList m who) hlt)
      have HN := Lib.hid (sel_no (f := SE.against q.data.toList m who) hlt)
      have HL := Lib.hid (show ((sel (l.take k) (SE.against q.data.toList m who)).length + 1) * 8 ≤ 140737488355328 by
        have := sel_len l (SE.against q.data.toList m who) k
        omega)
      have hp := (HF.out l[k] (List.getElem_mem hlt)).2.1
      have HC := Lib.hid (fun w => ROverlap_any (p := l[k].path) (q := q) (w := w) hp hq)
      clear hca
      generalize l[k] = x at x0 x1 x2 x3 HX HY HN HC hp
      go_wp2_with fail
      have HBX := Lib.hid (fun w2 => boxed (w := wr) (w2 := w2) x)
      refine (HC.out _).mono ?_
      rintro e w2 ⟨rfl, hb2⟩
      have HZ := Lib.hid (HBX.out _ hb2)
      have HG2 := Lib.hid (HG.out.keep HZ.out.2.1)
      obtain ⟨y0, y1, y2, y3⟩ := HZ.out.1
      rw [Nat.zero_add] at y1 y2 y3
      clear hb2 HG HBX x0 x1 x2 x3
      have HT := Lib.hid (fun w => Together_any x.mode m w)
      generalize hlap : (PM.cov x.path.data.toList q.data.toList || PM.cov q.data.toList x.path.data.toList) = lp
      have HLP := Lib.hid hlap; clear hlap
      have HAG := Lib.hid (show SE.against q.data.toList m who x = (SE.okMode m && lp && decide (x.who ≠ who) && !SE.together x.mode m) by rw [← HLP.out]; rfl)
      rw [HAG.out] at HY HN
      cases hm : SE.okMode m with
      | false =>
        rw [hm] at HM HN
        have HS := Lib.hid (HN.out rfl); clear HY HN hm
        go_wp2_with fail
        refine (HM.out _).mono ?_
        rintro e w4 ⟨rfl, rfl⟩
        go_wp2_with fail
        go_roundw
        case rel => exact ⟨k + 1, rfl, by omega, Lib.hid (by rw [HS.out]; exact HG2.out)⟩
        case measure => simp only [intOf]; omega
      | true =>
        rw [hm] at HM HN HY
        cases lp with
        | false =>
          have HS := Lib.hid (HN.out rfl); clear HY HN hm
          go_wp2_with fail
          refine (HM.out _).mono ?_
          rintro e w4 ⟨rfl, rfl⟩
          go_wp2_with fail
          go_roundw
          case rel => exact ⟨k + 1, rfl, by omega, Lib.hid (by rw [HS.out]; exact HG2.out)⟩
          case measure => simp only [intOf]; omega
        | true =>
          by_cases hw : x.who = who
          · have HS := Lib.hid (HN.out (by rw [decide_eq_false (fun h => h hw)]; rfl)); clear HY HN hm
            have dw : (x.who != who) = false := by simpa using hw
            clear hw
            go_wp2_with fail
            refine (HM.out _).mono ?_
            rintro e w4 ⟨rfl, rfl⟩
            go_wp2_with fail
            go_roundw
            case rel => exact ⟨k + 1, rfl, by omega, Lib.hid (by rw [HS.out]; exact HG2.out)⟩
            case measure => simp only [intOf]; omega
          · have dw : (x.who != who) = true := by simpa using hw
            cases ht : SE.together x.mode m with
            | true =>
              rw [ht] at HT
              have HS := Lib.hid (HN.out (by rw [ht]; simp)); clear HY HN hm ht hw
              go_wp2_with fail
              refine (HM.out _).mono ?_
              rintro e w4 ⟨rfl, rfl⟩
              go_wp2_with fail
              refine (HT.out _).mono ?_
              rintro e w4 ⟨rfl, rfl⟩
              go_wp2_with fail
              go_roundw
              case rel => exact ⟨k + 1, rfl, by omega, Lib.hid (by rw [HS.out]; exact HG2.out)⟩
              case measure => simp only [intOf]; omega
            | false =>
              rw [ht] at HT
              have HS := Lib.hid (HY.out (by rw [ht, decide_eq_true hw]; rfl)); clear HY HN hm ht hw
              go_wp2_with fail
              refine (HM.out _).mono ?_
              rintro e w4 ⟨rfl, rfl⟩
              go_wp2_with fail
              refine (HT.out _).mono ?_
              rintro e w4 ⟨rfl, rfl⟩
              go_wp2_with (at_builtin; refine app_one rfl (.tmp 45) (.tmp 48) rfl _ _ HG2.out rfl x.id rfl HL.out ?_; intro v2 w5 hg2; rw [← HS.out] at hg2; have HG5 := Lib.hid hg2; clear hg2)
              go_wp2_with fail
              go_roundw
              case rel => exact ⟨k + 1, rfl, by omega, HG5⟩
              case measure => simp only [intOf]; omega
    · have hG := HG.out
      rw [List.take_of_length_le (show l.length ≤ k by omega)] at hG
      obtain ⟨C, cc, rfl, k1, k2⟩ := own_shape hG.1
      have HGF := Lib.hid hG
      have HL := Lib.hid (show (sel l (SE.against q.data.toList m who)).length ≤ 1048576 by
        have := sel_len l (SE.against q.data.toList m who) l.length
        rw [List.take_length] at this
        omega)
      clear hG HG
      generalize hn : (sel l (SE.against q.data.toList m who)).length = n at *
      have HNN := Lib.hid hn; clear hn
      go_wp2_with fail
      refine (sorted_own HGF.out (by rw [HNN.out]; exact HL.out)).mono ?_
      rintro e w2 ⟨rfl, hg⟩
      have HH := Lib.hid hg; clear hg
      go_wp2_with fail
      go_ret
      exact one_of_grew HH.out k1 k2
end Go.Proofs.YtbgcjbekbeobnaaGreatDoor
