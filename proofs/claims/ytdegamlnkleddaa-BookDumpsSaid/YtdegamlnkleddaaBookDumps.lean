/- The records of a book's Dump are at most eight and make the book again; for every book. -/
import Derived.Test.YtdegamlnkleddaaBkR1
import Derived.Test.YtdegamlnkleddaaBkArg
import Derived.Test.YtdegamlnkleddaaLaw
import Derived.JoinedCond
import Derived.OpenShut
namespace Go.Proofs.Ytdegamlnkleddaa.lawBookDumps
open BM (Gr Rc Bk g0 r0 b0)
open Go Go.RowKit Go.ChangeShapes Go.WideShapes Go.ChangeAt
set_option linter.unusedVariables false
set_option linter.unusedSimpArgs false
set_option maxRecDepth 100000
theorem wrap_in {x : Int} (h : -9223372036854775808 ≤ x ∧ x ≤ 9223372036854775807) : wrap64 x = x := by
  unfold wrap64
  omega
theorem no_more {a n : Nat} (h : n ≤ a + 2) : decide (((a : Int) + 2) < (n : Int)) = false := decide_eq_false (by omega)
theorem dump_nil {b : Bk} (h : BM.okBk b = false) : BM.dump b = [] := by unfold BM.dump; rw [if_neg (by rw [h]; simp)]
set_option maxHeartbeats 8000000 in
theorem walk (s : Value) (b : Bk) (w : World) (hR : FitB w s b) :
    Calls Try.prog 8 #[.agg (four b s)] w (LK.True_ w) := by
  obtain ⟨As, cs, hs, _⟩ := hR.gs
  subst hs
  have HRM := Lib.hid (show b.gs.length * 72 ≤ 140737488355328 by obtain ⟨_, _, _, _, _, _, h⟩ := hR.gs; exact h)
  have HX := Lib.hid ((Below.refl _ w).alloc (Nat.le_refl _) (.cells (four b (.slice As b.gs.length cs)) 25))
  have HR := Lib.hid (hR.below HX.out)
  have HK := Lib.hid (Whole.new w 25 (four b (.slice As b.gs.length cs)))
  clear hR
  go_enter Try.func8, Try.ntmps8
  go_wp2_with fail
  go_at_call 11
  generalize w.alloc (.cells (four b (.slice As b.gs.length cs)) 25) = w0 at HX HR HK ⊢
  with_reducible refine (awake_any w0).mono ?_
  rintro e w1 ⟨rfl, hb1⟩
  have HB1 := Lib.hid (below_on HX.out hb1)
  have HR1 := Lib.hid (HR.out.below hb1)
  have HK1 := Lib.hid (show Whole w1 w.heap.size 25 (four b (.slice As b.gs.length cs)) from (Mod.of_below hb1 []).whole HK.out (by simp))
  clear hb1 HX HR HK
  obtain ⟨e0, e1, e2, e3⟩ := four_cells HK1.out
  go_wp2_with fail
  refine (r_own (.slice As b.gs.length cs) b w1 HR1.out).mono ?_
  rintro e w2 ⟨v2, ps2, rfl, hm2, ho2, hb2⟩
  obtain ⟨V2, cv2, hvv, _, _⟩ := own_shape ho2.row
  subst hvv
  have HF2 := Lib.hid (fitB_own ho2 hm2 HR1.out.next HR1.out.boots HR1.out.longest)
  have HB2 := Lib.hid (below_on HB1.out hb2)
  have HX2 := Lib.hid hb2
  clear hm2 ho2 hb2 e0 e1 e2 e3
  generalize ps2.length = l2 at HF2 ⊢
  unfold four
  go_wp2_with fail
  refine (b_Dump (.slice V2 l2 cv2) b w2 HF2.out).mono ?_
  rintro e w3 ⟨v3, ps3, rfl, hm3, ho3, hb3⟩
  obtain ⟨V3, cv3, hvv, _, _⟩ := own_shape ho3.row
  subst hvv
  have HL3 := Lib.hid (show ps3.length = (BM.dump b).length by rw [← hm3, List.length_map])
  have HM3 := Lib.hid hm3
  have HO3 := Lib.hid ho3
  have HB3 := Lib.hid (below_on HB2.out hb3)
  have HX3 := Lib.hid (below_on HX2.out hb3)
  have HR3 := Lib.hid (HR1.out.below HX3.out)
  have HK3 := Lib.hid ((Mod.of_below HX3.out []).whole HK1.out (by simp))
  clear hm3 ho3 hb3 HF2 HX2 HB2
  obtain ⟨e0, e1, e2, e3⟩ := four_cells HK3.out
  go_wp2_with fail
  refine (r_own (.slice As b.gs.length cs) b w3 HR3.out).mono ?_
  rintro e w4 ⟨v4, ps4, rfl, hm4, ho4, hb4⟩
  obtain ⟨V4, cv4, hvv, _, _⟩ := own_shape ho4.row
  subst hvv
  have HF4 := Lib.hid (fitB_own ho4 hm4 HR1.out.next HR1.out.boots HR1.out.longest)
  have HB4 := Lib.hid (below_on HB3.out hb4)
  have HX4 := Lib.hid hb4
  clear hm4 ho4 hb4 e0 e1 e2 e3
  generalize ps4.length = l4 at HF4 ⊢
  unfold four
  go_wp2_with fail
  refine (b_Valid (.slice V4 l4 cv4) b w4 HF4.out).mono ?_
  rintro e w5 ⟨rfl, hb5⟩
  have HB5 := Lib.hid (below_on HB4.out hb5)
  have HX5 := Lib.hid (below_on HX4.out hb5)
  have HR5 := Lib.hid (HR3.out.below HX5.out)
  have HK5 := Lib.hid ((Mod.of_below HX5.out []).whole HK3.out (by simp))
  have HO5 := Lib.hid (HO3.out.below HX5.out)
  clear hb5 HF4 HX4 HB4 HR1 HR3 HK1 HK3 HB1 HX3 HO3 HB3 HX5
  obtain ⟨n, hn⟩ : ∃ n, n = ps3.length := ⟨_, rfl⟩
  have HN := Lib.hid hn.symm
  rw [← hn]
  clear hn
  cases hok : BM.okBk b with
  | false =>
    have hn0 : n = 0 := by rw [← HN.out, HL3.out, dump_nil hok]; rfl
    subst hn0
    clear hok
    go_wp2_with fail
    go_ret
    exact ⟨rfl, HB5.out⟩
  | true =>
    obtain ⟨h1, h2, h3⟩ := BM.dump_len b hok
    have h2' : n ≤ b.gs.length + 2 := by rw [← HN.out, HL3.out]; exact h2
    have h1' : 1 ≤ n := by rw [← HN.out, HL3.out]; exact h1
    have h3' : n ≤ 8 := by rw [← HN.out, HL3.out]; exact h3
    have HN8 := Lib.hid h3'
    have HN1 := Lib.hid h1'
    have HPL := Lib.hid (BM.dump_play hok)
    clear h1 h2 h3 hok
    have g1 : decide ((n : Int) < 1) = false := decide_eq_false (by omega)
    have g2 : decide ((8 : Int) < (n : Int)) = false := decide_eq_false (by omega)
    have g3 : IntKind.i64.wrap ((b.gs.length : Int) + 2) = (b.gs.length : Int) + 2 := IntWalk.i64_in _ (by have := HRM.out; omega)
    have g3' : wrap64 ((b.gs.length : Int) + 2) = (b.gs.length : Int) + 2 := wrap_in (by have := HRM.out; omega)
    have g4 := no_more h2'
    clear h1' h2' h3'
    obtain ⟨e0, e1, e2, e3⟩ := four_cells HK5.out
    go_wp2_with fail
    refine (b_New w5).mono ?_
    rintro e w6 ⟨rfl, hb6⟩
    have HX6 := Lib.hid hb6
    clear hb6 e0 e1 e2 e3 g1 g2 g3 g3' g4
    have HK7 := Lib.hid (Whole.new w6 25 (four BM.new (.slice none 0 0)))
    have HX7 := Lib.hid (below_on HX6.out ((Below.refl _ w6).alloc (Nat.le_refl _) (.cells (four BM.new (.slice none 0 0)) 25)))
    have HSZ := Lib.hid (show w5.heap.size ≤ w6.heap.size from HX6.out.size)
    unfold four at HK7 HX7
    unfold four
    go_wp2_with fail
    generalize w6.alloc (.cells #[.int .i64 BM.new.next, .int .i64 BM.new.boots, .int .i64 BM.new.longest, .slice none 0 0] 25) = w7 at HK7 HX7 ⊢
    generalize w6.heap.size = pc at HK7 HSZ ⊢
    go_loopw [41] (fun i wx => ∃ (k : Nat) (c : Bk) (vC : Value) (psC : List (Gr × Value)), i = .int .i64 (k : Int) ∧ k ≤ n ∧ Hid (BM.play BM.new ((BM.dump b).take k) = some c) ∧ Hid (Whole wx pc 25 (four c vC)) ∧ Hid (OwnG wx 0 vC psC) ∧ Hid (psC.map Prod.fst = c.gs) ∧ Hid (In64 c.next ∧ In64 c.boots ∧ In64 c.longest) ∧ Hid (Below w5.heap.size w5 wx)) (fun i _ => n - (intOf i).toNat)
    case atStart => exact ⟨0, BM.new, .slice none 0 0, [], rfl, Nat.zero_le _, Lib.hid rfl, HK7, Lib.hid OwnG.nil, Lib.hid rfl, Lib.hid ⟨by unfold In64; decide, by unfold In64; decide, by unfold In64; decide⟩, HX7⟩
    case round =>
      obtain ⟨k, c, vC, psC, rfl, hk, HP, HKC, HOC, HMC, HI, HBX⟩ := hrel
      obtain ⟨VC, cvC, hvv, _, _⟩ := own_shape HOC.out.row
      subst hvv
      by_cases hlt : k < n
      · have hkl : k < ps3.length := by rw [HN.out]; exact hlt
        have hkd : k < (BM.dump b).length := by have := HL3.out; omega
        obtain ⟨cc, c', q1, q2, q3⟩ := BM.play_step HPL.out hkd
        have hcc : cc = c := by rw [HP.out] at q1; exact (Option.some.inj q1).symm
        subst hcc
        have HO6 := Lib.hid (HO5.out.below HBX.out)
        obtain ⟨gb, cap, hvg, _, _⟩ := HO6.out.row.form (by omega)
        have hV3 : V3 = some ⟨gb, 0, none⟩ := by injection hvg
        have HVB := Lib.hid (show (Value.slice V3 ps3.length cv3).ownBlock = some gb by rw [hV3]; rfl)
        obtain ⟨hrc, hfr⟩ := HO6.out.recAt HVB.out (List.getElem?_eq_getElem hkl)
        have hrk : (ps3[k]'hkl).1 = (BM.dump b)[k]'hkd := by
          have := List.getElem?_eq_getElem hkl
          have h2 : (ps3.map Prod.fst)[k]? = some (ps3[k]'hkl).1 := by rw [List.getElem?_map, this]; rfl
          rw [HM3.out, List.getElem?_eq_getElem hkd] at h2
          exact (Option.some.inj h2).symm
        rw [← hrk] at q2
        generalize ps3[k]'hkl = pk at hrc hfr q2
        obtain ⟨rk, vk, uk⟩ := pk
        obtain ⟨Ak, ck, hvk, _⟩ := hfr.g.hd
        obtain ⟨Bk', dk, huk, _⟩ := hfr.st
        simp only at hvk huk q2 hrc hfr
        subst hvk huk
        obtain ⟨c0, c1, c2', c3, c4, c5', c6, c7, c8, c9, c10, c11⟩ := rec12 hrc
        have HQ2 := Lib.hid q2
        have HQ3 := Lib.hid q3
        have HFK := Lib.hid hfr
        clear q1 q2 q3 hrc hfr hrk hvg
        subst hV3
        have j0 : (0 : Int) ≤ (k : Int) := by omega
        have j1 : (k : Int) < (n : Int) := by omega
        have HX8 := Lib.hid ((Below.refl _ wr).alloc (Nat.le_refl _) (.cells (twelve rk (.slice Ak rk.g.stamp.length ck) (.slice Bk' rk.stamp.length dk)) 32))
        have HK8 := Lib.hid ((Mod.of_below HX8.out []).whole HKC.out (by simp))
        have HF8 := Lib.hid (HFK.out.below HX8.out)
        have HO8 := Lib.hid (HOC.out.below HX8.out)
        unfold twelve at HX8 HK8 HF8 HO8
        have b0' : (wr.alloc (.cells #[.int .i64 rk.kind, .int .i64 rk.g.id, .int .i64 rk.g.holder, .string rk.g.path, .int .i64 rk.g.mode, .slice Ak rk.g.stamp.length ck, .int .i64 rk.g.term, .int .i64 rk.id, .slice Bk' rk.stamp.length dk, .int .i64 rk.next, .int .i64 rk.boots, .int .i64 rk.longest] 32)).cell? ⟨pc, 0, none⟩ = some (.int .i64 cc.next) := HK8.out.cell 0
        have b1' : (wr.alloc (.cells #[.int .i64 rk.kind, .int .i64 rk.g.id, .int .i64 rk.g.holder, .string rk.g.path, .int .i64 rk.g.mode, .slice Ak rk.g.stamp.length ck, .int .i64 rk.g.term, .int .i64 rk.id, .slice Bk' rk.stamp.length dk, .int .i64 rk.next, .int .i64 rk.boots, .int .i64 rk.longest] 32)).cell? ⟨pc, 1, none⟩ = some (.int .i64 cc.boots) := HK8.out.cell 1
        have b2' : (wr.alloc (.cells #[.int .i64 rk.kind, .int .i64 rk.g.id, .int .i64 rk.g.holder, .string rk.g.path, .int .i64 rk.g.mode, .slice Ak rk.g.stamp.length ck, .int .i64 rk.g.term, .int .i64 rk.id, .slice Bk' rk.stamp.length dk, .int .i64 rk.next, .int .i64 rk.boots, .int .i64 rk.longest] 32)).cell? ⟨pc, 2, none⟩ = some (.int .i64 cc.longest) := HK8.out.cell 2
        have b3' : (wr.alloc (.cells #[.int .i64 rk.kind, .int .i64 rk.g.id, .int .i64 rk.g.holder, .string rk.g.path, .int .i64 rk.g.mode, .slice Ak rk.g.stamp.length ck, .int .i64 rk.g.term, .int .i64 rk.id, .slice Bk' rk.stamp.length dk, .int .i64 rk.next, .int .i64 rk.boots, .int .i64 rk.longest] 32)).cell? ⟨pc, 3, none⟩ = some (.slice VC psC.length cvC) := HK8.out.cell 3
        go_wp2_with fail
        generalize wr.alloc _ = w8 at HX8 HK8 HF8 HO8 b0' b1' b2' b3' ⊢
        have HAP := Lib.hid (fitB_own HO8.out HMC.out HI.out.1 HI.out.2.1 HI.out.2.2)
        refine (b_Apply (.slice VC psC.length cvC) (.slice Ak rk.g.stamp.length ck) (.slice Bk' rk.stamp.length dk) cc rk w8 HAP.out HF8.out).mono ?_
        unfold AppPost
        rw [HQ2.out]
        rintro e w9 ⟨v9, ps9, rfl, hm9, ho9, hb9⟩
        obtain ⟨V9, cv9, hvv, _, _⟩ := own_shape ho9.row
        subst hvv
        have HX9 := Lib.hid (below_on HX8.out hb9)
        have HK9 := Lib.hid ((Mod.of_below hb9 []).whole HK8.out (by simp))
        have HO9 := Lib.hid (ho9.low (Nat.zero_le _))
        have HM9 := Lib.hid hm9
        have HI9 := Lib.hid (in_ok (BM.apply_ok HQ2.out).1)
        clear hm9 ho9 hb9 c0 c1 c2' c3 c4 c5' c6 c7 c8 c9 c10 c11 b0' b1' b2' b3' HX8 HK8 HF8 HO8 HAP
        have HXA := Lib.hid ((Below.refl _ w9).alloc (Nat.le_refl _) (.cells (four c' (.slice V9 ps9.length cv9)) 25))
        have HKA := Lib.hid ((Mod.of_below HXA.out []).whole HK9.out (by simp))
        have HOA := Lib.hid (HO9.out.below HXA.out)
        have HBA := Lib.hid (below_on HBX.out (below_on HX9.out HXA.out))
        generalize ps9.length = l9 at HXA HKA HOA HBA ⊢
        unfold four at HXA HOA HBA
        have k0 := HKA.out.cell 0
        have k1 := HKA.out.cell 1
        have k2 := HKA.out.cell 2
        have k3 := HKA.out.cell 3
        unfold four at k0 k1 k2 k3
        simp only [List.getElem?_toArray, List.getElem?_cons_zero, List.getElem?_cons_succ] at k0 k1 k2 k3
        have f0 := HKA.out.frozen 0
        have f1 := HKA.out.frozen 1
        have f2 := HKA.out.frozen 2
        have f3 := HKA.out.frozen 3
        unfold four at HKA f0 f1 f2 f3
        unfold four
        go_wp2_with fail
        generalize w9.alloc _ = wa at HXA HKA HOA HBA k0 k1 k2 k3 f0 f1 f2 f3 ⊢
        have hMf := four_mod wa pc (.int .i64 c'.next) (.int .i64 c'.boots) (.int .i64 c'.longest) (.slice V9 l9 cv9)
        have hWf := four_set HKA.out rfl (.int .i64 c'.next) (.int .i64 c'.boots) (.int .i64 c'.longest) (.slice V9 l9 cv9)
        have hOf := HOA.out.apart HKA.out (by decide) (by decide) hMf
        have HWF := Lib.hid (show Whole _ pc 25 (four c' (.slice V9 l9 cv9)) from hWf)
        have HOF := Lib.hid hOf
        have HBF := Lib.hid (HBA.out.trans (hMf.below HBA.out.size (by simpa using HSZ.out)))
        clear hMf hWf hOf k0 k1 k2 k3 f0 f1 f2 f3
        go_roundw
        case rel => exact ⟨k + 1, c', _, ps9, rfl, hlt, HQ3, HWF, HOF, HM9, HI9, HBF⟩
        case measure => simp only [intOf]; omega
      · have hcb : c = b := by
          have h := HP.out
          rw [List.take_of_length_le (by have := HL3.out; have := HN.out; omega), HPL.out] at h
          exact (Option.some.inj h).symm
        subst hcb
        have HRX := Lib.hid (HR5.out.below HBX.out)
        have HKX := Lib.hid ((Mod.of_below HBX.out []).whole HK5.out (by simp))
        have HFX := Lib.hid (fitB_own HOC.out HMC.out HI.out.1 HI.out.2.1 HI.out.2.2)
        have HBW := Lib.hid (below_on HB5.out HBX.out)
        go_upto_region 17 with (fail)
        have hKeep : ∀ (us : Nat → Value) (wa wb : World), Below wa.heap.size wa wb → ∀ j, known [fun us y => us 0 = .agg (four c (.slice VC psC.length cvC)), fun us y => us 1 = .agg (four c (.slice As c.gs.length cs)), fun us y => ∃ A2 n2 c2 p2, us 2 = .agg (four c (.slice A2 n2 c2)) ∧ OwnG y 0 (.slice A2 n2 c2) p2 ∧ p2.map Prod.fst = c.gs, fun us y => us 3 = .bool true, fun us y => us 4 = .bool true, fun us y => us 5 = .agg (four c (.slice VC psC.length cvC)), fun us y => us 6 = .agg (four c (.slice As c.gs.length cs)), fun us y => us 7 = .bool true, fun us y => us 8 = .bool true, fun us y => us 9 = .bool true] j us wa → known [fun us y => us 0 = .agg (four c (.slice VC psC.length cvC)), fun us y => us 1 = .agg (four c (.slice As c.gs.length cs)), fun us y => ∃ A2 n2 c2 p2, us 2 = .agg (four c (.slice A2 n2 c2)) ∧ OwnG y 0 (.slice A2 n2 c2) p2 ∧ p2.map Prod.fst = c.gs, fun us y => us 3 = .bool true, fun us y => us 4 = .bool true, fun us y => us 5 = .agg (four c (.slice VC psC.length cvC)), fun us y => us 6 = .agg (four c (.slice As c.gs.length cs)), fun us y => us 7 = .bool true, fun us y => us 8 = .bool true, fun us y => us 9 = .bool true] j us wb := by
          intro us wa wb hb j h
          match j, h with
          | 0, h => exact h
          | 1, h => exact h
          | 2, h => (obtain ⟨A2, n2, c2, p2, e2, hO2, hM2⟩ : ∃ A2 n2 c2 p2, us 2 = .agg (four c (.slice A2 n2 c2)) ∧ OwnG wa 0 (.slice A2 n2 c2) p2 ∧ p2.map Prod.fst = c.gs := h; exact (show ∃ A2 n2 c2 p2, us 2 = .agg (four c (.slice A2 n2 c2)) ∧ OwnG wb 0 (.slice A2 n2 c2) p2 ∧ p2.map Prod.fst = c.gs from ⟨A2, n2, c2, p2, e2, hO2.below hb, hM2⟩))
          | 3, h => exact h
          | 4, h => exact h
          | 5, h => exact h
          | 6, h => exact h
          | 7, h => exact h
          | 8, h => exact h
          | 9, h => exact h
          | q + 10, h => exact trivial
        have HKEEP := Lib.hid hKeep
        clear hKeep
        refine region_each (known [fun us y => us 0 = .agg (four c (.slice VC psC.length cvC)), fun us y => us 1 = .agg (four c (.slice As c.gs.length cs)), fun us y => ∃ A2 n2 c2 p2, us 2 = .agg (four c (.slice A2 n2 c2)) ∧ OwnG y 0 (.slice A2 n2 c2) p2 ∧ p2.map Prod.fst = c.gs, fun us y => us 3 = .bool true, fun us y => us 4 = .bool true, fun us y => us 5 = .agg (four c (.slice VC psC.length cvC)), fun us y => us 6 = .agg (four c (.slice As c.gs.length cs)), fun us y => us 7 = .bool true, fun us y => us 8 = .bool true, fun us y => us 9 = .bool true]) (fun y => Below wr.heap.size wr y) (fun y => True) [] [[], [], [1], [0, 1, 2], [0, 1, 2, 3], [0, 1, 2, 3, 4], [0, 1, 2, 3, 4], [0, 1, 2, 3, 4, 5, 6], [0, 1, 2, 3, 4, 5, 6, 7], [0, 1, 2, 3, 4, 5, 6, 7, 8]] (by
          intro j us us' y h hF
          match j, h, hF with
          | 0, h, hF => (have hF : us 0 = .agg (four c (.slice VC psC.length cvC)) := hF; rw [h 0 (.inl rfl)] at hF; exact hF)
          | 1, h, hF => (have hF : us 1 = .agg (four c (.slice As c.gs.length cs)) := hF; rw [h 1 (.inl rfl)] at hF; exact hF)
          | 2, h, hF => (have hF : ∃ A2 n2 c2 p2, us 2 = .agg (four c (.slice A2 n2 c2)) ∧ OwnG y 0 (.slice A2 n2 c2) p2 ∧ p2.map Prod.fst = c.gs := hF; rw [h 2 (.inl rfl)] at hF; exact hF)
          | 3, h, hF => (have hF : us 3 = .bool true := hF; rw [h 3 (.inl rfl)] at hF; exact hF)
          | 4, h, hF => (have hF : us 4 = .bool true := hF; rw [h 4 (.inl rfl)] at hF; exact hF)
          | 5, h, hF => (have hF : us 5 = .agg (four c (.slice VC psC.length cvC)) := hF; rw [h 5 (.inl rfl)] at hF; exact hF)
          | 6, h, hF => (have hF : us 6 = .agg (four c (.slice As c.gs.length cs)) := hF; rw [h 6 (.inl rfl)] at hF; exact hF)
          | 7, h, hF => (have hF : us 7 = .bool true := hF; rw [h 7 (.inl rfl)] at hF; exact hF)
          | 8, h, hF => (have hF : us 8 = .bool true := hF; rw [h 8 (.inl rfl)] at hF; exact hF)
          | 9, h, hF => (have hF : us 9 = .bool true := hF; rw [h 9 (.inl rfl)] at hF; exact hF)
          | q + 10, h, hF => exact trivial) (by kernel_rfl) rfl (by kernel_rfl) (by exact (Below.refl _ _).drew) (trivial) (Z := fun vs => Act.put (Act.put (Act.put (Act.put (Act.put (Act.put (Act.put (Act.put (Act.put (Act.put (_) (some 55) (vs 0)) (some 56) (vs 1)) (some 57) (vs 2)) (some 58) (vs 3)) (some 59) (vs 4)) (some 60) (vs 5)) (some 61) (vs 6)) (some 62) (vs 7)) (some 63) (vs 8)) (some 2) (vs 9)) (fun _ => rfl) ?_ ?_
        · skip
          refine EachAll.snoc (i := 9) (o := { dst := some 2, op := Op.assign (Operand.tmp 63), type := 4, pos := _, after := #[{ on := 8, ground := Ground.data }, { on := 7, ground := Ground.chain }, { on := 0, ground := Ground.phase }, { on := 1, ground := Ground.phase }, { on := 2, ground := Ground.phase }, { on := 3, ground := Ground.phase }, { on := 4, ground := Ground.phase }, { on := 5, ground := Ground.phase }, { on := 6, ground := Ground.phase }, { on := 7, ground := Ground.phase }, { on := 8, ground := Ground.phase }], guard := none }) (l := [0, 1, 2, 3, 4, 5, 6, 7, 8]) (A := fun vs => Act.put (Act.put (Act.put (Act.put (Act.put (Act.put (Act.put (Act.put (Act.put (_) (some 63) (vs 8)) (some 62) (vs 7)) (some 61) (vs 6)) (some 60) (vs 5)) (some 59) (vs 4)) (some 58) (vs 3)) (some 57) (vs 2)) (some 56) (vs 1)) (some 55) (vs 0)) ?_ rfl rfl (fun _ => rfl) ?_
          rotate_left
          · intro vs y hI hJ hA K hK
            have hB := hI
            clear hJ
            have e8 : vs 8 = .bool true := hA 8 (by decide)
            clear hA
            refine Box.mk ?_
            try simp only [e8, allPut, puts, Act.put, List.setIfInBounds_toArray, List.set_cons_zero, List.set_cons_succ] at hK ⊢
            go_simp
            exact hK.out _ _ hB (show (updv vs 9 _) 9 = .bool true from rfl) (fun _ _ _ h => h) (fun _ h => h)
          refine EachAll.snoc (i := 8) (o := { dst := some 63, op := Op.pick (Operand.tmp 59) (Operand.tmp 62) (Operand.const (Value.bool false)), type := 4, pos := _, after := #[{ on := 4, ground := Ground.data }, { on := 7, ground := Ground.data }], guard := none }) (l := [0, 1, 2, 3, 4, 5, 6, 7]) (A := fun vs => Act.put (Act.put (Act.put (Act.put (Act.put (Act.put (Act.put (Act.put (_) (some 62) (vs 7)) (some 61) (vs 6)) (some 60) (vs 5)) (some 59) (vs 4)) (some 58) (vs 3)) (some 57) (vs 2)) (some 56) (vs 1)) (some 55) (vs 0)) ?_ rfl rfl (fun _ => rfl) ?_
          rotate_left
          · intro vs y hI hJ hA K hK
            have hB := hI
            clear hJ
            have e4 : vs 4 = .bool true := hA 4 (by decide)
            have e7 : vs 7 = .bool true := hA 7 (by decide)
            clear hA
            refine Box.mk ?_
            try simp only [e4, e7, allPut, puts, Act.put, List.setIfInBounds_toArray, List.set_cons_zero, List.set_cons_succ] at hK ⊢
            go_simp
            exact hK.out _ _ hB (show (updv vs 8 _) 8 = .bool true from rfl) (fun _ _ _ h => h) (fun _ h => h)
          refine EachAll.snoc (i := 7) (o := { dst := some 62, op := Op.call { callee := Callee.value (Operand.func 16), args := #[Operand.tmp 60, Operand.tmp 61], argTypes := #[25, 25] }, type := 4, pos := _, after := #[{ on := 5, ground := Ground.data }, { on := 6, ground := Ground.data }, { on := 4, ground := Ground.chain }, { on := 4, ground := Ground.guard }], guard := some (4, true) }) (l := [0, 1, 2, 3, 4, 5, 6]) (A := fun vs => Act.put (Act.put (Act.put (Act.put (Act.put (Act.put (Act.put (_) (some 61) (vs 6)) (some 60) (vs 5)) (some 59) (vs 4)) (some 58) (vs 3)) (some 57) (vs 2)) (some 56) (vs 1)) (some 55) (vs 0)) ?_ rfl rfl (fun _ => rfl) ?_
          rotate_left
          · intro vs y hI hJ hA K hK
            have hB := hI
            clear hJ
            have e4 : vs 4 = .bool true := hA 4 (by decide)
            have e5 : vs 5 = .agg (four c (.slice VC psC.length cvC)) := hA 5 (by decide)
            have e6 : vs 6 = .agg (four c (.slice As c.gs.length cs)) := hA 6 (by decide)
            clear hA
            refine Box.mk ?_
            try simp only [e4, e5, e6, allPut, puts, Act.put, List.setIfInBounds_toArray, List.set_cons_zero, List.set_cons_succ] at hK ⊢
            clear e4 e5 e6
            go_simp
            with_reducible refine (r_Same (.slice VC psC.length cvC) (.slice As c.gs.length cs) c c y (HFX.out.below hB) (HRX.out.below hB)).mono ?_
            rintro e w5 ⟨rfl, hb⟩
            rw [show decide (c = c) = true from decide_eq_true rfl]
            go_simp
            exact hK.out _ _ (below_on hB hb) (show (updv vs 7 _) 7 = .bool true from rfl) (fun j _ _ h => HKEEP.out vs y w5 hb j h) (fun _ h => h)
          refine EachAll.snoc (i := 6) (o := { dst := some 61, op := Op.load 25 (Operand.tmp 1), type := 25, pos := _, after := #[{ on := 4, ground := Ground.guard }], guard := some (4, true) }) (l := [0, 1, 2, 3, 4]) (A := fun vs => Act.put (Act.put (Act.put (Act.put (Act.put (_) (some 59) (vs 4)) (some 58) (vs 3)) (some 57) (vs 2)) (some 56) (vs 1)) (some 55) (vs 0)) ?_ rfl rfl (fun _ => rfl) ?_
          rotate_left
          · intro vs y hI hJ hA K hK
            have hB := hI
            clear hJ
            have e4 : vs 4 = .bool true := hA 4 (by decide)
            clear hA
            refine Box.mk ?_
            try simp only [e4, allPut, puts, Act.put, List.setIfInBounds_toArray, List.set_cons_zero, List.set_cons_succ] at hK ⊢
            obtain ⟨x0, x1, x2, x3⟩ := four_cells ((Mod.of_below hB []).whole HKX.out (by simp))
            go_simp
            exact hK.out _ _ hB (show (updv vs 6 _) 6 = .agg (four c (.slice As c.gs.length cs)) from rfl) (fun _ _ _ h => h) (fun _ h => h)
          refine EachAll.snoc (i := 5) (o := { dst := some 60, op := Op.load 25 (Operand.tmp 4), type := 25, pos := _, after := #[{ on := 4, ground := Ground.guard }], guard := some (4, true) }) (l := [0, 1, 2, 3, 4]) (A := fun vs => Act.put (Act.put (Act.put (Act.put (Act.put (_) (some 59) (vs 4)) (some 58) (vs 3)) (some 57) (vs 2)) (some 56) (vs 1)) (some 55) (vs 0)) ?_ rfl rfl (fun _ => rfl) ?_
          rotate_left
          · intro vs y hI hJ hA K hK
            have hB := hI
            clear hJ
            have e4 : vs 4 = .bool true := hA 4 (by decide)
            clear hA
            refine Box.mk ?_
            try simp only [e4, allPut, puts, Act.put, List.setIfInBounds_toArray, List.set_cons_zero, List.set_cons_succ] at hK ⊢
            obtain ⟨x0, x1, x2, x3⟩ := four_cells ((Mod.of_below hB []).whole HKC.out (by simp))
            go_simp
            exact hK.out _ _ hB (show (updv vs 5 _) 5 = .agg (four c (.slice VC psC.length cvC)) from rfl) (fun _ _ _ h => h) (fun _ h => h)
          refine EachAll.snoc (i := 4) (o := { dst := some 59, op := Op.move (Operand.tmp 58), type := 4, pos := _, after := #[{ on := 3, ground := Ground.data }, { on := 3, ground := Ground.chain }], guard := none }) (l := [0, 1, 2, 3]) (A := fun vs => Act.put (Act.put (Act.put (Act.put (_) (some 58) (vs 3)) (some 57) (vs 2)) (some 56) (vs 1)) (some 55) (vs 0)) ?_ rfl rfl (fun _ => rfl) ?_
          rotate_left
          · intro vs y hI hJ hA K hK
            have hB := hI
            clear hJ
            have e3 : vs 3 = .bool true := hA 3 (by decide)
            clear hA
            refine Box.mk ?_
            try simp only [e3, allPut, puts, Act.put, List.setIfInBounds_toArray, List.set_cons_zero, List.set_cons_succ] at hK ⊢
            go_simp
            exact hK.out _ _ hB (show (updv vs 4 _) 4 = .bool true from rfl) (fun _ _ _ h => h) (fun _ h => h)
          refine EachAll.snoc (i := 3) (o := { dst := some 58, op := Op.call { callee := Callee.value (Operand.func 19), args := #[Operand.tmp 55, Operand.tmp 57], argTypes := #[25, 25] }, type := 4, pos := _, after := #[{ on := 0, ground := Ground.data }, { on := 2, ground := Ground.data }, { on := 2, ground := Ground.chain }], guard := none }) (l := [0, 1, 2]) (A := fun vs => Act.put (Act.put (Act.put (_) (some 57) (vs 2)) (some 56) (vs 1)) (some 55) (vs 0)) ?_ rfl rfl (fun _ => rfl) ?_
          rotate_left
          · intro vs y hI hJ hA K hK
            have hB := hI
            clear hJ
            have e0 : vs 0 = .agg (four c (.slice VC psC.length cvC)) := hA 0 (by decide)
            have hF2 : ∃ A2 n2 c2 p2, vs 2 = .agg (four c (.slice A2 n2 c2)) ∧ OwnG y 0 (.slice A2 n2 c2) p2 ∧ p2.map Prod.fst = c.gs := hA 2 (by decide)
            obtain ⟨A2, n2, c2, p2, e2, hO2, hM2⟩ := hF2
            clear hA
            refine Box.mk ?_
            try simp only [e0, e2, allPut, puts, Act.put, List.setIfInBounds_toArray, List.set_cons_zero, List.set_cons_succ] at hK ⊢
            clear e0 e2
            go_simp
            with_reducible refine (b_Same (.slice VC psC.length cvC) (.slice A2 n2 c2) c c y (HFX.out.below hB) (fitB_own hO2 hM2 HI.out.1 HI.out.2.1 HI.out.2.2)).mono ?_
            rintro e w5 ⟨rfl, hb⟩
            rw [show decide (c = c) = true from decide_eq_true rfl]
            go_simp
            exact hK.out _ _ (below_on hB hb) (show (updv vs 3 _) 3 = .bool true from rfl) (fun j _ _ h => HKEEP.out vs y w5 hb j h) (fun _ h => h)
          refine EachAll.snoc (i := 2) (o := { dst := some 57, op := Op.call { callee := Callee.value (Operand.func 13), args := #[Operand.tmp 56], argTypes := #[25] }, type := 25, pos := _, after := #[{ on := 1, ground := Ground.data }], guard := none }) (l := [1]) (A := fun vs => Act.put (_) (some 56) (vs 1)) ?_ rfl rfl (fun _ => rfl) ?_
          rotate_left
          · intro vs y hI hJ hA K hK
            have hB := hI
            clear hJ
            have e1 : vs 1 = .agg (four c (.slice As c.gs.length cs)) := hA 1 (by decide)
            clear hA
            refine Box.mk ?_
            try simp only [e1, allPut, puts, Act.put, List.setIfInBounds_toArray, List.set_cons_zero, List.set_cons_succ] at hK ⊢
            clear e1
            go_simp
            with_reducible refine (r_own (.slice As c.gs.length cs) c y (HRX.out.below hB)).mono ?_
            rintro e w5 ⟨v5, p5, rfl, hm, ho, hb⟩
            obtain ⟨A5, c5, hv, _, _⟩ := own_shape ho.row
            subst hv
            go_simp
            exact hK.out _ _ (below_on hB hb) (show ∃ A2 n2 c2 p2, (updv vs 2 _) 2 = .agg (four c (.slice A2 n2 c2)) ∧ OwnG w5 0 (.slice A2 n2 c2) p2 ∧ p2.map Prod.fst = c.gs from ⟨A5, _, c5, p5, rfl, (ho.low (Nat.zero_le _)), hm⟩) (fun j _ _ h => HKEEP.out vs y w5 hb j h) (fun _ h => h)
          refine EachAll.snoc (i := 1) (o := { dst := some 56, op := Op.load 25 (Operand.tmp 1), type := 25, pos := _, after := #[], guard := none }) (l := []) (A := fun vs => _) ?_ rfl rfl (fun _ => rfl) ?_
          rotate_left
          · intro vs y hI hJ hA K hK
            have hB := hI
            clear hJ
            clear hA
            refine Box.mk ?_
            try simp only [allPut, puts, Act.put, List.setIfInBounds_toArray, List.set_cons_zero, List.set_cons_succ] at hK ⊢
            obtain ⟨x0, x1, x2, x3⟩ := four_cells ((Mod.of_below hB []).whole HKX.out (by simp))
            go_simp
            exact hK.out _ _ hB (show (updv vs 1 _) 1 = .agg (four c (.slice As c.gs.length cs)) from rfl) (fun _ _ _ h => h) (fun _ h => h)
          refine EachAll.snoc (i := 0) (o := { dst := some 55, op := Op.load 25 (Operand.tmp 4), type := 25, pos := _, after := #[], guard := none }) (l := []) (A := fun vs => _) ?_ rfl rfl (fun _ => rfl) ?_
          rotate_left
          · intro vs y hI hJ hA K hK
            have hB := hI
            clear hJ
            clear hA
            refine Box.mk ?_
            try simp only [allPut, puts, Act.put, List.setIfInBounds_toArray, List.set_cons_zero, List.set_cons_succ] at hK ⊢
            obtain ⟨x0, x1, x2, x3⟩ := four_cells ((Mod.of_below hB []).whole HKC.out (by simp))
            go_simp
            exact hK.out _ _ hB (show (updv vs 0 _) 0 = .agg (four c (.slice VC psC.length cvC)) from rfl) (fun _ _ _ h => h) (fun _ h => h)
          exact EachAll.nil
        · intro vs y hI hall
          have hB := hI
          have e0 : vs 0 = .agg (four c (.slice VC psC.length cvC)) := hall 0 (by decide)
          have e1 : vs 1 = .agg (four c (.slice As c.gs.length cs)) := hall 1 (by decide)
          have hF2 : ∃ A2 n2 c2 p2, vs 2 = .agg (four c (.slice A2 n2 c2)) ∧ OwnG y 0 (.slice A2 n2 c2) p2 ∧ p2.map Prod.fst = c.gs := hall 2 (by decide)
          obtain ⟨A2, n2, c2, p2, e2, hO2, hM2⟩ := hF2
          have e3 : vs 3 = .bool true := hall 3 (by decide)
          have e4 : vs 4 = .bool true := hall 4 (by decide)
          have e5 : vs 5 = .agg (four c (.slice VC psC.length cvC)) := hall 5 (by decide)
          have e6 : vs 6 = .agg (four c (.slice As c.gs.length cs)) := hall 6 (by decide)
          have e7 : vs 7 = .bool true := hall 7 (by decide)
          have e8 : vs 8 = .bool true := hall 8 (by decide)
          have e9 : vs 9 = .bool true := hall 9 (by decide)
          clear hall HKEEP
          refine Box.mk ?_
          simp only [e0, e1, e2, e3, e4, e5, e6, e7, e8, e9, allPut, puts, Act.put, List.setIfInBounds_toArray, List.set_cons_zero, List.set_cons_succ]
          have HBB := Lib.hid (below_on HBW.out hB)
          clear e0 e1 e2 e3 e4 e5 e6 e7 e8 e9 hO2 hM2 hB
          go_wp2_with fail
          go_ret
          exact ⟨rfl, HBB.out⟩

theorem own : ownKnob Try.prog.godebug = none := by kernel_rfl
theorem laidOut : laidOutB Try.prog = true := by kernel_rfl
set_option maxRecDepth 100000 in
theorem lifted (os : Os) (started : os.Started) (H : Type) (enc : TypeId × Value → H) :
    ReturnsInHanded {} Try.checked os 8 .any (Rows.bookDumpsSpec.pre6 enc Try.prog Try.f8 [] false) (Rows.bookDumpsSpec.post enc Try.prog Try.f8 false true false false) := by
  refine LK.lifted_bare (C := Try.checked) (tb := 4) own started (by kernel_rfl) Try.func8 laidOut rfl (by kernel_rfl) (by kernel_rfl) Try.underlying4
    (fun ds h => by
      match ds, h with
      | [_], _ => rfl)
    (ChangeSpec.witness6 (enc := enc) (C := Try.checked) false ⟨#[], #[.agg #[.int .i64 0, .int .i64 0, .int .i64 0, .slice none 0 0]], []⟩ 8 (by kernel_rfl) (by kernel_rfl) (by kernel_rfl) (by kernel_rfl)) ?_
  intro W base args ds ps hval hA hwt _
  rw [show Try.f8.params.toList = [25] by kernel_rfl] at hA hwt
  have hval' : ∀ (j : Nat) t v, (#[25] : Array TypeId)[j]? = some t → args[j]? = some v → Value.okWide Try.prog W .any base t v := by
    rw [← Try.params8]; exact hval
  clear hval
  obtain ⟨v0, d0, rfl, rfl, h0⟩ := trodAll_one hA
  obtain ⟨s0, b0, rfl, hR0⟩ := open_book (hval' 0 25 v0 rfl rfl) h0 hwt (j := 0) rfl rfl
  exact walk s0 b0 W hR0

/-- The statement. -/
theorem proved : Rows.BookDumpsSaid :=
  OpenClaim.holds_of_wide 8 Try.f8 rfl rfl rfl rfl rfl rfl rfl ⟨rfl, rfl, rfl, rfl, rfl⟩ rfl rfl rfl rfl rfl (by kernel_rfl) Try.func8 (by kernel_rfl)
    (of_decide_eq_true (by kernel_rfl)) (by unfold Func.isWrapper; first | (rw [if_pos (by decide +kernel)]; kernel_rfl) | (rw [if_neg (by decide +kernel)]; exact ⟨rfl, rfl⟩))
    (fun os started H enc _ => lifted os started H enc)

end Go.Proofs.Ytdegamlnkleddaa.lawBookDumps
