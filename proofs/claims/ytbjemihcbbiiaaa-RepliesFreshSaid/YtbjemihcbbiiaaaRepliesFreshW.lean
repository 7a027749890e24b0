/- The walk of RepliesFresh: it answers true, and old memory stands. -/
import Derived.Test.YtbjemihcbbiiaaaRows
import Derived.Test.YtbjemihcbbiiaaaRpAw
import Derived.Test.YtbjemihcbbiiaaaRpArg
import Derived.Test.YtbjemihcbbiiaaaLaw
import Derived.JoinedCond
import Derived.OpenShut
import Derived.Deep.CutBlock
namespace Go.Proofs.Ytbjemihcbbiiaaa.lawRepliesFresh
open Go Go.RowKit Go.ChangeShapes Go.WideShapes Go.ChangeAt
set_option linter.unusedVariables false
set_option linter.unusedSimpArgs false
open RP (Kp St Ad)
open WM (Msg)
set_option maxRecDepth 100000
def oth (f b q l f0 : Int) : Msg := ⟨1, f, f0, b, q, l, 3, ⟨#[]⟩, 0, 0, 5, false, 0, [], 0, 0⟩
theorem wide_oth {f b q l f0 : Int} (hf : In64 f) (hb : In64 b) (hq : In64 q) (hl : In64 l) (h0 : In64 f0) : Wide (oth f b q l f0) :=
  ⟨(show In64 1 by unfold In64; omega), hf, h0, hb, hq, hl, (show In64 3 by unfold In64; omega), (show In64 0 by unfold In64; omega), (show In64 0 by unfold In64; omega), (show In64 5 by unfold In64; omega), (show In64 0 by unfold In64; omega), (show In64 0 by unfold In64; omega), (show In64 0 by unfold In64; omega), (by intro x hx; cases hx), (show (ByteArray.mk #[]).size ≤ 140737488351232 by decide)⟩
theorem wide_frA {f d b q l : Int} (hw : RP.Who f d b) (hq : In64 q) (hl : In64 l) : Wide (RP.frA f d b q l) := by
  have h1 := hw.rf
  have h2 := hw.rd
  have h3 := hw.rb
  exact ⟨(show In64 1 by unfold In64; omega), (show In64 f by unfold In64; omega), (show In64 d by unfold In64; omega), (show In64 b by unfold In64; omega), hq, hl, (show In64 3 by unfold In64; omega), (show In64 0 by unfold In64; omega), (show In64 0 by unfold In64; omega), hq, (show In64 0 by unfold In64; omega), (show In64 0 by unfold In64; omega), (show In64 0 by unfold In64; omega), (by intro x hx; cases hx), (show (ByteArray.mk #[]).size ≤ 140737488351232 by decide)⟩
theorem wide_frR {f d b q : Int} (hw : RP.Who f d b) (hq : In64 q) : Wide (RP.frR f d b q) := by
  have h1 := hw.rf
  have h2 := hw.rd
  have h3 := hw.rb
  exact ⟨(show In64 2 by unfold In64; omega), (show In64 d by unfold In64; omega), (show In64 f by unfold In64; omega), (show In64 b by unfold In64; omega), hq, (show In64 0 by unfold In64; omega), (show In64 0 by unfold In64; omega), (show In64 0 by unfold In64; omega), (show In64 0 by unfold In64; omega), (show In64 0 by unfold In64; omega), (show In64 63 by unfold In64; omega), (show In64 0 by unfold In64; omega), (show In64 0 by unfold In64; omega), (by intro x hx; cases hx), (show (ByteArray.mk #[]).size ≤ 140737488351232 by decide)⟩
theorem blk_range {w : World} {p : Nat} {m : Msg} {A : Option Addr} {c : Nat} (h : MsgBlk w p m (.slice A m.stamp.length c)) : w.rangeAt p 0 (slotC m A c) := fun j v hv => by
  unfold slotC at hv
  rw [Array.getElem?_toList] at hv
  rw [Nat.zero_add, h.cell]
  exact hv
set_option maxHeartbeats 40000000 in
theorem walk (f0 b0 : Int) (A1 : Option Addr) (c1 : Nat) (ss : List Int) (A2 : Option Addr) (c2 : Nat) (ys : List Ad) (w : World) (hf0 : In64 f0) (hb0 : In64 b0)
    (hI : IntsAt w A1 ss) (hc1 : ss.length ≤ c1) (hm1 : c1 * 8 ≤ 140737488351232) (hl1 : ∀ x ∈ ss, -9223372036854775808 ≤ x ∧ x ≤ 9223372036854775807)
    (hO : AdsAt w A2 ys) (hc2 : ys.length ≤ c2) (hm2 : c2 * 32 ≤ 140737488351232) (hW : ∀ x ∈ ys, AdW x) :
    Calls Try.prog 6 #[.agg #[.int .i64 f0, .int .i64 b0], .slice A1 ss.length c1, .slice A2 ys.length c2] w (LK.True_ w) := by
  have HI := Lib.hid hI
  have HL1 := Lib.hid hl1
  have HO := Lib.hid hO
  have HW := Lib.hid hW
  obtain ⟨n, hn⟩ : ∃ n, ss.length = n := ⟨_, rfl⟩
  obtain ⟨m, hm⟩ : ∃ m, ys.length = m := ⟨_, rfl⟩
  have HN := Lib.hid hn
  have HM := Lib.hid hm
  have hn47 : n ≤ 140737488351232 := by omega
  have hm47 : m ≤ 140737488351232 := by omega
  have HC1 := Lib.hid (show n ≤ c1 by omega)
  have HC2 := Lib.hid (show m ≤ c2 by omega)
  have HF0 := Lib.hid hf0
  rw [hn, hm]
  clear hI hl1 hO hW hc1 hm1 hc2 hm2 hn hm hf0 hb0
  have HX := Lib.hid ((Below.refl w.heap.size w).alloc (Nat.le_refl _) (.cells #[.int .i64 f0, .int .i64 b0] 58))
  have HK := Lib.hid (Whole.new w 58 #[.int .i64 f0, .int .i64 b0])
  go_enter Try.func6, Try.ntmps6
  go_upto_region 1 with (fail)
  generalize w.alloc (.cells #[.int .i64 f0, .int .i64 b0] 58) = w0 at HX HK ⊢
  go_upto_region 3 with (
    go_at_call 9
    refine (awake_any w0).mono ?_
    rintro e w1 ⟨rfl, hb⟩
    replace HX := Lib.hid (below_on HX.out hb)
    replace HK := Lib.hid (blk_below HK.out hb)
    clear hb
    have k0 : w1.cell? ⟨w.heap.size, 0, none⟩ = some (.int .i64 f0) := HK.out.cell 0
    have k1 : w1.cell? ⟨w.heap.size, 1, none⟩ = some (.int .i64 b0) := HK.out.cell 1)
  go_cut [7, 8] from 24 to 27 (fun a b wx => a = .int .i64 f0 ∧ b = .int .i64 b0 ∧ Hid (Below w.heap.size w wx))
  case first =>
    as_aux_lemma =>
      go_quiet (fail)
      go_wp2_with fail
      go_meet
      have hb2 : ∀ n, Below w1.heap.size w1 (w1.drewN n) := fun n => Mod.below ((Mod.refl [] w1).drewN n) (Nat.le_refl _) (by simp)
      exact ⟨rfl, rfl, Lib.hid (below_on HX.out (hb2 _))⟩
  case rest =>
  clear k0 k1 HK HX
  obtain ⟨rfl, rfl, HX⟩ := hcut
  by_cases h1 : f0 < 0
  · as_aux_lemma =>
      go_wp2_with fail
      go_ret
      exact ⟨rfl, HX.out⟩
  by_cases h2 : 7 < f0
  · as_aux_lemma =>
      go_wp2_with fail
      go_ret
      exact ⟨rfl, HX.out⟩
  by_cases h3 : b0 < 1
  · as_aux_lemma =>
      go_wp2_with fail
      go_ret
      exact ⟨rfl, HX.out⟩
  by_cases h4 : 1099511627776 < b0
  · as_aux_lemma =>
      go_wp2_with fail
      go_ret
      exact ⟨rfl, HX.out⟩
  by_cases h5 : (300 : Int) < (n : Int)
  · as_aux_lemma =>
      go_wp2_with fail
      go_ret
      exact ⟨rfl, HX.out⟩
  have hn300 : n ≤ 300 := by omega
  go_upto_region 6 with (fail)
  obtain ⟨d, hd⟩ : ∃ d : Int, (f0 + 1) % 8 = d := ⟨_, rfl⟩
  have HWH := Lib.hid (show RP.Who f0 d b0 from ⟨by omega, by omega, by omega, by omega⟩)
  have HD := Lib.hid (show wrap64 (f0 + 1) = f0 + 1 ∧ (f0 + 1).tmod 8 = d ∧ wrap64 d = d from
    ⟨by unfold wrap64; omega, by rw [Int.tmod_eq_emod_of_nonneg (by omega)]; exact hd, by unfold wrap64; omega⟩)
  clear h1 h2 h3 h4 h5 hd
  go_upto_region 7 with (
    go_at_call 8
    refine (New_any wc).mono ?_
    rintro e w3 ⟨rfl, rfl⟩)
  have HR := Lib.hid (Rt.new HX.out)
  have HFR := Lib.hid (RP.Fr.zero (f := f0) (d := d) (b := b0))
  generalize wc.heap.size = g at HR ⊢
  generalize wc.alloc (.cells zrep.toArray 67) = w2 at HR ⊢
  clear HX
  go_wp2_with fail
  go_loopw [50, 10, 11] (fun iv lv nv wx => ∃ (k : Nat) (lo nx : Int) (s : St), iv = .int .i64 (k : Int) ∧ lv = .int .i64 lo ∧ nv = .int .i64 nx ∧ k ≤ n ∧ nx ≤ (k : Int) + 1 ∧ Hid (Rt w wx g s) ∧ Hid (RP.Fr s f0 d b0 lo nx)) (fun iv _ _ _ => n - (intOf iv).toNat)
  case atStart => exact ⟨0, 1, 1, _, rfl, rfl, rfl, Nat.zero_le _, by omega, HR, HFR⟩
  case round =>
    clear HR HFR
    obtain ⟨k, lo, nx, s, rfl, rfl, rfl, hk, hnk, HR, HFR⟩ := hrel
    by_cases hlt : k < n
    rotate_left
    · obtain rfl : k = n := by omega
      as_aux_lemma =>
        go_wp2_with fail
        go_ret
        exact ⟨rfl, HR.out.bel⟩
    have hw : IntKind.i64.wrap ((k : Int) + 1) = (k : Int) + 1 := IntWalk.i64_in _ (by omega)
    have d1 : (k : Int) < (n : Int) := by omega
    have d2 : (0 : Int) ≤ (k : Int) := by omega
    have hkn : k < ss.length := by rw [HN.out]; exact hlt
    obtain ⟨bs, os, hA, hbs, hxs⟩ := HI.out (by omega)
    subst hA
    have a0 : wr.cell? ⟨bs, os + k, none⟩ = some (.int .i64 (ss[k]'hkn)) := (HR.out.bel.cell hbs).trans (hxs k _ (List.getElem?_eq_getElem hkn))
    have HX0 := Lib.hid (HL1.out _ (List.getElem_mem hkn))
    generalize ss[k]'hkn = x at a0 HX0
    clear hxs hbs hkn
    go_upto_region 11 with (fail)
    clear a0
    -- BEGIN
    go_upto_if 58 with (fail)
    go_cut [14] from 58 to 78 (fun _ wx => ∃ s, Hid (Rt w wx g s) ∧ Hid (RP.Fr s f0 d b0 lo nx))
    case first =>
      by_cases hkm : (k : Int) < (m : Int)
      rotate_left
      · have d3 : decide ((k : Int) < (m : Int)) = false := decide_eq_false hkm
        as_aux_lemma =>
          go_wp2_with fail
          go_meet
          exact ⟨s, HR, HFR⟩
      have d3 : decide ((k : Int) < (m : Int)) = true := decide_eq_true hkm
      have hkm' : k < ys.length := by rw [HM.out]; omega
      obtain ⟨by_, oy, hA, hby, y0, y1, y2, y3⟩ := HO.out.four (List.getElem?_eq_getElem hkm')
      subst hA
      have HY := Lib.hid (HW.out _ (List.getElem_mem hkm'))
      generalize ys[k]'hkm' = y at y0 y1 y2 y3 HY
      have z0 := (HR.out.bel.cell (p := ⟨by_, oy + k * 4, none⟩) hby).trans y0
      have z1 := (HR.out.bel.cell (p := ⟨by_, oy + k * 4 + 1, none⟩) hby).trans y1
      have z2 := (HR.out.bel.cell (p := ⟨by_, oy + k * 4 + 2, none⟩) hby).trans y2
      have z3 := (HR.out.bel.cell (p := ⟨by_, oy + k * 4 + 3, none⟩) hby).trans y3
      clear y0 y1 y2 y3 hby hkm'
      have HR2 := Lib.hid (HR.out.alloc (.cells #[.int .i64 y.frm, .int .i64 y.boot, .int .i64 y.seq, .int .i64 y.low] 55))
      have HB := Lib.hid (Whole.new wr 55 #[.int .i64 y.frm, .int .i64 y.boot, .int .i64 y.seq, .int .i64 y.low])
      go_upto_region 13 with (fail)
      clear z0 z1 z2 z3 HR
      generalize wr.heap.size = p14 at HB ⊢
      generalize wr.alloc (.cells #[.int .i64 y.frm, .int .i64 y.boot, .int .i64 y.seq, .int .i64 y.low] 55) = w3 at HR2 HB ⊢
      have z0 : w3.cell? ⟨p14, 0, none⟩ = some (.int .i64 y.frm) := HB.out.cell 0
      have z1 : w3.cell? ⟨p14, 1, none⟩ = some (.int .i64 y.boot) := HB.out.cell 1
      have z2 : w3.cell? ⟨p14, 2, none⟩ = some (.int .i64 y.seq) := HB.out.cell 2
      have z3 : w3.cell? ⟨p14, 3, none⟩ = some (.int .i64 y.low) := HB.out.cell 3
      by_cases he : y.frm = f0
      · have e2 : (y.frm != f0) = false := by simp [he]
        clear he
        as_aux_lemma =>
          go_wp2_with fail
          go_meet
          exact ⟨s, HR2, HFR⟩
      · have e2 : (y.frm != f0) = true := by simp [he]
        have HE := Lib.hid he
        clear he
        go_wp2_with (
          go_at_call 13
          refine (Rt.seen HR2.out (oth y.frm y.boot y.seq y.low f0) (wide_oth HY.out.frm HY.out.boot HY.out.seq HY.out.low HF0.out) rfl).mono ?_
          rintro e w4 ⟨A4, c4, rfl, h, hm⟩
          generalize Value.tuple _ = v4
          clear hm)
        go_meet
        exact ⟨_, h, Lib.hid (HFR.out.other HWH.out.rf (m := oth y.frm y.boot y.seq y.low f0) HE.out)⟩
    case rest =>
    -- END
    clear HR HFR
    obtain ⟨s, HR, HFR⟩ := hcut
    have h1 := HFR.out.lo1
    have h2 := HFR.out.le
    have h3 := HFR.out.nx8
    -- BEGIN
    go_upto_region 15 with (fail)
    have hw8 : IntKind.i64.wrap (lo + 8) = lo + 8 := IntWalk.i64_in _ (by omega)
    have hwr : IntKind.i64.wrap (x.tmod 2) = x.tmod 2 := by
      have g1 := Int.lt_tmod_of_pos x (show (0 : Int) < 2 by decide)
      have g2 := Int.tmod_lt_of_pos x (show (0 : Int) < 2 by decide)
      exact IntWalk.i64_in _ (by omega)
    go_cut [87] from 79 to 87 (fun bv wx => ∃ B : Bool, bv = .bool B ∧ Hid (B = true → nx < lo + 8) ∧ Hid (Rt w wx g s))
    case first =>
      by_cases g1 : x.tmod 2 = 0
      · have e1 : (x.tmod 2 == 0) = true := by rw [g1]; rfl
        clear g1
        go_wp2_with fail
        go_meet
        exact ⟨_, rfl, Lib.hid (fun h => by simpa using h), HR⟩
      · have e1 : (x.tmod 2 == 0) = false := by simp [g1]
        clear g1
        go_wp2_with fail
        go_meet
        exact ⟨_, rfl, Lib.hid (fun h => by cases h), HR⟩
    case rest =>
    clear HR
    obtain ⟨B, rfl, HBB, HR⟩ := hcut
    go_upto_if 87 with (fail)
    go_cut [10, 11, 15, 16, 17, 18] from 87 to 124 (fun lv nv _ _ _ _ wx => ∃ (lo nx : Int) (s : St), lv = .int .i64 lo ∧ nv = .int .i64 nx ∧ nx ≤ (k : Int) + 2 ∧ Hid (Rt w wx g s) ∧ Hid (RP.Fr s f0 d b0 lo nx))
    case first =>
      have hwl : IntKind.i64.wrap (lo + 1) = lo + 1 := IntWalk.i64_in _ (by omega)
      have hwn : IntKind.i64.wrap (nx + 1) = nx + 1 := IntWalk.i64_in _ (by omega)
      cases B
      rotate_left
      · have g2 := HBB.out rfl
        obtain ⟨D1, D2, D3⟩ := HD.out
        have HT := Lib.hid (HFR.out.told HWH.out h2 (Int.le_refl _) g2)
        have hI1 : In64 nx := by unfold In64; omega
        have hI2 : In64 lo := by unfold In64; omega
        have HKP := Lib.hid (HT.out.fr.keep HWH.out g2 (by omega))
        have HV := Lib.hid (HT.out.new rfl)
        have HWA := Lib.hid (wide_frA HWH.out hI1 hI2)
        have HWR := Lib.hid (wide_frR HWH.out hI1)
        clear hI1 hI2
        have HR3 := Lib.hid (HR.out.alloc (.cells #[.int .i64 1, .int .i64 f0, .int .i64 d, .int .i64 b0, .int .i64 nx, .int .i64 lo, .int .i64 3, .string ⟨#[]⟩, .int .i64 0, .int .i64 0, .int .i64 nx, .bool false, .int .i64 0, .slice none 0 0, .int .i64 0, .int .i64 0] 32))
        have HM := Lib.hid (show MsgBlk (wc.alloc (.cells #[.int .i64 1, .int .i64 f0, .int .i64 d, .int .i64 b0, .int .i64 nx, .int .i64 lo, .int .i64 3, .string ⟨#[]⟩, .int .i64 0, .int .i64 0, .int .i64 nx, .bool false, .int .i64 0, .slice none 0 0, .int .i64 0, .int .i64 0] 32)) wc.heap.size (RP.frA f0 d b0 nx lo) (.slice none 0 0) from Whole.new wc 32 _)
        have HP := Lib.hid (show wc.heap.size ≠ g by have := HR.out.at_.ltS; omega)
        go_upto_region 17 with (fail)
        clear HR D1 D2 D3
        generalize wc.alloc (.cells #[.int .i64 1, .int .i64 f0, .int .i64 d, .int .i64 b0, .int .i64 nx, .int .i64 lo, .int .i64 3, .string ⟨#[]⟩, .int .i64 0, .int .i64 0, .int .i64 nx, .bool false, .int .i64 0, .slice none 0 0, .int .i64 0, .int .i64 0] 32) = w4 at HR3 HM ⊢
        generalize wc.heap.size = p15 at HM HP ⊢
        have m2 : w4.cell? ⟨p15, 2, none⟩ = some (.int .i64 d) := HM.out.cell 2
        have HR4 := Lib.hid (HR3.out.alloc (.cells #[.int .i64 2, .int .i64 d, .int .i64 f0, .int .i64 b0, .int .i64 nx, .int .i64 0, .int .i64 0, .string ⟨#[]⟩, .int .i64 0, .int .i64 0, .int .i64 0, .bool false, .int .i64 63, .slice none 0 0, .int .i64 0, .int .i64 0] 32))
        have HM4 := Lib.hid (HM.out.alloc (.cells #[.int .i64 2, .int .i64 d, .int .i64 f0, .int .i64 b0, .int .i64 nx, .int .i64 0, .int .i64 0, .string ⟨#[]⟩, .int .i64 0, .int .i64 0, .int .i64 0, .bool false, .int .i64 63, .slice none 0 0, .int .i64 0, .int .i64 0] 32))
        have HA := Lib.hid (show MsgBlk (w4.alloc (.cells #[.int .i64 2, .int .i64 d, .int .i64 f0, .int .i64 b0, .int .i64 nx, .int .i64 0, .int .i64 0, .string ⟨#[]⟩, .int .i64 0, .int .i64 0, .int .i64 0, .bool false, .int .i64 63, .slice none 0 0, .int .i64 0, .int .i64 0] 32)) w4.heap.size (RP.frR f0 d b0 nx) (.slice none 0 0) from Whole.new w4 32 _)
        have HP6 := Lib.hid (show w4.heap.size ≠ g by have := HR3.out.at_.ltS; omega)
        go_upto_region 18 with (fail)
        clear m2 HR3 HM
        generalize w4.alloc (.cells #[.int .i64 2, .int .i64 d, .int .i64 f0, .int .i64 b0, .int .i64 nx, .int .i64 0, .int .i64 0, .string ⟨#[]⟩, .int .i64 0, .int .i64 0, .int .i64 0, .bool false, .int .i64 63, .slice none 0 0, .int .i64 0, .int .i64 0] 32) = w5 at HR4 HM4 HA ⊢
        generalize w4.heap.size = p16 at HA HP6 ⊢
        go_cut [17, 18] from 103 to 108 (fun v _ wx => v = .int .i64 3 ∧ Hid (Rt w wx g (RP.seenSt s (RP.frA f0 d b0 nx lo))) ∧ Hid (MsgBlk wx p15 (RP.frA f0 d b0 nx lo) (.slice none 0 0)) ∧ Hid (MsgBlk wx p16 (RP.frR f0 d b0 nx) (.slice none 0 0)))
        case first =>
          as_aux_lemma =>
            have HL := Lib.hid (blk_range HM4.out)
            go_wp2_with (first
              | (refine wpList_load_mid rfl 32 (.tmp 15) rfl p15 0 rfl (slotC (RP.frA f0 d b0 nx lo) none 0) _ HL.out Try.underlying32 rfl (by kernel_rfl) ?_)
              | (go_at_call 13
                 refine (Rt.seen HR4.out (RP.frA f0 d b0 nx lo) HWA.out rfl).mono ?_
                 rintro e w6 ⟨A4, c4, rfl, h, hm⟩
                 have HM6 := Lib.hid (hm.out.whole HM4.out (by simp; exact HP.out))
                 have HA6 := Lib.hid (hm.out.whole HA.out (by simp; exact HP6.out))
                 clear hm HR4 HM4 HA HL
                 rw [HV.out.1, HV.out.2]
                 unfold cellsM WM.zero))
            go_meet
            exact ⟨rfl, Lib.hid (h.out.alloc _), Lib.hid (HM6.out.alloc _), Lib.hid (HA6.out.alloc _)⟩
        case rest =>
        clear HR4 HM4 HA
        obtain ⟨rfl, HR, HM, HA⟩ := hcut
        go_upto_region 19 with (fail)
        go_cut [117] from 109 to 117 (fun bv wx => bv = .bool false ∧ Hid (Rt w wx g (RP.keepSt (RP.seenSt s (RP.frA f0 d b0 nx lo)) (RP.frA f0 d b0 nx lo) (RP.frR f0 d b0 nx))))
        case first =>
          as_aux_lemma =>
            obtain ⟨x0, x1, x2, x3, x4, x5, x6, x7, x8, x9, x10, x11, x12, x13, x14, x15⟩ := msg_cells HM.out
            obtain ⟨v0, v1, v2, v3, v4, v5, v6, v7, v8, v9, v10, v11, v12, v13, v14, v15⟩ := msg_cells HA.out
            go_wp2_with (first
              | (go_at_call 10
                 refine (Rt.keep HR.out (RP.frA f0 d b0 nx lo) (RP.frR f0 d b0 nx) HWA.out rfl HWR.out rfl).mono ?_
                 rintro e w6 ⟨rfl, h⟩
                 clear HR HM HA x0 x1 x2 x3 x4 x5 x6 x7 x8 x9 x10 x11 x12 x13 x14 x15 v0 v1 v2 v3 v4 v5 v6 v7 v8 v9 v10 v11 v12 v13 v14 v15
                 rw [HKP.out.1]))
            go_meet
            exact ⟨rfl, h⟩
        case rest =>
        clear HR HM HA
        obtain ⟨rfl, HR⟩ := hcut
        go_wp2_with fail
        go_meet
        exact ⟨lo, nx + 1, _, rfl, rfl, by omega, HR, Lib.hid HKP.out.2⟩
      · by_cases hlo : lo < nx
        · have HB := Lib.hid (HFR.out.bump hlo)
          go_wp2_with fail
          go_meet
          exact ⟨lo + 1, nx, s, rfl, rfl, by omega, HR, HB⟩
        · go_wp2_with fail
          go_meet
          exact ⟨lo, nx, s, rfl, rfl, by omega, HR, HFR⟩
    case rest =>
    -- END
    clear HR HFR HBB h1 h2 h3 hw8 hwr
    obtain ⟨lo, nx, s, rfl, rfl, hnx, HR, HFR⟩ := hcut
    have h1 := HFR.out.lo1
    have h2 := HFR.out.le
    have h3 := HFR.out.nx8
    obtain ⟨D1, D2, D3⟩ := HD.out
    go_wp2_with fail
    go_loopw [19] (fun qv wx => ∃ (q : Int) (s : St), qv = .int .i64 q ∧ lo ≤ q ∧ q ≤ nx ∧ Hid (Rt w wx g s) ∧ Hid (RP.Fr s f0 d b0 lo nx) ∧ Hid (lo < q → RP.Hot (RP.cl s f0) f0 d b0 lo nx ∧ (RP.cl s f0).low = lo)) (fun qv _ => (nx - intOf qv).toNat)
    case atStart => exact ⟨lo, s, rfl, Int.le_refl _, h2, HR, HFR, Lib.hid (fun h => absurd h (by omega))⟩
    case round =>
      clear HR HFR
      obtain ⟨q, s, rfl, hq1, hq2, HR, HFR, HHT⟩ := hrel
      by_cases hqn : q < nx
      · have hwq : IntKind.i64.wrap (q + 1) = q + 1 := IntWalk.i64_in _ (by omega)
        have HT := Lib.hid (HFR.out.told HWH.out hq1 hq2 (by omega))
        have HV := Lib.hid (HT.out.old hqn)
        have HWA := Lib.hid (wide_frA HWH.out (show In64 q by unfold In64; omega) (show In64 lo by unfold In64; omega))
        clear HHT
        go_wp2_with (
          go_at_call 13
          refine (Rt.seen HR.out (RP.frA f0 d b0 q lo) HWA.out rfl).mono ?_
          rintro e w6 ⟨A4, c4, rfl, h, hm⟩
          clear hm HR
          rw [HV.out.1, HV.out.2]
          unfold cellsM RP.frR)
        go_roundw
        case rel => exact ⟨q + 1, _, rfl, by omega, by omega, Lib.hid (h.out.alloc _), Lib.hid HT.out.fr, Lib.hid (fun _ => ⟨HT.out.hot, HT.out.low⟩)⟩
        case measure => simp [intOf]; omega
      · obtain rfl : q = nx := by omega
        by_cases hlo : lo < q
        · have HLN := Lib.hid (RP.len_hot (HHT.out hlo).1 HFR.out.ok (HHT.out hlo).2 h1 h2 h3 HWH.out)
          have hws : IntKind.i64.wrap (q - lo) = q - lo := IntWalk.i64_in _ (by omega)
          go_wp2_with fail
          refine (Rt.len HR.out f0).mono ?_
          rintro e w6 ⟨rfl, h⟩
          replace HR := h
          clear h
          rw [HLN.out]
          go_wp2_with fail
          go_roundw
          case rel => exact ⟨k + 1, lo, q, s, rfl, rfl, rfl, by omega, by omega, HR, HFR⟩
          case measure => simp [intOf]; omega
        · go_wp2_with fail
          go_roundw
          case rel => exact ⟨k + 1, lo, q, s, rfl, rfl, rfl, by omega, by omega, HR, HFR⟩
          case measure => simp [intOf]; omega

end Go.Proofs.Ytbjemihcbbiiaaa.lawRepliesFresh
