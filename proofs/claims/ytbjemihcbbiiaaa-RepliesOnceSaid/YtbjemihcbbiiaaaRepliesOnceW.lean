/- The walk of RepliesOnce: it answers true, and old memory stands. -/
import Derived.Test.YtbjemihcbbiiaaaRows
import Derived.Test.YtbjemihcbbiiaaaRpOnce
import Derived.Test.YtbjemihcbbiiaaaLaw
import Derived.JoinedCond
import Derived.OpenShut
import Derived.Deep.CutBlock
namespace Go.Proofs.Ytbjemihcbbiiaaa.lawRepliesOnce
open Go Go.RowKit Go.ChangeShapes Go.WideShapes Go.ChangeAt
set_option linter.unusedVariables false
set_option linter.unusedSimpArgs false
open RP (Kp St Ad)
open WM (Msg)
set_option maxRecDepth 100000
set_option maxHeartbeats 40000000 in
theorem walk (A1 : Option Addr) (c1 : Nat) (ys : List Ad) (w : World) (hO : AdsAt w A1 ys) (hc1 : ys.length ≤ c1) (hm1 : c1 * 32 ≤ 140737488351232) (hW : ∀ x ∈ ys, AdW x) :
    Calls Try.prog 5 #[.slice A1 ys.length c1] w (LK.True_ w) := by
  have HO := Lib.hid hO
  have HW := Lib.hid hW
  obtain ⟨n, hn⟩ : ∃ n, ys.length = n := ⟨_, rfl⟩
  have HN := Lib.hid hn
  have hn47 : n ≤ 140737488351232 := by omega
  have HC1 := Lib.hid (show n ≤ c1 by omega)
  rw [hn]
  clear hO hW hc1 hm1 hn
  go_enter Try.func5, Try.ntmps5
  go_upto_region 3 with (
    go_at_call 9
    refine (awake_any w).mono ?_
    rintro e w1 ⟨rfl, hb⟩
    have HX := Lib.hid hb
    clear hb)
  go_upto_region 4 with (
    go_at_call 8
    refine (New_any w1).mono ?_
    rintro e w3 ⟨rfl, rfl⟩)
  have HR := Lib.hid (Ro.start (Rt.new HX.out))
  have HON := Lib.hid RP.On.zero
  generalize w1.heap.size = g at HR ⊢
  generalize w1.alloc (.cells zrep.toArray 67) = w2 at HR ⊢
  clear HX
  go_wp2_with fail
  go_loopw [19, 4] (fun iv dv wx => ∃ (k : Nat) (s : St) (l : List Ad), iv = .int .i64 (k : Int) ∧ k ≤ n ∧ k ≤ 301 ∧ l.length ≤ k ∧ Hid (Ro w wx g s dv l) ∧ Hid (RP.On s l)) (fun iv _ _ => n - (intOf iv).toNat)
  case atStart => exact ⟨0, _, [], rfl, Nat.zero_le _, by omega, Nat.le_refl _, HR, HON⟩
  case round =>
    clear HR HON
    obtain ⟨k, s, l, rfl, hk, hk3, hlk, HR, HON⟩ := hrel
    by_cases hlt : k < n
    rotate_left
    · obtain rfl : k = n := by omega
      go_wp2_with fail
      go_ret
      exact ⟨rfl, HR.out.rt.bel⟩
    have hw : IntKind.i64.wrap ((k : Int) + 1) = (k : Int) + 1 := IntWalk.i64_in _ (by omega)
    have d1 : (k : Int) < (n : Int) := by omega
    have d2 : (0 : Int) ≤ (k : Int) := by omega
    have hkn : k < ys.length := by rw [HN.out]; exact hlt
    obtain ⟨by_, oy, hA, hby, y0, y1, y2, y3⟩ := HO.out.four (List.getElem?_eq_getElem hkn)
    subst hA
    have HY := Lib.hid (HW.out _ (List.getElem_mem hkn))
    generalize ys[k]'hkn = x at y0 y1 y2 y3 HY
    have z0 := (HR.out.rt.bel.cell (p := ⟨by_, oy + k * 4, none⟩) hby).trans y0
    have z1 := (HR.out.rt.bel.cell (p := ⟨by_, oy + k * 4 + 1, none⟩) hby).trans y1
    have z2 := (HR.out.rt.bel.cell (p := ⟨by_, oy + k * 4 + 2, none⟩) hby).trans y2
    have z3 := (HR.out.rt.bel.cell (p := ⟨by_, oy + k * 4 + 3, none⟩) hby).trans y3
    clear y0 y1 y2 y3 hby hkn
    obtain ⟨Aq, cd, hdv, hcd1, hcd2⟩ := own_shape HR.out.row
    subst hdv
    have HCD := Lib.hid (And.intro hcd1 hcd2)
    clear hcd1 hcd2
    have HR2 := Lib.hid (HR.out.alloc (.cells #[.int .i64 x.frm, .int .i64 x.boot, .int .i64 x.seq, .int .i64 x.low] 55))
    have HB := Lib.hid (Whole.new wr 55 #[.int .i64 x.frm, .int .i64 x.boot, .int .i64 x.seq, .int .i64 x.low])
    have HP := Lib.hid (show wr.heap.size ≠ g by have := HR.out.rt.at_.ltS; omega)
    have HPB := Lib.hid (show ∀ ad, Aq = some ad → ad.block ≠ wr.heap.size from fun ad e => by have := (HR.out.row.lt ad.block (by rw [e]; rfl)).2; omega)
    go_upto_region 8 with (fail)
    clear z0 z1 z2 z3 HR
    generalize wr.heap.size = p6 at HB HP HPB ⊢
    generalize wr.alloc (.cells #[.int .i64 x.frm, .int .i64 x.boot, .int .i64 x.seq, .int .i64 x.low] 55) = w3 at HR2 HB ⊢
    by_cases h300 : (300 : Int) < (k : Int)
    · go_wp2_with fail
      go_ret
      exact ⟨rfl, HR2.out.rt.bel⟩
    have hk300 : k ≤ 300 := by omega
    clear hk3
    go_upto_region 9 with (fail)
    go_cut [7] from 24 to 39 (fun p wx => ∃ p7, p = .pointer (some ⟨p7, 0, none⟩) ∧ Hid (p7 ≠ g) ∧ Hid (Ro w wx g s (.slice Aq l.length cd) l) ∧ Hid (Whole wx p6 55 #[.int .i64 x.frm, .int .i64 x.boot, .int .i64 x.seq, .int .i64 x.low]) ∧ Hid (MsgBlk wx p7 (RP.onA x) (.slice none 0 0)))
    case first =>
      have z0 : w3.cell? ⟨p6, 0, none⟩ = some (.int .i64 x.frm) := HB.out.cell 0
      have z1 : w3.cell? ⟨p6, 1, none⟩ = some (.int .i64 x.boot) := HB.out.cell 1
      have z2 : w3.cell? ⟨p6, 2, none⟩ = some (.int .i64 x.seq) := HB.out.cell 2
      have z3 : w3.cell? ⟨p6, 3, none⟩ = some (.int .i64 x.low) := HB.out.cell 3
      obtain ⟨t, ht⟩ : ∃ t : Int, RP.dd x.frm = t := ⟨_, rfl⟩
      have D1 : wrap64 (x.frm.tmod 8 + 9) = x.frm.tmod 8 + 9 := by have := RP.tmod8 x.frm; unfold wrap64; omega
      have D2 : (x.frm.tmod 8 + 9).tmod 8 = t := ht
      have HM4 := Lib.hid (show MsgBlk (w3.alloc (.cells #[.int .i64 1, .int .i64 x.frm, .int .i64 t, .int .i64 x.boot, .int .i64 x.seq, .int .i64 x.low, .int .i64 3, .string ⟨#[]⟩, .int .i64 0, .int .i64 0, .int .i64 5, .bool false, .int .i64 0, .slice none 0 0, .int .i64 0, .int .i64 0] 32)) w3.heap.size (RP.onA x) (.slice none 0 0) from by
        have h := Whole.new w3 32 #[.int .i64 1, .int .i64 x.frm, .int .i64 t, .int .i64 x.boot, .int .i64 x.seq, .int .i64 x.low, .int .i64 3, .string ⟨#[]⟩, .int .i64 0, .int .i64 0, .int .i64 5, .bool false, .int .i64 0, .slice none 0 0, .int .i64 0, .int .i64 0]
        rw [← ht] at h
        rw [← ht]
        exact h)
      have HP7 := Lib.hid (show w3.heap.size ≠ g by have := HR2.out.rt.at_.ltS; omega)
      clear ht
      go_wp2_with fail
      go_meet
      exact ⟨_, rfl, HP7, Lib.hid (HR2.out.alloc _), Lib.hid (HB.out.alloc _), HM4⟩
    case rest =>
    clear HR2 HB
    obtain ⟨p7, rfl, HP7, HR, HB, HM⟩ := hcut
    go_upto_region 10 with (fail)
    go_cut [8] from 40 to 53 (fun p wx => ∃ p8 pi, p = .pointer (some ⟨p8, 0, none⟩) ∧ Hid (p8 ≠ g ∧ pi ≠ g) ∧ Hid (Ro w wx g s (.slice Aq l.length cd) l) ∧ Hid (Whole wx p6 55 #[.int .i64 x.frm, .int .i64 x.boot, .int .i64 x.seq, .int .i64 x.low]) ∧ Hid (MsgBlk wx p7 (RP.onA x) (.slice none 0 0)) ∧ Hid (MsgBlk wx p8 (RP.onR x.frm x.boot x.seq (k : Int)) (.slice (some ⟨pi, 0, none⟩) (RP.onR x.frm x.boot x.seq (k : Int)).stamp.length 1)) ∧ Hid (Whole wx pi 3 #[.int .i64 ((k : Int) + 1)]))
    case first =>
      obtain ⟨w4, hw4⟩ : ∃ y, y = wc := ⟨_, rfl⟩
      subst hw4
      have z1 : w4.cell? ⟨p6, 1, none⟩ = some (.int .i64 x.boot) := HB.out.cell 1
      have z2 : w4.cell? ⟨p6, 2, none⟩ = some (.int .i64 x.seq) := HB.out.cell 2
      have m1 : w4.cell? ⟨p7, 1, none⟩ = some (.int .i64 x.frm) := HM.out.cell 1
      obtain ⟨t, ht⟩ : ∃ t : Int, RP.dd x.frm = t := ⟨_, rfl⟩
      have m2 : w4.cell? ⟨p7, 2, none⟩ = some (.int .i64 t) := by rw [← ht]; exact HM.out.cell 2
      have HR5 := Lib.hid ((HR.out.alloc (.cells #[.int .i64 ((k : Int) + 1)] 3)).alloc (.cells #[.int .i64 2, .int .i64 t, .int .i64 x.frm, .int .i64 x.boot, .int .i64 x.seq, .int .i64 0, .int .i64 0, .string ⟨#[]⟩, .int .i64 0, .int .i64 9, .int .i64 ((k : Int) + 1), .bool false, .int .i64 0, .slice (some ⟨w4.heap.size, 0, none⟩) 1 1, .int .i64 0, .int .i64 0] 32))
      have HB5 := Lib.hid ((HB.out.alloc (.cells #[.int .i64 ((k : Int) + 1)] 3)).alloc (.cells #[.int .i64 2, .int .i64 t, .int .i64 x.frm, .int .i64 x.boot, .int .i64 x.seq, .int .i64 0, .int .i64 0, .string ⟨#[]⟩, .int .i64 0, .int .i64 9, .int .i64 ((k : Int) + 1), .bool false, .int .i64 0, .slice (some ⟨w4.heap.size, 0, none⟩) 1 1, .int .i64 0, .int .i64 0] 32))
      have HM5 := Lib.hid (Whole.alloc (Whole.alloc HM.out (.cells #[.int .i64 ((k : Int) + 1)] 3)) (.cells #[.int .i64 2, .int .i64 t, .int .i64 x.frm, .int .i64 x.boot, .int .i64 x.seq, .int .i64 0, .int .i64 0, .string ⟨#[]⟩, .int .i64 0, .int .i64 9, .int .i64 ((k : Int) + 1), .bool false, .int .i64 0, .slice (some ⟨w4.heap.size, 0, none⟩) 1 1, .int .i64 0, .int .i64 0] 32))
      have HI5 := Lib.hid ((Whole.new w4 3 #[.int .i64 ((k : Int) + 1)]).alloc (.cells #[.int .i64 2, .int .i64 t, .int .i64 x.frm, .int .i64 x.boot, .int .i64 x.seq, .int .i64 0, .int .i64 0, .string ⟨#[]⟩, .int .i64 0, .int .i64 9, .int .i64 ((k : Int) + 1), .bool false, .int .i64 0, .slice (some ⟨w4.heap.size, 0, none⟩) 1 1, .int .i64 0, .int .i64 0] 32))
      have HN5 := Lib.hid (show MsgBlk ((w4.alloc (.cells #[.int .i64 ((k : Int) + 1)] 3)).alloc (.cells #[.int .i64 2, .int .i64 t, .int .i64 x.frm, .int .i64 x.boot, .int .i64 x.seq, .int .i64 0, .int .i64 0, .string ⟨#[]⟩, .int .i64 0, .int .i64 9, .int .i64 ((k : Int) + 1), .bool false, .int .i64 0, .slice (some ⟨w4.heap.size, 0, none⟩) 1 1, .int .i64 0, .int .i64 0] 32)) (w4.heap.size + 1) (RP.onR x.frm x.boot x.seq (k : Int)) (.slice (some ⟨w4.heap.size, 0, none⟩) (RP.onR x.frm x.boot x.seq (k : Int)).stamp.length 1) from by
        have h := Whole.new (w4.alloc (.cells #[.int .i64 ((k : Int) + 1)] 3)) 32 #[.int .i64 2, .int .i64 t, .int .i64 x.frm, .int .i64 x.boot, .int .i64 x.seq, .int .i64 0, .int .i64 0, .string ⟨#[]⟩, .int .i64 0, .int .i64 9, .int .i64 ((k : Int) + 1), .bool false, .int .i64 0, .slice (some ⟨w4.heap.size, 0, none⟩) 1 1, .int .i64 0, .int .i64 0]
        have e : (w4.alloc (.cells #[.int .i64 ((k : Int) + 1)] 3)).heap.size = w4.heap.size + 1 := by simp
        rw [e] at h
        rw [← ht] at h
        rw [← ht]
        exact h)
      have HP8 := Lib.hid (show w4.heap.size + 1 ≠ g ∧ w4.heap.size ≠ g by have := HR.out.rt.at_.ltS; omega)
      clear ht
      go_wp2_with fail
      go_meet
      exact ⟨_, _, rfl, HP8, HR5, HB5, HM5, HN5, HI5⟩
    case rest =>
    clear HR HB HM
    obtain ⟨p8, pi, rfl, HP8, HR, HB, HM, HN8, HI⟩ := hcut
    go_upto_region 11 with (fail)
    have HWA := Lib.hid (wide_onA HY.out)
    go_cut [9, 10] from 54 to 59 (fun vv p wx => vv = .int .i64 (RP.verdict s (RP.onA x)) ∧ ∃ b A c, p = .pointer (some ⟨b, 0, none⟩) ∧ Hid (b ≠ g) ∧ Hid (MsgBlk wx b (RP.answer s (RP.onA x)) (.slice A (RP.answer s (RP.onA x)).stamp.length c)) ∧ Hid (Fit wx A c (RP.answer s (RP.onA x))) ∧ Hid (Ro w wx g (RP.seenSt s (RP.onA x)) (.slice Aq l.length cd) l) ∧ Hid (Whole wx p6 55 #[.int .i64 x.frm, .int .i64 x.boot, .int .i64 x.seq, .int .i64 x.low]) ∧ Hid (MsgBlk wx p7 (RP.onA x) (.slice none 0 0)) ∧ Hid (MsgBlk wx p8 (RP.onR x.frm x.boot x.seq (k : Int)) (.slice (some ⟨pi, 0, none⟩) (RP.onR x.frm x.boot x.seq (k : Int)).stamp.length 1)) ∧ Hid (Whole wx pi 3 #[.int .i64 ((k : Int) + 1)]))
    case first =>
      have HL := Lib.hid (blk_range HM.out)
      go_wp2_with (first
        | (refine wpList_load_mid rfl 32 (.tmp 7) rfl p7 0 rfl (slotC (RP.onA x) none 0) _ HL.out Try.underlying32 rfl (by kernel_rfl) ?_)
        | (go_at_call 13
           refine (Ro.seen HR.out (RP.onA x) HWA.out rfl).mono ?_
           rintro e w6 ⟨A4, c4, rfl, HF6, HR6, hm⟩
           have HB6 := Lib.hid (hm.out.whole HB.out (by simp; exact HP.out))
           have HM6 := Lib.hid (hm.out.whole HM.out (by simp; exact HP7.out))
           have HN6 := Lib.hid (hm.out.whole HN8.out (by simp; exact HP8.out.1))
           have HI6 := Lib.hid (hm.out.whole HI.out (by simp; exact HP8.out.2))
           clear hm HR HB HM HN8 HI HL
           obtain ⟨an, han⟩ : ∃ y, y = RP.answer s (RP.onA x) := ⟨_, rfl⟩
           obtain ⟨vd, hvd⟩ : ∃ y, y = RP.verdict s (RP.onA x) := ⟨_, rfl⟩
           rw [← han] at HF6
           rw [← han, ← hvd]
           have HAN := Lib.hid han
           have HVD := Lib.hid hvd
           clear han hvd
           unfold cellsM))
      go_meet
      have han := HAN.out
      have hvd := HVD.out
      rw [← han, ← hvd]
      have HX7 := (Below.refl w6.heap.size w6).alloc (Nat.le_refl _) (.cells (cellsM an (.slice A4 an.stamp.length c4)) 32)
      exact ⟨rfl, _, A4, c4, rfl, Lib.hid (by have := HR6.out.rt.at_.ltS; omega), Lib.hid (Whole.new w6 _ _), Lib.hid (HF6.out.below HX7), Lib.hid (HR6.out.alloc _), Lib.hid (HB6.out.alloc _), Lib.hid (HM6.out.alloc _), Lib.hid (HN6.out.alloc _), Lib.hid (HI6.out.alloc _)⟩
    case rest =>
    clear HR HB HM HN8 HI
    obtain ⟨rfl, p10, A10, c10, rfl, HP10, HA, HFA, HR, HB, HM, HN8, HI⟩ := hcut
    have HON2 := Lib.hid (HON.out.seen (RP.onA x))
    have HCD2 := Lib.hid (show l.length ≤ cd ∧ cd ≤ 9223372036854775807 from HCD.out)
    obtain ⟨wB, hwB⟩ : ∃ y, y = wc := ⟨_, rfl⟩
    subst hwB
    have HBB := Lib.hid (Below.refl wB.heap.size wB)
    have HADS := Lib.hid (AdsAt.own HR.out.row)
    obtain ⟨L, hL⟩ : ∃ y, y = l.length := ⟨_, rfl⟩
    rw [← hL]
    have HLL := Lib.hid hL
    have hL1 : L ≤ 301 := by omega
    have HLK := Lib.hid (show L ≤ k by omega)
    clear hL hlk
    go_wp2_with fail
    go_loopw [62, 11] (fun jv av wx => ∃ j : Nat, jv = .int .i64 (j : Int) ∧ av = .int .i64 (RP.atk l x j) ∧ j ≤ L ∧ Hid (Below wB.heap.size wB wx)) (fun jv _ _ => L - (intOf jv).toNat)
    case atStart => exact ⟨0, rfl, rfl, Nat.zero_le _, HBB⟩
    case round =>
      clear HBB
      obtain ⟨j, rfl, rfl, hj, HBB⟩ := hrel
      by_cases hjl : j < L
      · -- BEGIN
        have hwj : IntKind.i64.wrap ((j : Int) + 1) = (j : Int) + 1 := IntWalk.i64_in _ (by omega)
        have e1 : (j : Int) < (L : Int) := by omega
        have e2 : (0 : Int) ≤ (j : Int) := by omega
        have hjl2 : j < l.length := by rw [← HLL.out]; exact hjl
        obtain ⟨bd, od, hA, hbd, q0, q1, q2, q3⟩ := HADS.out.four (List.getElem?_eq_getElem hjl2)
        subst hA
        have HJ := Lib.hid (show l[j]? = some (l[j]'hjl2) from List.getElem?_eq_getElem hjl2)
        generalize l[j]'hjl2 = y at q0 q1 q2 q3 HJ
        have r0 := (HBB.out.cell (p := ⟨bd, od + j * 4, none⟩) hbd).trans q0
        have r1 := (HBB.out.cell (p := ⟨bd, od + j * 4 + 1, none⟩) hbd).trans q1
        have r2 := (HBB.out.cell (p := ⟨bd, od + j * 4 + 2, none⟩) hbd).trans q2
        have r3 := (HBB.out.cell (p := ⟨bd, od + j * 4 + 3, none⟩) hbd).trans q3
        have HB2 := Lib.hid (blk_below HB.out HBB.out)
        clear q0 q1 q2 q3 hbd hjl2
        have HBN := Lib.hid (HBB.out.alloc HBB.out.size (.cells #[.int .i64 y.frm, .int .i64 y.boot, .int .i64 y.seq, .int .i64 y.low] 55))
        have HB3 := Lib.hid (HB2.out.alloc (.cells #[.int .i64 y.frm, .int .i64 y.boot, .int .i64 y.seq, .int .i64 y.low] 55))
        have HYB := Lib.hid (Whole.new wr 55 #[.int .i64 y.frm, .int .i64 y.boot, .int .i64 y.seq, .int .i64 y.low])
        go_upto_region 16 with (fail)
        clear r0 r1 r2 r3
        generalize wr.heap.size = p13 at HYB ⊢
        generalize wr.alloc (.cells #[.int .i64 y.frm, .int .i64 y.boot, .int .i64 y.seq, .int .i64 y.low] 55) = w5 at HBN HB3 HYB ⊢
        have z0 : w5.cell? ⟨p6, 0, none⟩ = some (.int .i64 x.frm) := HB3.out.cell 0
        have z1 : w5.cell? ⟨p6, 1, none⟩ = some (.int .i64 x.boot) := HB3.out.cell 1
        have z2 : w5.cell? ⟨p6, 2, none⟩ = some (.int .i64 x.seq) := HB3.out.cell 2
        have r0 : w5.cell? ⟨p13, 0, none⟩ = some (.int .i64 y.frm) := HYB.out.cell 0
        have r1 : w5.cell? ⟨p13, 1, none⟩ = some (.int .i64 y.boot) := HYB.out.cell 1
        have r2 : w5.cell? ⟨p13, 2, none⟩ = some (.int .i64 y.seq) := HYB.out.cell 2
        have HAT : ∀ b, RP.same y x = b → Hid (RP.atk l x (j + 1) = if b then (j : Int) else RP.atk l x j) := fun b hb => Lib.hid (by
          show (if RP.hit l j x then (j : Int) else RP.atk l x j) = _
          unfold RP.hit
          rw [HJ.out]
          show (if RP.same y x then _ else _) = _
          rw [hb])
        by_cases g1 : y.frm = x.frm
        · have f1 : (y.frm == x.frm) = true := by simp [g1]
          by_cases g2 : y.boot = x.boot
          · have f2 : (y.boot == x.boot) = true := by simp [g2]
            by_cases g3 : y.seq = x.seq
            · have f3 : (y.seq == x.seq) = true := by simp [g3]
              have HA1 := HAT true (RP.same_iff.2 ⟨g1, g2, g3⟩)
              clear g1 g2 g3 HAT
              go_wp2_with fail
              go_roundw
              case rel => exact ⟨j + 1, rfl, by rw [HA1.out]; rfl, by omega, HBN⟩
              case measure => simp [intOf]; omega
            · have f3 : (y.seq == x.seq) = false := by simp [g3]
              have HA1 := HAT false (by cases hs : RP.same y x with | false => rfl | true => exact absurd (RP.same_iff.1 hs).2.2 g3)
              clear g1 g2 g3 HAT
              go_wp2_with fail
              go_roundw
              case rel => exact ⟨j + 1, rfl, by rw [HA1.out]; rfl, by omega, HBN⟩
              case measure => simp [intOf]; omega
          · have f2 : (y.boot == x.boot) = false := by simp [g2]
            have HA1 := HAT false (by cases hs : RP.same y x with | false => rfl | true => exact absurd (RP.same_iff.1 hs).2.1 g2)
            clear g1 g2 HAT
            go_wp2_with fail
            go_roundw
            case rel => exact ⟨j + 1, rfl, by rw [HA1.out]; rfl, by omega, HBN⟩
            case measure => simp [intOf]; omega
        · have f1 : (y.frm == x.frm) = false := by simp [g1]
          have HA1 := HAT false (by cases hs : RP.same y x with | false => rfl | true => exact absurd (RP.same_iff.1 hs).1 g1)
          clear g1 HAT
          go_wp2_with fail
          go_roundw
          case rel => exact ⟨j + 1, rfl, by rw [HA1.out]; rfl, by omega, HBN⟩
          case measure => simp [intOf]; omega
        -- END
      · obtain rfl : j = L := by omega
        have e1 : decide ((j : Int) < (j : Int)) = false := by simp
        have HR2 := Lib.hid (HR.out.below HBB.out)
        have HB2 := Lib.hid (blk_below HB.out HBB.out)
        have HM2 := Lib.hid (blk_below HM.out HBB.out)
        have HN2 := Lib.hid (blk_below HN8.out HBB.out)
        have HI2 := Lib.hid (blk_below HI.out HBB.out)
        have HA2 := Lib.hid (blk_below HA.out HBB.out)
        have HFA2 := Lib.hid (HFA.out.below HBB.out)
        clear HR HB HM HN8 HI HA HFA HBB HADS
        obtain ⟨V, hV⟩ : ∃ V, RP.verdict s (RP.onA x) = V := ⟨_, rfl⟩
        obtain ⟨X, hX⟩ : ∃ X, RP.atk l x j = X := ⟨_, rfl⟩
        rw [hV, hX]
        have HV := Lib.hid hV
        have HXX := Lib.hid hX
        clear hV hX
        go_upto_block 4 with (fail)
        go_cut [4] from 88 to 176 (fun dv wx => ∃ (s' : St) (l' : List Ad), l'.length ≤ k + 1 ∧ Hid (Ro w wx g s' dv l') ∧ Hid (RP.On s' l') ∧ Hid (Whole wx p6 55 #[.int .i64 x.frm, .int .i64 x.boot, .int .i64 x.seq, .int .i64 x.low]))
        case first =>
          cases hva : WM.valid (RP.onA x) with
          | false =>
            as_aux_lemma =>
              have hv1 : RP.verdict s (RP.onA x) = 1 := by unfold RP.verdict RP.askOk; rw [hva]; simp
              have HVA := Lib.hid hva
              rw [HV.out] at hv1
              clear hva
              subst hv1
              have HL := Lib.hid (blk_range HM2.out)
              go_wp2_with (first
                | (refine wpList_load_mid rfl 32 (.tmp 7) rfl p7 0 rfl (slotC (RP.onA x) none 0) _ HL.out Try.underlying32 rfl (by kernel_rfl) ?_)
                | (go_at_call 21
                   refine (WValid_ask none 0 (RP.onA x) _ (fit_bare (RP.onA x) HWA.out rfl _) rfl).mono ?_
                   rintro e w7 ⟨rfl, hb⟩
                   have HR3 := Lib.hid (HR2.out.below hb)
                   have HB3 := Lib.hid (blk_below HB2.out hb)
                   clear hb HL HR2 HB2 HM2 HN2 HI2 HA2 HFA2
                   rw [HVA.out]))
              go_meet
              exact ⟨_, l, by have := HLL.out; have := HLK.out; omega, Lib.hid (by have h := HR3.out; rwa [← HLL.out] at h), HON2, HB3⟩
          | true =>
            have HVA := Lib.hid hva
            clear hva
            go_upto_region 19 with (fail)
            go_cut [88] from 89 to 91 (fun bv wx => bv = .bool false ∧ Hid (Ro w wx g (RP.seenSt s (RP.onA x)) (.slice Aq j cd) l) ∧ Hid (Whole wx p6 55 #[.int .i64 x.frm, .int .i64 x.boot, .int .i64 x.seq, .int .i64 x.low]) ∧ Hid (MsgBlk wx p7 (RP.onA x) (.slice none 0 0)) ∧ Hid (MsgBlk wx p8 (RP.onR x.frm x.boot x.seq (k : Int)) (.slice (some ⟨pi, 0, none⟩) (RP.onR x.frm x.boot x.seq (k : Int)).stamp.length 1)) ∧ Hid (Whole wx pi 3 #[.int .i64 ((k : Int) + 1)]) ∧ Hid (MsgBlk wx p10 (RP.answer s (RP.onA x)) (.slice A10 (RP.answer s (RP.onA x)).stamp.length c10)) ∧ Hid (Fit wx A10 c10 (RP.answer s (RP.onA x))))
            case first =>
              have HL := Lib.hid (blk_range HM2.out)
              have HLl := Lib.hid (show (.slice Aq l.length cd : Value) = .slice Aq j cd by rw [HLL.out])
              go_wp2_with (first
                | (refine wpList_load_mid rfl 32 (.tmp 7) rfl p7 0 rfl (slotC (RP.onA x) none 0) _ HL.out Try.underlying32 rfl (by kernel_rfl) ?_)
                | (go_at_call 21
                   refine (WValid_ask none 0 (RP.onA x) _ (fit_bare (RP.onA x) HWA.out rfl _) rfl).mono ?_
                   rintro e w7 ⟨rfl, hb⟩
                   have HR3 := Lib.hid (HR2.out.below hb)
                   have HB3 := Lib.hid (blk_below HB2.out hb)
                   have HM3 := Lib.hid (blk_below HM2.out hb)
                   have HN3 := Lib.hid (blk_below HN2.out hb)
                   have HI3 := Lib.hid (blk_below HI2.out hb)
                   have HA3 := Lib.hid (blk_below HA2.out hb)
                   have HFA3 := Lib.hid (HFA2.out.below hb)
                   clear hb HL HR2 HB2 HM2 HN2 HI2 HA2 HFA2
                   rw [HVA.out]))
              go_meet
              exact ⟨rfl, Lib.hid (by rw [← HLl.out]; exact HR3.out), HB3, HM3, HN3, HI3, HA3, HFA3⟩
            case rest =>
            clear HR2 HB2 HM2 HN2 HI2 HA2 HFA2
            obtain ⟨rfl, HR, HB, HM, HN8, HI, HA, HFA⟩ := hcut
            have hv3 : RP.verdict s (RP.onA x) = 1 ∨ RP.verdict s (RP.onA x) = 2 ∨ RP.verdict s (RP.onA x) = 3 := by
              unfold RP.verdict
              split <;> (try split) <;> (try split) <;> simp
            rcases hv3 with hv | hv | hv
            · as_aux_lemma =>
                have han : RP.answer s (RP.onA x) = WM.zero := by unfold RP.answer; rw [if_neg (by rw [hv]; decide)]
                rw [han] at HA
                rw [HV.out] at hv
                clear han HFA
                subst hv
                have q0 : wc.cell? ⟨p10, 0, none⟩ = some (.int .i64 0) := HA.out.cell 0
                go_wp2_with fail
                go_meet
                exact ⟨_, l, by have := HLL.out; have := HLK.out; omega, HR, HON2, HB⟩
            · as_aux_lemma =>
                obtain ⟨kk, y, hk1, hk2, hk3⟩ := HON.out.kept hv
                rw [hk3] at HA HFA
                rw [← HLL.out] at hk1
                have HYL := Lib.hid (HON.out.lowB y (List.mem_of_getElem? hk2))
                have HAD := Lib.hid (AdsAt.own (show (wc.ownsRow w.heap.size 55 4 (.slice Aq j cd) j (flat4 l)) by have h := HR.out.row; rwa [← HLL.out] at h))
                obtain ⟨bd, od, hA, hbd, q0, q1, q2, q3⟩ := HAD.out.four hk2
                subst hA
                have hkl : kk < j := by rw [HLL.out]; exact (List.getElem?_eq_some_iff.1 hk2).1
                rw [HV.out] at hv
                rw [HXX.out] at hk1
                subst hv
                subst hk1
                obtain ⟨bs, os, hAs, hbs, hst⟩ := HFA.out.ints (show 0 < (RP.onR x.frm x.boot x.seq y.low).stamp.length from Nat.one_pos)
                subst hAs
                go_upto_region 27 with (fail)
                go_cut [168] from 120 to 168 (fun bv wx => bv = .bool false ∧ Hid (Ro w wx g (RP.seenSt s (RP.onA x)) (.slice (some ⟨bd, od, none⟩) j cd) l) ∧ Hid (Whole wx p6 55 #[.int .i64 x.frm, .int .i64 x.boot, .int .i64 x.seq, .int .i64 x.low]))
                case first =>
                  have s0 : wc.cell? ⟨bs, os, none⟩ = some (.int .i64 (y.low + 1)) := hst 0 _ rfl
                  have a2 : wc.cell? ⟨p10, 2, none⟩ = some (.int .i64 x.frm) := HA.out.cell 2
                  have a3 : wc.cell? ⟨p10, 3, none⟩ = some (.int .i64 x.boot) := HA.out.cell 3
                  have a4 : wc.cell? ⟨p10, 4, none⟩ = some (.int .i64 x.seq) := HA.out.cell 4
                  have a10 : wc.cell? ⟨p10, 10, none⟩ = some (.int .i64 (y.low + 1)) := HA.out.cell 10
                  have a13 : wc.cell? ⟨p10, 13, none⟩ = some (.slice (some ⟨bs, os, none⟩) 1 c10) := HA.out.cell 13
                  have z0 : wc.cell? ⟨p6, 0, none⟩ = some (.int .i64 x.frm) := HB.out.cell 0
                  have z1 : wc.cell? ⟨p6, 1, none⟩ = some (.int .i64 x.boot) := HB.out.cell 1
                  have z2 : wc.cell? ⟨p6, 2, none⟩ = some (.int .i64 x.seq) := HB.out.cell 2
                  have e3 : ¬ ((kk : Int) < 0) := by omega
                  have e4 : (0 : Int) ≤ (kk : Int) := by omega
                  have e5 : (kk : Int) < (j : Int) := by omega
                  have hwy : IntKind.i64.wrap (y.low + 1) = y.low + 1 := IntWalk.i64_in _ (by have := HYL.out; omega)
                  have n0 : decide ((kk : Int) < 0) = false := decide_eq_false (by omega)
                  have n1 : (y.low + 1 != y.low + 1) = false := by simp
                  have n2 : (x.seq != x.seq) = false := by simp
                  have n3 : (x.boot != x.boot) = false := by simp
                  have n4 : (x.frm != x.frm) = false := by simp
                  clear hk2 hk3 hbd hbs hst q0 q1 q2 HAD HFA hkl
                  go_quiet (fail)
                  go_wp2_with fail
                  go_meet
                  have hb2 : ∀ n, Below wc.heap.size wc (wc.drewN n) := fun n => Mod.below ((Mod.refl [] wc).drewN n) (Nat.le_refl _) (by simp)
                  exact ⟨rfl, Lib.hid (HR.out.below (hb2 _)), Lib.hid (blk_below HB.out (hb2 _))⟩
                case rest =>
                clear HR HB HA HFA HAD q0 q1 q2 q3 hst
                obtain ⟨rfl, HR, HB⟩ := hcut
                go_wp2_with fail
                go_meet
                exact ⟨_, l, by have := HLL.out; have := HLK.out; omega, HR, HON2, HB⟩
            · as_aux_lemma =>
                have hv2 : RP.verdict (RP.seenSt s (RP.onA x)) (RP.onA x) = 3 := by rw [(RP.verdict_again HON.out.ok.n8 (RP.onA x)).1]; exact hv
                have HKP := Lib.hid (HON2.out.keep hv2 (k : Int) (by omega))
                have hat : RP.atk l x j = -1 := RP.atk_no (HON.out.new hv) j
                rw [HV.out] at hv
                rw [HXX.out] at hat
                subst hv
                subst hat
                clear hv2 HA HFA
                obtain ⟨q0, q1, q2, q3, q4, q5, q6, q7, q8, q9, q10, q11, q12, q13, q14, q15⟩ := msg_cells HM.out
                obtain ⟨v0, v1, v2, v3, v4, v5, v6, v7, v8, v9, v10, v11, v12, v13, v14, v15⟩ := msg_cells HN8.out
                have HFR := Lib.hid (fit_onR HY.out (show 0 ≤ (k : Int) ∧ (k : Int) ≤ 1000 by omega) HI.out)
                go_upto_region 25 with (
                  go_at_call 10
                  refine (Ro.keep HR.out (RP.onA x) (RP.onR x.frm x.boot x.seq (k : Int)) HWA.out rfl (some ⟨pi, 0, none⟩) 1 HFR.out (by intro ad e; cases e; exact HP8.out.2)).mono ?_
                  rintro e w8 ⟨rfl, HR8, hm⟩
                  have HB8 := Lib.hid (hm.out.whole HB.out (by simp; exact HP.out))
                  clear hm HR HB HM HN8 HI HFR q0 q1 q2 q3 q4 q5 q6 q7 q8 q9 q10 q11 q12 q13 q14 q15 v0 v1 v2 v3 v4 v5 v6 v7 v8 v9 v10 v11 v12 v13 v14 v15
                  rw [HKP.out.1])
                have z0 : w8.cell? ⟨p6, 0, none⟩ = some (.int .i64 x.frm) := HB8.out.cell 0
                have z1 : w8.cell? ⟨p6, 1, none⟩ = some (.int .i64 x.boot) := HB8.out.cell 1
                have z2 : w8.cell? ⟨p6, 2, none⟩ = some (.int .i64 x.seq) := HB8.out.cell 2
                go_wp2_with (first | (at_builtin; refine Ro.app HR8.out rfl (.tmp 106) (.tmp 115) rfl rfl ⟨x.frm, x.boot, x.seq, (k : Int)⟩ rfl (by have := HLL.out; omega) ?_; intro v9 w9 h9 hm9; have HR9 := Lib.hid h9; have HB9 := Lib.hid (show Whole w9 p6 55 #[.int .i64 x.frm, .int .i64 x.boot, .int .i64 x.seq, .int .i64 x.low] from hm9.whole (HB8.out.alloc _) (fun hmem => by
                  cases hAq : Aq with
                  | none => rw [hAq] at hmem; simp [Value.ownBlock] at hmem
                  | some ad => rw [hAq] at hmem; have := HPB.out ad hAq; simp [Value.ownBlock] at hmem; omega)); clear h9 hm9))
                go_meet
                exact ⟨_, l ++ [⟨x.frm, x.boot, x.seq, (k : Int)⟩], by have := HLL.out; have := HLK.out; rw [List.length_append, List.length_singleton]; omega, HR9, Lib.hid HKP.out.2, HB9⟩
        case rest =>
        clear HR2 HB2 HM2 HN2 HI2 HA2 HFA2
        obtain ⟨s', l', hl', HR, HON', HB⟩ := hcut
        have z0 : wc.cell? ⟨p6, 0, none⟩ = some (.int .i64 x.frm) := HB.out.cell 0
        go_wp2_with fail
        refine (Ro.len HR.out x.frm).mono ?_
        rintro e w9 ⟨rfl, h⟩
        replace HR := h
        clear h z0 HB
        have h8 : ¬ ((8 : Int) < ((RP.len s' x.frm : Nat) : Int)) := by have := RP.len_le HON'.out.ok x.frm; omega
        go_wp2_with fail
        go_roundw
        case rel => exact ⟨k + 1, s', l', rfl, by omega, by omega, hl', HR, HON'⟩
        case measure => simp [intOf]; omega

end Go.Proofs.Ytbjemihcbbiiaaa.lawRepliesOnce
