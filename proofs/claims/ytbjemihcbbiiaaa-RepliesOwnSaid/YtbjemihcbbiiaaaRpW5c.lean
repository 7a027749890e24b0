/- Seen, where the request is new. -/
import Derived.Test.YtbjemihcbbiiaaaRpW5
namespace Go.Proofs.Ytbjemihcbbiiaaa
open Go.RowKit
open RP (Kp St)
open WM (Msg)
set_option linter.unusedVariables false
set_option linter.unusedSimpArgs false
set_option maxRecDepth 100000
section
variable {w : World} {g lo up : Nat} {s : St}
set_option maxHeartbeats 40000000 in
theorem Seen_new (A : Option Addr) (c : Nat) (m : Msg) (h : RepAt w g lo up s) (hs : RP.Oks s) (hf : Fit w A c m) (ha : RP.askOk m = true) (hh0 : RP.has (RP.now s m).boot (RP.now s m).low m = true) (hq0 : ¬ (RP.pick (RP.now s m) m.seq).seq = m.seq) :
    Calls Try.prog 13 #[.pointer (some ⟨g, 0, none⟩), .agg (cellsM m (.slice A m.stamp.length c))] w (SeenPost w g lo up s m) := by
  have hm := RP.askB ha
  have HX := Lib.hid (((Below.refl w.heap.size w).alloc (Nat.le_refl _) (.cells (cellsM m (.slice A m.stamp.length c)) 32)).alloc (by simp) (.cells (cellsM WM.zero (.slice none 0 0)) 32))
  have HF := Lib.hid (hf.below HX.out)
  have HR := Lib.hid (h.below HX.out)
  have HK := Lib.hid ((Whole.new w 32 (cellsM m (.slice A m.stamp.length c))).alloc (.cells (cellsM WM.zero (.slice none 0 0)) 32))
  have HZ := Lib.hid (show MsgBlk ((w.alloc (.cells (cellsM m (.slice A m.stamp.length c)) 32)).alloc (.cells (cellsM WM.zero (.slice none 0 0)) 32)) (w.heap.size + 1) WM.zero (.slice none 0 0) from by have h := Whole.new (w.alloc (.cells (cellsM m (.slice A m.stamp.length c)) 32)) 32 (cellsM WM.zero (.slice none 0 0)); have e : (w.alloc (.cells (cellsM m (.slice A m.stamp.length c)) 32)).heap.size = w.heap.size + 1 := (by simp); rw [e] at h; exact h)
  have HV := Lib.hid (show WM.valid m = true by unfold RP.askOk at ha; simp only [Bool.and_eq_true] at ha; exact ha.2)
  have HKk := Lib.hid hm.k
  have hd : (m.kind == 1) = true := by rw [hm.k]; rfl
  have hd2 : (m.kind != 1) = false := by rw [hm.k]; rfl
  have HM := Lib.hid hm
  have HA := Lib.hid ha
  have HO := Lib.hid hs
  have HG := Lib.hid (show g < w.heap.size from h.ltS)
  have HT := Lib.hid (show up ≤ w.heap.size from h.top)
  have hz := fun w : World => Try.zeroValue32 w
  rw [show (Value.agg #[.int .i64 0, .int .i64 0, .int .i64 0, .int .i64 0, .int .i64 0, .int .i64 0, .int .i64 0, .string ⟨#[]⟩, .int .i64 0, .int .i64 0, .int .i64 0, .bool false, .int .i64 0, .slice none 0 0, .int .i64 0, .int .i64 0]) = .agg (cellsM WM.zero (.slice none 0 0)) from rfl] at hz
  have HH0 := Lib.hid hh0
  clear hh0
  have HQ0 := Lib.hid hq0
  clear hq0
  clear h hs hf ha hm
  have HS := Lib.hid (show ((w.alloc (.cells (cellsM m (.slice A m.stamp.length c)) 32)).alloc (.cells (cellsM WM.zero (.slice none 0 0)) 32)).heap.size = w.heap.size + 2 by simp)
  go_enter Try.func13, Try.ntmps13
  go_upto_region 1 with (fail)
  clear hz
  generalize (w.alloc (.cells (cellsM m (.slice A m.stamp.length c)) 32)).alloc (.cells (cellsM WM.zero (.slice none 0 0)) 32) = w0 at HX HF HR HK HZ HS ⊢
  obtain ⟨c0, c1, c2, c3, c4, c5, c6, c7, c8, c9, c10, c11, c12, c13, c14, c15⟩ := msg_cells HK.out
  go_upto_region 3 with (
    go_at_call 21
    refine (WValid_ask A c m _ HF.out HKk.out).mono ?_
    rintro e w1 ⟨rfl, hb⟩
    replace HX := Lib.hid (below_on HX.out hb)
    replace HR := Lib.hid (HR.out.below hb)
    replace HK := Lib.hid (blk_below HK.out hb)
    replace HZ := Lib.hid (blk_below HZ.out hb)
    replace HS := Lib.hid (show w.heap.size + 2 ≤ w1.heap.size by have := HS.out; have := hb.size; omega)
    clear hb HF c0 c1 c2 c3 c4 c5 c6 c7 c8 c9 c10 c11 c12 c13 c14 c15
    rw [HV.out])
  go_cut [6] from 8 to 26 (fun p wx => p = .pointer (some ⟨g, m.frm.toNat * 130, none⟩) ∧ Hid (Below w.heap.size w wx) ∧ Hid (RepAt wx g lo up s) ∧ Hid (MsgBlk wx w.heap.size m (.slice A m.stamp.length c)) ∧ Hid (MsgBlk wx (w.heap.size + 1) WM.zero (.slice none 0 0)) ∧ Hid (w.heap.size + 2 ≤ wx.heap.size))
  case first =>
    as_aux_lemma =>
      have d1 := HM.out.f.1
      have d2 : m.frm < 8 := by have := HM.out.f; omega
      have c1 : w1.cell? ⟨w.heap.size, 1, none⟩ = some (.int .i64 m.frm) := HK.out.cell 1
      go_quiet (fail)
      go_wp2_with fail
      go_meet
      have hb2 : ∀ n, Below w1.heap.size w1 (w1.drewN n) := fun n => Mod.below ((Mod.refl [] w1).drewN n) (Nat.le_refl _) (by simp)
      exact ⟨rfl, Lib.hid (below_on HX.out (hb2 _)), Lib.hid (HR.out.below (hb2 _)), Lib.hid (blk_below HK.out (hb2 _)), Lib.hid (blk_below HZ.out (hb2 _)), Lib.hid HS.out⟩
  case rest =>
  clear HX HR HK HZ HS
  obtain ⟨rfl, HX, HR, HK, HZ, HS⟩ := hcut
  have HI := Lib.hid (RP.cl_at HO.out HM.out.f)
  obtain ⟨c0, c1, c2, c3, c4, c5, c6, c7, c8, c9, c10, c11, c12, c13, c14, c15⟩ := msg_cells HK.out
  go_wp2_with (
    go_at_call 25
    refine (follow_any HR.out HI.out (RP.cl_ok HO.out _) m _ HM.out).mono ?_
    rintro e w3 ⟨⟨v, rfl⟩, HR3, HM3⟩
    replace HX := Lib.hid (show Mod [g] w w3 from (Mod.of_below HX.out [g]).trans HM3.out (by simp))
    replace HK := Lib.hid (HM3.out.whole HK.out (by have := HG.out; simp; omega))
    replace HZ := Lib.hid (HM3.out.whole HZ.out (by have := HG.out; simp; omega))
    replace HS := Lib.hid (show w.heap.size + 2 ≤ w3.heap.size by have := HS.out; have := HM3.out.size; omega)
    replace HR := Lib.hid (show RepAt w3 g lo up (RP.seenSt s m) by unfold RP.seenSt; rw [HA.out]; exact HR3.out)
    clear HR3 HM3 c0 c1 c2 c3 c4 c5 c6 c7 c8 c9 c10 c11 c12 c13 c14 c15
    have c4 : w3.cell? ⟨w.heap.size, 4, none⟩ = some (.int .i64 m.seq) := HK.out.cell 4)
  go_wp2_with fail
  have HOn := Lib.hid (show RP.Ok (RP.now s m) from (RP.cl_ok HO.out _).follow HM.out)
  have HIn := Lib.hid (show (RP.seenSt s m)[m.frm.toNat]? = some (RP.now s m) by unfold RP.seenSt; rw [HA.out, if_pos rfl]; exact List.getElem?_set_self (List.getElem?_eq_some_iff.1 HI.out).1)
  have HVd := Lib.hid (show RP.verdict s m = (if RP.has (RP.now s m).boot (RP.now s m).low m then (if (RP.pick (RP.now s m) m.seq).seq = m.seq then 2 else 3) else 1) by unfold RP.verdict; rw [HA.out, if_pos rfl])
  have HPk := Lib.hid (RP.pick_at HOn.out m.seq)
  have HAn := Lib.hid (show RP.answer s m = (if RP.verdict s m = 2 then RP.pick (RP.now s m) m.seq else WM.zero) from rfl)
  generalize RP.pick (RP.now s m) m.seq = x at HVd HPk HAn HQ0
  generalize RP.now s m = k at HOn HIn HVd HPk HAn HH0
  obtain ⟨Ax, cx, hrg, hfx, hlx⟩ := (HR.out.cl _ _ HIn.out).sl _ _ HPk.out
  have HFx := Lib.hid hfx
  have HLD := Lib.hid (show w3.rangeAt g (m.frm.toNat * 130 + 2 + RP.spot m.seq * 16) [.int .i64 x.kind, .int .i64 x.frm, .int .i64 x.dst, .int .i64 x.boot, .int .i64 x.seq, .int .i64 x.low, .int .i64 x.verb, .string x.path, .int .i64 x.mode, .int .i64 x.term, .int .i64 x.id, .bool x.fresh, .int .i64 x.code, .slice Ax x.stamp.length cx, .int .i64 x.origin, .int .i64 x.number] from hrg)
  clear hrg hfx hlx
  refine (place_any g (m.frm.toNat * 130) m.seq w3 (by have := HM.out.s; omega)).mono ?_
  rintro e w4 ⟨rfl, e4⟩
  subst e4
  go_upto_region 6 with (refine wpList_load_mid rfl 32 (.tmp 34) rfl g (m.frm.toNat * 130 + 2 + RP.spot m.seq * 16) rfl _ _ HLD.out Try.underlying32 rfl (by kernel_rfl) ?_)
  have HK7 := Lib.hid (show MsgBlk (w4.alloc (.cells #[.int .i64 x.kind, .int .i64 x.frm, .int .i64 x.dst, .int .i64 x.boot, .int .i64 x.seq, .int .i64 x.low, .int .i64 x.verb, .string x.path, .int .i64 x.mode, .int .i64 x.term, .int .i64 x.id, .bool x.fresh, .int .i64 x.code, .slice Ax x.stamp.length cx, .int .i64 x.origin, .int .i64 x.number] 32)) w4.heap.size x (.slice Ax x.stamp.length cx) from Whole.new w4 _ _)
  have HB7 := Lib.hid (show Below w4.heap.size w4 (w4.alloc (.cells #[.int .i64 x.kind, .int .i64 x.frm, .int .i64 x.dst, .int .i64 x.boot, .int .i64 x.seq, .int .i64 x.low, .int .i64 x.verb, .string x.path, .int .i64 x.mode, .int .i64 x.term, .int .i64 x.id, .bool x.fresh, .int .i64 x.code, .slice Ax x.stamp.length cx, .int .i64 x.origin, .int .i64 x.number] 32)) from (Below.refl _ w4).alloc (Nat.le_refl _) _)
  replace HR := Lib.hid (HR.out.below HB7.out)
  replace HK := Lib.hid (blk_below HK.out HB7.out)
  replace HZ := Lib.hid (blk_below HZ.out HB7.out)
  replace HX := Lib.hid (show Mod [g] w (w4.alloc (.cells #[.int .i64 x.kind, .int .i64 x.frm, .int .i64 x.dst, .int .i64 x.boot, .int .i64 x.seq, .int .i64 x.low, .int .i64 x.verb, .string x.path, .int .i64 x.mode, .int .i64 x.term, .int .i64 x.id, .bool x.fresh, .int .i64 x.code, .slice Ax x.stamp.length cx, .int .i64 x.origin, .int .i64 x.number] 32)) from HX.out.alloc _)
  replace HFx := Lib.hid (HFx.out.below HB7.out)
  replace HS := Lib.hid (show w.heap.size + 2 ≤ (w4.alloc (.cells #[.int .i64 x.kind, .int .i64 x.frm, .int .i64 x.dst, .int .i64 x.boot, .int .i64 x.seq, .int .i64 x.low, .int .i64 x.verb, .string x.path, .int .i64 x.mode, .int .i64 x.term, .int .i64 x.id, .bool x.fresh, .int .i64 x.code, .slice Ax x.stamp.length cx, .int .i64 x.origin, .int .i64 x.number] 32)).heap.size by have := HS.out; have := HB7.out.size; omega)
  clear HB7 HLD c4
  generalize w4.alloc (.cells #[.int .i64 x.kind, .int .i64 x.frm, .int .i64 x.dst, .int .i64 x.boot, .int .i64 x.seq, .int .i64 x.low, .int .i64 x.verb, .string x.path, .int .i64 x.mode, .int .i64 x.term, .int .i64 x.id, .bool x.fresh, .int .i64 x.code, .slice Ax x.stamp.length cx, .int .i64 x.origin, .int .i64 x.number] 32) = w5 at HK7 HR HK HZ HX HFx HS ⊢
  generalize w4.heap.size = p7 at HK7 ⊢
  go_cut [36] from 8 to 43 (fun b wx => b = .bool (!RP.has k.boot k.low m) ∧ Hid (RepAt wx g lo up (RP.seenSt s m)) ∧ Hid (MsgBlk wx w.heap.size m (.slice A m.stamp.length c)) ∧ Hid (MsgBlk wx (w.heap.size + 1) WM.zero (.slice none 0 0)) ∧ Hid (MsgBlk wx p7 x (.slice Ax x.stamp.length cx)) ∧ Hid (Fit wx Ax cx x) ∧ Hid (Mod [g] w wx) ∧ Hid (w.heap.size + 2 ≤ wx.heap.size))
  case first =>
    as_aux_lemma =>
      go_wp2_with fail
      have hc := HR.out.cl _ _ HIn.out
      have HSS : w5.drew.cell? ⟨g, m.frm.toNat * 130, none⟩ = some (.int .i64 k.boot) ∧ w5.drew.cell? ⟨g, m.frm.toNat * 130 + 1, none⟩ = some (.int .i64 k.low) ∧ (w5.drew.cell? ⟨w.heap.size, 0, none⟩ = some (.int .i64 m.kind) ∧ w5.drew.cell? ⟨w.heap.size, 1, none⟩ = some (.int .i64 m.frm) ∧ w5.drew.cell? ⟨w.heap.size, 2, none⟩ = some (.int .i64 m.dst) ∧ w5.drew.cell? ⟨w.heap.size, 3, none⟩ = some (.int .i64 m.boot) ∧ w5.drew.cell? ⟨w.heap.size, 4, none⟩ = some (.int .i64 m.seq) ∧ w5.drew.cell? ⟨w.heap.size, 5, none⟩ = some (.int .i64 m.low) ∧ w5.drew.cell? ⟨w.heap.size, 6, none⟩ = some (.int .i64 m.verb) ∧ w5.drew.cell? ⟨w.heap.size, 7, none⟩ = some (.string m.path) ∧ w5.drew.cell? ⟨w.heap.size, 8, none⟩ = some (.int .i64 m.mode) ∧ w5.drew.cell? ⟨w.heap.size, 9, none⟩ = some (.int .i64 m.term) ∧ w5.drew.cell? ⟨w.heap.size, 10, none⟩ = some (.int .i64 m.id) ∧ w5.drew.cell? ⟨w.heap.size, 11, none⟩ = some (.bool m.fresh) ∧ w5.drew.cell? ⟨w.heap.size, 12, none⟩ = some (.int .i64 m.code) ∧ w5.drew.cell? ⟨w.heap.size, 13, none⟩ = some (.slice A m.stamp.length c) ∧ w5.drew.cell? ⟨w.heap.size, 14, none⟩ = some (.int .i64 m.origin) ∧ w5.drew.cell? ⟨w.heap.size, 15, none⟩ = some (.int .i64 m.number)) := ⟨hc.bt, hc.lw, msg_cells HK.out⟩
      clear hc
      go_region_held3 (fun w' : World => w'.cell? ⟨g, m.frm.toNat * 130, none⟩ = some (.int .i64 k.boot) ∧ w'.cell? ⟨g, m.frm.toNat * 130 + 1, none⟩ = some (.int .i64 k.low) ∧ (w'.cell? ⟨w.heap.size, 0, none⟩ = some (.int .i64 m.kind) ∧ w'.cell? ⟨w.heap.size, 1, none⟩ = some (.int .i64 m.frm) ∧ w'.cell? ⟨w.heap.size, 2, none⟩ = some (.int .i64 m.dst) ∧ w'.cell? ⟨w.heap.size, 3, none⟩ = some (.int .i64 m.boot) ∧ w'.cell? ⟨w.heap.size, 4, none⟩ = some (.int .i64 m.seq) ∧ w'.cell? ⟨w.heap.size, 5, none⟩ = some (.int .i64 m.low) ∧ w'.cell? ⟨w.heap.size, 6, none⟩ = some (.int .i64 m.verb) ∧ w'.cell? ⟨w.heap.size, 7, none⟩ = some (.string m.path) ∧ w'.cell? ⟨w.heap.size, 8, none⟩ = some (.int .i64 m.mode) ∧ w'.cell? ⟨w.heap.size, 9, none⟩ = some (.int .i64 m.term) ∧ w'.cell? ⟨w.heap.size, 10, none⟩ = some (.int .i64 m.id) ∧ w'.cell? ⟨w.heap.size, 11, none⟩ = some (.bool m.fresh) ∧ w'.cell? ⟨w.heap.size, 12, none⟩ = some (.int .i64 m.code) ∧ w'.cell? ⟨w.heap.size, 13, none⟩ = some (.slice A m.stamp.length c) ∧ w'.cell? ⟨w.heap.size, 14, none⟩ = some (.int .i64 m.origin) ∧ w'.cell? ⟨w.heap.size, 15, none⟩ = some (.int .i64 m.number)))
        (first
          | exact HSS
          | (go_keep; done))
        (first
          | (go_at_call 26; refine (has_any k.boot k.low m (.slice A m.stamp.length c) _ ⟨HOn.out.l0, HOn.out.l1⟩).mono ?_; rintro e w6 ⟨rfl, hb⟩; have hb : Below w5.heap.size w5 w6 := below_on (Below.refl _ w5).drew hb; replace HR := Lib.hid (HR.out.below hb); replace HK := Lib.hid (blk_below HK.out hb); replace HZ := Lib.hid (blk_below HZ.out hb); replace HK7 := Lib.hid (blk_below HK7.out hb); replace HFx := Lib.hid (HFx.out.below hb); replace HX := Lib.hid (show Mod [g] w w6 from HX.out.trans (Mod.of_below hb []) (by simp)); replace HS := Lib.hid (show w.heap.size + 2 ≤ w6.heap.size by have := HS.out; have := hb.size; omega); replace HSS := And.intro (HR.out.cl _ _ HIn.out).bt (And.intro (HR.out.cl _ _ HIn.out).lw (msg_cells HK.out)); clear hb))
      all_goals
        go_wp2_with fail
        go_meet
        exact ⟨rfl, HR, HK, HZ, HK7, HFx, HX, HS⟩
  case rest =>
  clear HR HK HZ HK7 HFx HX HS
  obtain ⟨rfl, HR, HK, HZ, HK7, HFx, HX, HS⟩ := hcut
  have hh := HH0.out
  rw [hh]
  have c4 : wc.cell? ⟨w.heap.size, 4, none⟩ = some (.int .i64 m.seq) := HK.out.cell 4
  have k4 : wc.cell? ⟨p7, 4, none⟩ = some (.int .i64 x.seq) := HK7.out.cell 4
  have hq := HQ0.out
  have HVe := Lib.hid (show RP.verdict s m = 3 by rw [HVd.out, hh, if_pos rfl, if_neg hq])
  have HAe := Lib.hid (show RP.answer s m = WM.zero by rw [HAn.out, HVe.out]; rfl)
  have hq' : (x.seq == m.seq) = false := by simp [hq]
  clear hh hq
  have z0 : wc.cell? ⟨w.heap.size + 1, 0, none⟩ = some (.int .i64 0) := HZ.out.cell 0
  have z1 : wc.cell? ⟨w.heap.size + 1, 1, none⟩ = some (.int .i64 0) := HZ.out.cell 1
  have z2 : wc.cell? ⟨w.heap.size + 1, 2, none⟩ = some (.int .i64 0) := HZ.out.cell 2
  have z3 : wc.cell? ⟨w.heap.size + 1, 3, none⟩ = some (.int .i64 0) := HZ.out.cell 3
  have z4 : wc.cell? ⟨w.heap.size + 1, 4, none⟩ = some (.int .i64 0) := HZ.out.cell 4
  have z5 : wc.cell? ⟨w.heap.size + 1, 5, none⟩ = some (.int .i64 0) := HZ.out.cell 5
  have z6 : wc.cell? ⟨w.heap.size + 1, 6, none⟩ = some (.int .i64 0) := HZ.out.cell 6
  have z7 : wc.cell? ⟨w.heap.size + 1, 7, none⟩ = some (.string ⟨#[]⟩) := HZ.out.cell 7
  have z8 : wc.cell? ⟨w.heap.size + 1, 8, none⟩ = some (.int .i64 0) := HZ.out.cell 8
  have z9 : wc.cell? ⟨w.heap.size + 1, 9, none⟩ = some (.int .i64 0) := HZ.out.cell 9
  have z10 : wc.cell? ⟨w.heap.size + 1, 10, none⟩ = some (.int .i64 0) := HZ.out.cell 10
  have z11 : wc.cell? ⟨w.heap.size + 1, 11, none⟩ = some (.bool false) := HZ.out.cell 11
  have z12 : wc.cell? ⟨w.heap.size + 1, 12, none⟩ = some (.int .i64 0) := HZ.out.cell 12
  have z13 : wc.cell? ⟨w.heap.size + 1, 13, none⟩ = some (.slice none 0 0) := HZ.out.cell 13
  have z14 : wc.cell? ⟨w.heap.size + 1, 14, none⟩ = some (.int .i64 0) := HZ.out.cell 14
  have z15 : wc.cell? ⟨w.heap.size + 1, 15, none⟩ = some (.int .i64 0) := HZ.out.cell 15
  have y0 := HZ.out.frozen 0
  have y1 := HZ.out.frozen 1
  have y2 := HZ.out.frozen 2
  have y3 := HZ.out.frozen 3
  have y4 := HZ.out.frozen 4
  have y5 := HZ.out.frozen 5
  have y6 := HZ.out.frozen 6
  have y7 := HZ.out.frozen 7
  have y8 := HZ.out.frozen 8
  have y9 := HZ.out.frozen 9
  have y10 := HZ.out.frozen 10
  have y11 := HZ.out.frozen 11
  have y12 := HZ.out.frozen 12
  have y13 := HZ.out.frozen 13
  have y14 := HZ.out.frozen 14
  have y15 := HZ.out.frozen 15
  go_wp2_with fail
  obtain ⟨cur', hw', _, hM⟩ := whole_cells [.int .i64 0, .int .i64 0, .int .i64 0, .int .i64 0, .int .i64 0, .int .i64 0, .int .i64 0, .string ⟨#[]⟩, .int .i64 0, .int .i64 0, .int .i64 0, .bool false, .int .i64 0, .slice none 0 0, .int .i64 0, .int .i64 0] 0 wc _ HZ.out
  have hr := World.rangeAt_setCells_same wc (w.heap.size + 1) 0 [.int .i64 0, .int .i64 0, .int .i64 0, .int .i64 0, .int .i64 0, .int .i64 0, .int .i64 0, .string ⟨#[]⟩, .int .i64 0, .int .i64 0, .int .i64 0, .bool false, .int .i64 0, .slice none 0 0, .int .i64 0, .int .i64 0] (msg_there HZ.out)
  rw [set16]
  refine bodyPost_ret (v := .tuple #[.int .i64 3, .agg (cellsM WM.zero (.slice none 0 0))]) (results_tc rfl rfl rfl (run_loadVar_mid _ (w.heap.size + 1) 0 32 _ _ hr Try.underlying32 rfl (by kernel_rfl))) rfl ?_
  exact ⟨none, 0, by rw [HVe.out, HAe.out]; rfl, Lib.hid (by rw [HAe.out]; exact fit_zero _), Lib.hid (by rw [HAe.out]; exact World.ownsRow_nil _ _ _ _), Lib.hid (HR.out.mod hM (by have := HG.out; simp; omega) (fun q hq => by have := HT.out; simp at hq; omega)), Lib.hid (HX.out.trans hM (fun q hq => by simp at hq; omega))⟩
end
end Go.Proofs.Ytbjemihcbbiiaaa
