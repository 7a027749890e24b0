/- Texts that belong together: WireR11, WireR13. -/
import Derived.Test.YtboflkadabagfaaWireRF
import Derived.Test.YtboflkadabagfaaWireRD
import Derived.Test.YtboflkadabagfaaWireW12
import Derived.Test.YtboflkadabagfaaWireW14
namespace Go.Proofs.Ytboflkadabagfaa
open Go.RowKit
open Oct (BytesAt u8s)
open WM (Msg)
set_option linter.unusedVariables false
set_option linter.unusedSimpArgs false
set_option maxRecDepth 100000
theorem headT5 (b : List UInt8) : WM.taken 5 b = (WM.partT 5 (WM.headT (b, 0)).1 (WM.headT (b, 0)).2).1 := rfl
theorem valid_is2 {m : Msg} (h : WM.valid m = true) : WM.may m = true ∧ WM.used m = m := by
  unfold WM.valid at h
  simpa using h
theorem taken_enc5 {m : Msg} (most : Nat) (h4 : 4 ≤ most) (h : WM.valid m = true) : WM.taken most (enc m) = m := by
  unfold enc
  rw [WM.taken_body most _ (valid_is2 h).1 h4, (valid_is2 h).2]
/-- It does not matter how many counters are taken, if there are four or more. -/
theorem dec_five {b : List UInt8} (h : dec b = true) : b.length ≤ 200 ∧ WM.taken 5 b = WM.taken 4 b ∧ WM.valid (WM.taken 5 b) = true ∧ enc (WM.taken 5 b) = b := by
  unfold dec at h
  simp only [Bool.and_eq_true, decide_eq_true_eq] at h
  obtain ⟨h1, h2, h3⟩ := h
  have e : WM.taken 5 b = WM.taken 4 b := by
    have := taken_enc5 5 (by omega) h2
    rw [h3] at this
    exact this
  rw [e]
  exact ⟨h1, rfl, h2, h3⟩
theorem dec_five_no {b : List UInt8} (h : dec b = false) (h1 : b.length ≤ 200) (h2 : WM.valid (WM.taken 5 b) = true) : ¬ enc (WM.taken 5 b) = b := by
  intro h3
  have e : WM.taken 4 b = WM.taken 5 b := by
    have := taken_enc5 4 (Nat.le_refl _) h2
    rw [h3] at this
    exact this
  unfold dec at h
  rw [e, h2, decide_eq_true h1, decide_eq_true h3] at h
  cases h
theorem headT_stamp (s : WM.St) : (WM.headT s).1.stamp = [] := rfl
/-- What stands while the document decodes: the answer's box, the taker, the message's box. -/
structure DeSt (w0 : World) (m : Msg) (sv : Value) (w : World) : Prop where
  kr : MsgBlk w w0.heap.size WM.zero (.slice none 0 0)
  kb : MsgBlk w (w0.heap.size + 2) m sv
  below : Below w0.heap.size w0 w
  size : w0.heap.size + 3 ≤ w.heap.size
section
variable {w0 w w2 : World} {m m' : Msg} {sv sv' x : Value}
theorem DeSt.num (h : DeSt w0 m sv w) (hm : Mod [w0.heap.size + 1] w w2) : DeSt w0 m sv w2 :=
  ⟨hm.whole h.kr (by simp), hm.whole h.kb (by simp), h.below.trans (hm.below h.below.size (by intro x hx; simp at hx; omega)), Nat.le_trans h.size hm.size⟩
theorem DeSt.on (h : DeSt w0 m sv w) (hb : Below w.heap.size w w2) : DeSt w0 m sv w2 :=
  ⟨(Mod.of_below hb []).whole h.kr (by simp), (Mod.of_below hb []).whole h.kb (by simp), h.below.trans (hb.mono h.below.size), Nat.le_trans h.size hb.size⟩
theorem DeSt.store (h : DeSt w0 m sv w) {i : Nat} (he : (cellsM m sv).setIfInBounds i x = cellsM m' sv') : DeSt w0 m' sv' (w.setCell ⟨w0.heap.size + 2, i, none⟩ x) := by
  have hM : Mod [w0.heap.size + 2] w (w.setCell ⟨w0.heap.size + 2, i, none⟩ x) := (Mod.refl _ w).store (p := ⟨w0.heap.size + 2, i, none⟩) (.inl (by simp)) x
  have hk := h.kb.store i x
  rw [he] at hk
  exact ⟨hM.whole h.kr (by simp), hk, h.below.trans (hM.below h.below.size (by intro y hy; simp at hy; omega)), by simpa using h.size⟩
theorem tk_store {q B i g : Nat} {s : WM.St} (h : TkAt w q B s) (hq : q < g) (hB : B ≤ g) : TkAt (w.setCell ⟨g, i, none⟩ x) q B s := by
  have hM : Mod [g] w (w.setCell ⟨g, i, none⟩ x) := (Mod.refl _ w).store (p := ⟨g, i, none⟩) (.inl (by simp)) x
  exact h.mod hM (by simp; omega) (fun b hb => by simp at hb; omega)
theorem DeSt.row (h : DeSt w0 m sv w) (m' : Msg) (sv' : Value) : DeSt w0 m' sv' (w.setRow (w0.heap.size + 2) (cellsM m' sv')) ∧ Mod [w0.heap.size + 2] w (w.setRow (w0.heap.size + 2) (cellsM m' sv')) := by
  obtain ⟨hK, hM⟩ := row16 h.kb m' sv'
  exact ⟨⟨hM.whole h.kr (by simp), hK, h.below.trans (hM.below h.below.size (by intro y hy; simp at hy; omega)), Nat.le_trans h.size hM.size⟩, hM⟩
theorem DeSt.done (h : DeSt w0 m sv w) (m' : Msg) (sv' : Value) : MsgBlk (w.setRow w0.heap.size (cellsM m' sv')) w0.heap.size m' sv' ∧ Mod [w0.heap.size] w (w.setRow w0.heap.size (cellsM m' sv')) ∧ Below w0.heap.size w0 (w.setRow w0.heap.size (cellsM m' sv')) := by
  obtain ⟨hK, hM⟩ := row16 h.kr m' sv'
  exact ⟨hK, hM, h.below.trans (hM.below h.below.size (by intro y hy; simp at hy; omega))⟩
end
set_option maxHeartbeats 4000000 in
theorem r6_Decode_long (A : Option Addr) (c : Nat) (b : List UInt8) (w : World) (hl : 200 < b.length) :
    Calls Try.prog 14 #[.slice A b.length c] w fun e w' => e = .returned (.tuple #[.agg zeroM, .int .i64 21]) ∧ Below w.heap.size w w' := by
  have HNW := Lib.hid (show MsgBlk (w.alloc (.cells (cellsM WM.zero (.slice none 0 0)) 28)) w.heap.size WM.zero (.slice none 0 0) from Whole.new w _ _)
  have HKD := Lib.hid ((row16 HNW.out WM.zero (.slice none 0 0)).1)
  have HX := Lib.hid (((Below.refl _ w).alloc (Nat.le_refl _) (.cells (cellsM WM.zero (.slice none 0 0)) 28)).trans ((row16 HNW.out WM.zero (.slice none 0 0)).2.below (by simp) (by simp)))
  have hd : decide ((200 : Int) < (b.length : Int)) = true := by simp; omega
  unfold cellsM WM.zero at HNW
  rw [show cellsM WM.zero (.slice none 0 0) = #[.int .i64 0, .int .i64 0, .int .i64 0, .int .i64 0, .int .i64 0, .int .i64 0, .int .i64 0, .string ⟨#[]⟩, .int .i64 0, .int .i64 0, .int .i64 0, .bool false, .int .i64 0, .slice none 0 0, .int .i64 0, .int .i64 0] from rfl] at HKD HX
  go_enter Try.func14, Try.ntmps14
  go_wp2_with (refine wpList_store_row rfl 28 (.tmp 2) (.tmp 11) rfl w.heap.size #[.int .i64 0, .int .i64 0, .int .i64 0, .int .i64 0, .int .i64 0, .int .i64 0, .int .i64 0, .string ⟨#[]⟩, .int .i64 0, .int .i64 0, .int .i64 0, .bool false, .int .i64 0, .slice none 0 0, .int .i64 0, .int .i64 0] rfl rfl 28 _ HNW.out (by kernel_rfl) rfl (by simp [Value.oneCell']) ?_)
  generalize World.setRow _ _ _ = w4 at HKD HX ⊢
  obtain ⟨c0, c1, c2', c3, c4, c5, c6, c7, c8, c9, c10, c11, c12, c13, c14, c15⟩ := msg_cells (m := WM.zero) (sv := .slice none 0 0) HKD.out
  refine bodyPost_ret (v := .tuple #[.agg zeroM, .int .i64 21]) (by simp [results, Try.results14, go_sem, c0, c1, c2', c3, c4, c5, c6, c7, c8, c9, c10, c11, c12, c13, c14, c15, zeroM, cellsM, WM.zero]) rfl ?_
  exact ⟨rfl, HX.out⟩
set_option maxHeartbeats 8000000 in
theorem r6_Decode_bad (A : Option Addr) (c : Nat) (b : List UInt8) (w : World) (hA : BytesAt w A b) (hc : b.length ≤ c) (hm : c ≤ 9223372036854775807) (hl : b.length ≤ 200) (hyp : WM.valid (WM.taken 5 b) = false) :
    Calls Try.prog 14 #[.slice A b.length c] w (fun e w' => e = .returned (.tuple #[.agg zeroM, .int .i64 21]) ∧ Below w.heap.size w w') := by
  have HL := Lib.hid hl
  have HHY := Lib.hid hyp
  clear hyp
  have hd : decide ((200 : Int) < (b.length : Int)) = false := by simp; omega
  have HX2 := Lib.hid (((Below.refl _ w).alloc (Nat.le_refl _) (.cells (cellsM WM.zero (.slice none 0 0)) 28)).alloc (by simp) (.cells (tk2 A b.length c 0) 66))
  have HKR := Lib.hid (show MsgBlk ((w.alloc (.cells (cellsM WM.zero (.slice none 0 0)) 28)).alloc (.cells (tk2 A b.length c 0) 66)) w.heap.size WM.zero (.slice none 0 0) from (Whole.new w _ _).alloc _)
  have HTK := Lib.hid (show TkAt ((w.alloc (.cells (cellsM WM.zero (.slice none 0 0)) 28)).alloc (.cells (tk2 A b.length c 0) 66)) (w.heap.size + 1) w.heap.size (b, 0) from
    ⟨A, c, by have h := Whole.new (w.alloc (.cells (cellsM WM.zero (.slice none 0 0)) 28)) 66 (tk2 A b.length c 0); have e : (w.alloc (.cells (cellsM WM.zero (.slice none 0 0)) 28)).heap.size = w.heap.size + 1 := (by simp); rw [e] at h; exact h, hA.below HX2.out, hc, hm, fun h0 ad e => by obtain ⟨bb, oo, eA, hlt, _⟩ := hA h0; rw [e] at eA; injection eA with eA; rw [eA]; exact hlt⟩)
  have HSZ := Lib.hid (show ((w.alloc (.cells (cellsM WM.zero (.slice none 0 0)) 28)).alloc (.cells (tk2 A b.length c 0) 66)).heap.size = w.heap.size + 2 by simp)
  have HBY := Lib.hid hA
  clear hA hl
  unfold tk2 at HX2 HKR HTK HSZ
  rw [show cellsM WM.zero (.slice none 0 0) = #[.int .i64 0, .int .i64 0, .int .i64 0, .int .i64 0, .int .i64 0, .int .i64 0, .int .i64 0, .string ⟨#[]⟩, .int .i64 0, .int .i64 0, .int .i64 0, .bool false, .int .i64 0, .slice none 0 0, .int .i64 0, .int .i64 0] from rfl] at HX2 HKR HTK HSZ
  go_enter Try.func14, Try.ntmps14
  go_upto_region 4 with (fail)
  generalize (w.alloc (.cells #[.int .i64 0, .int .i64 0, .int .i64 0, .int .i64 0, .int .i64 0, .int .i64 0, .int .i64 0, .string ⟨#[]⟩, .int .i64 0, .int .i64 0, .int .i64 0, .bool false, .int .i64 0, .slice none 0 0, .int .i64 0, .int .i64 0] 28)).alloc (.cells #[.slice A b.length c, .int .i64 ((0 : Nat) : Int)] 66) = wa at HX2 HKR HTK HSZ ⊢
  have HNW := Lib.hid (show MsgBlk (wa.alloc (.cells (cellsM WM.zero (.slice none 0 0)) 28)) wa.heap.size WM.zero (.slice none 0 0) from Whole.new wa _ _)
  have HDE := Lib.hid (show DeSt w WM.zero (.slice none 0 0) ((wa.alloc (.cells (cellsM WM.zero (.slice none 0 0)) 28)).setRow wa.heap.size (cellsM WM.zero (.slice none 0 0))) ∧ TkAt ((wa.alloc (.cells (cellsM WM.zero (.slice none 0 0)) 28)).setRow wa.heap.size (cellsM WM.zero (.slice none 0 0))) (w.heap.size + 1) w.heap.size (b, 0) by
    obtain ⟨hW, hM⟩ := row16 HNW.out WM.zero (.slice none 0 0)
    have hs := HSZ.out
    have hB : Below wa.heap.size wa ((wa.alloc (.cells (cellsM WM.zero (.slice none 0 0)) 28)).setRow wa.heap.size (cellsM WM.zero (.slice none 0 0))) := ((Below.refl _ wa).alloc (Nat.le_refl _) _).trans (hM.below (by simp) (by simp))
    have hz := hM.size
    rw [World.size_alloc] at hz
    refine ⟨⟨(Mod.of_below hB []).whole HKR.out (by simp), by rw [← hs]; exact hW, below_on HX2.out hB, by omega⟩, HTK.out.below hB⟩)
  have HT := Lib.hid HDE.out.1
  have HK := Lib.hid HDE.out.2
  clear HDE HX2 HKR HTK
  unfold cellsM WM.zero at HNW
  rw [show cellsM WM.zero (.slice none 0 0) = #[.int .i64 0, .int .i64 0, .int .i64 0, .int .i64 0, .int .i64 0, .int .i64 0, .int .i64 0, .string ⟨#[]⟩, .int .i64 0, .int .i64 0, .int .i64 0, .bool false, .int .i64 0, .slice none 0 0, .int .i64 0, .int .i64 0] from rfl] at HT HK
  go_upto_region 5 with (refine wpList_store_row rfl 28 (.tmp 5) (.tmp 16) rfl wa.heap.size #[.int .i64 0, .int .i64 0, .int .i64 0, .int .i64 0, .int .i64 0, .int .i64 0, .int .i64 0, .string ⟨#[]⟩, .int .i64 0, .int .i64 0, .int .i64 0, .bool false, .int .i64 0, .slice none 0 0, .int .i64 0, .int .i64 0] rfl rfl 28 _ HNW.out (by kernel_rfl) rfl (by simp [Value.oneCell']) ?_)
  generalize World.setRow _ _ _ = w0 at HT HK ⊢
  rw [HSZ.out]
  clear HNW HSZ
  go_wp2_with fail
  refine (r6_tnum (w.heap.size + 1) w.heap.size (b, 0) _ HK.out).mono ?_
  rintro e x1 ⟨rfl, h2, hm2⟩
  have HT2 := Lib.hid (HT.out.num hm2)
  have HK2 := Lib.hid h2
  clear h2 hm2 HT HK
  generalize ha : WM.tnum (b, 0) = t1 at HK2 ⊢
  obtain ⟨n1, s1⟩ := t1
  have HA1 := Lib.hid ha
  clear ha
  dsimp only at HK2 ⊢
  obtain ⟨c0, c1, c2', c3, c4, c5, c6, c7, c8, c9, c10, c11, c12, c13, c14, c15⟩ := msg_cells HT2.out.kb
  have f0 := HT2.out.kb.frozen 0
  go_upto_region 6 with (fail)
  have HT := Lib.hid (HT2.out.store (i := 0) (x := .int .i64 n1) (m' := { WM.zero with kind := n1 }) (sv' := .slice none 0 0) rfl)
  have HK := Lib.hid (tk_store (i := 0) (x := .int .i64 n1) (g := w.heap.size + 2) HK2.out (by omega) (by omega))
  clear HT2 HK2 f0 c0 c1 c2' c3 c4 c5 c6 c7 c8 c9 c10 c11 c12 c13 c14 c15
  generalize World.setCell _ _ _ = y1 at HT HK ⊢
  go_wp2_with fail
  refine (r6_tnum (w.heap.size + 1) w.heap.size s1 _ HK.out).mono ?_
  rintro e x2 ⟨rfl, h2, hm2⟩
  have HT2 := Lib.hid (HT.out.num hm2)
  have HK2 := Lib.hid h2
  clear h2 hm2 HT HK
  generalize ha : WM.tnum s1 = t2 at HK2 ⊢
  obtain ⟨n2, s2⟩ := t2
  have HA2 := Lib.hid ha
  clear ha
  dsimp only at HK2 ⊢
  obtain ⟨c0, c1, c2', c3, c4, c5, c6, c7, c8, c9, c10, c11, c12, c13, c14, c15⟩ := msg_cells HT2.out.kb
  have f1 := HT2.out.kb.frozen 1
  go_upto_region 7 with (fail)
  have HT := Lib.hid (HT2.out.store (i := 1) (x := .int .i64 n2) (m' := { WM.zero with kind := n1, frm := n2 }) (sv' := .slice none 0 0) rfl)
  have HK := Lib.hid (tk_store (i := 1) (x := .int .i64 n2) (g := w.heap.size + 2) HK2.out (by omega) (by omega))
  clear HT2 HK2 f1 c0 c1 c2' c3 c4 c5 c6 c7 c8 c9 c10 c11 c12 c13 c14 c15
  generalize World.setCell _ _ _ = y2 at HT HK ⊢
  go_wp2_with fail
  refine (r6_tnum (w.heap.size + 1) w.heap.size s2 _ HK.out).mono ?_
  rintro e x3 ⟨rfl, h2, hm2⟩
  have HT2 := Lib.hid (HT.out.num hm2)
  have HK2 := Lib.hid h2
  clear h2 hm2 HT HK
  generalize ha : WM.tnum s2 = t3 at HK2 ⊢
  obtain ⟨n3, s3⟩ := t3
  have HA3 := Lib.hid ha
  clear ha
  dsimp only at HK2 ⊢
  obtain ⟨c0, c1, c2', c3, c4, c5, c6, c7, c8, c9, c10, c11, c12, c13, c14, c15⟩ := msg_cells HT2.out.kb
  have f2 := HT2.out.kb.frozen 2
  go_upto_region 8 with (fail)
  have HT := Lib.hid (HT2.out.store (i := 2) (x := .int .i64 n3) (m' := { WM.zero with kind := n1, frm := n2, dst := n3 }) (sv' := .slice none 0 0) rfl)
  have HK := Lib.hid (tk_store (i := 2) (x := .int .i64 n3) (g := w.heap.size + 2) HK2.out (by omega) (by omega))
  clear HT2 HK2 f2 c0 c1 c2' c3 c4 c5 c6 c7 c8 c9 c10 c11 c12 c13 c14 c15
  generalize World.setCell _ _ _ = y3 at HT HK ⊢
  have HLD := Lib.hid (msg_range HT.out.kb)
  have HPT := Lib.hid (show WM.taken 5 b = (WM.partT 5 { WM.zero with kind := n1, frm := n2, dst := n3 } s3).1 by rw [headT5]; unfold WM.headT; simp only [HA1.out, HA2.out, HA3.out])
  go_wp2_with (refine wpList_load_mid rfl 28 (.tmp 5) rfl (w.heap.size + 2) 0 rfl (cellsM { WM.zero with kind := n1, frm := n2, dst := n3 } (.slice none 0 0)).toList _ HLD.out Try.underlying28 rfl (by kernel_rfl) ?_)
  refine (r6_fields (w.heap.size + 1) w.heap.size s3 { WM.zero with kind := n1, frm := n2, dst := n3 } _ HK.out (by have := HT.out.size; omega) (by have := HT.out.size; omega) rfl).mono ?_
  rw [← HPT.out]
  have HWM := Lib.hid (wide_taken 5 b)
  clear HLD HPT HK HA1 HA2 HA3
  generalize hMM : WM.taken 5 b = M at HHY HWM ⊢
  have HMM := Lib.hid hMM
  clear hMM
  rintro e w4 ⟨v4, rfl, h4, hm4⟩
  obtain ⟨A4, cz4, e4, hl4, hc4⟩ := own_shape h4
  subst e4
  have HT4 := Lib.hid (HT.out.num hm4)
  have HR4 := Lib.hid ((HT4.out.row M (.slice A4 M.stamp.length cz4)))
  have HO4 := Lib.hid (gw_base (HR4.out.2.own h4 (fun k hk => by have := (h4.lt k hk).1; have := HT.out.size; simp; omega)) (show w.heap.size ≤ _ from Nat.le_trans (by omega) HT.out.size))
  have HKB4 := Lib.hid HT4.out.kb
  clear h4 hm4 HT hl4 hc4
  go_upto_region 9 with (refine wpList_store_row rfl 28 (.tmp 5) (.tmp 28) rfl (w.heap.size + 2) (cellsM M (.slice A4 M.stamp.length cz4)) rfl rfl 28 _ HKB4.out (by kernel_rfl) rfl (by simp [cellsM, Value.oneCell', WM.zero]) ?_)
  generalize World.setRow _ _ _ = w5 at HR4 HO4 ⊢
  clear HT4 HKB4
  have HT := Lib.hid HR4.out.1
  have HF := Lib.hid (show Fit6 w5 A4 cz4 M from ⟨HWM.out, IntsAt.own HO4.out, by obtain ⟨a', c', e, h1, _⟩ := own_shape HO4.out; cases e; exact h1, by obtain ⟨a', c', e, _, h1⟩ := own_shape HO4.out; cases e; exact h1⟩)
  clear HR4
  have HLD := Lib.hid (msg_range HT.out.kb)
  go_wp2_with (refine wpList_load_mid rfl 28 (.tmp 5) rfl (w.heap.size + 2) 0 rfl (cellsM M (.slice A4 M.stamp.length cz4)).toList _ HLD.out Try.underlying28 rfl (by kernel_rfl) ?_)
  clear HLD
  refine (r6_Encode_no A4 cz4 M w5 HF.out HHY.out).mono ?_
  rintro e w6 ⟨rfl, hb⟩
  have HT6 := Lib.hid (HT.out.on hb)
  clear hb HT HF HO4
  have HD := Lib.hid (HT6.out.done WM.zero (.slice none 0 0))
  have HKZ := Lib.hid HT6.out.kr
  clear HT6
  unfold cellsM WM.zero at HKZ
  rw [show cellsM WM.zero (.slice none 0 0) = #[.int .i64 0, .int .i64 0, .int .i64 0, .int .i64 0, .int .i64 0, .int .i64 0, .int .i64 0, .string ⟨#[]⟩, .int .i64 0, .int .i64 0, .int .i64 0, .bool false, .int .i64 0, .slice none 0 0, .int .i64 0, .int .i64 0] from rfl] at HD
  go_wp2_with (refine wpList_store_row rfl 28 (.tmp 2) (.tmp 43) rfl w.heap.size #[.int .i64 0, .int .i64 0, .int .i64 0, .int .i64 0, .int .i64 0, .int .i64 0, .int .i64 0, .string ⟨#[]⟩, .int .i64 0, .int .i64 0, .int .i64 0, .bool false, .int .i64 0, .slice none 0 0, .int .i64 0, .int .i64 0] rfl rfl 28 _ HKZ.out (by kernel_rfl) rfl (by simp [Value.oneCell']) ?_)
  generalize World.setRow _ _ _ = w7 at HD ⊢
  obtain ⟨c0, c1, c2', c3, c4, c5, c6, c7, c8, c9, c10, c11, c12, c13, c14, c15⟩ := msg_cells HD.out.1
  refine bodyPost_ret (v := .tuple #[.agg zeroM, .int .i64 21]) (by simp [results, Try.results14, go_sem, c0, c1, c2', c3, c4, c5, c6, c7, c8, c9, c10, c11, c12, c13, c14, c15, zeroM, cellsM, WM.zero]) rfl ?_
  exact ⟨rfl, HD.out.2.2⟩
set_option maxHeartbeats 8000000 in
theorem r6_Decode_neq (A : Option Addr) (c : Nat) (b : List UInt8) (w : World) (hA : BytesAt w A b) (hc : b.length ≤ c) (hm : c ≤ 9223372036854775807) (hl : b.length ≤ 200) (hyp : WM.valid (WM.taken 5 b) = true ∧ ¬ enc (WM.taken 5 b) = b) :
    Calls Try.prog 14 #[.slice A b.length c] w (fun e w' => e = .returned (.tuple #[.agg zeroM, .int .i64 21]) ∧ Below w.heap.size w w') := by
  have HL := Lib.hid hl
  have HHY := Lib.hid hyp
  clear hyp
  have hd : decide ((200 : Int) < (b.length : Int)) = false := by simp; omega
  have HX2 := Lib.hid (((Below.refl _ w).alloc (Nat.le_refl _) (.cells (cellsM WM.zero (.slice none 0 0)) 28)).alloc (by simp) (.cells (tk2 A b.length c 0) 66))
  have HKR := Lib.hid (show MsgBlk ((w.alloc (.cells (cellsM WM.zero (.slice none 0 0)) 28)).alloc (.cells (tk2 A b.length c 0) 66)) w.heap.size WM.zero (.slice none 0 0) from (Whole.new w _ _).alloc _)
  have HTK := Lib.hid (show TkAt ((w.alloc (.cells (cellsM WM.zero (.slice none 0 0)) 28)).alloc (.cells (tk2 A b.length c 0) 66)) (w.heap.size + 1) w.heap.size (b, 0) from
    ⟨A, c, by have h := Whole.new (w.alloc (.cells (cellsM WM.zero (.slice none 0 0)) 28)) 66 (tk2 A b.length c 0); have e : (w.alloc (.cells (cellsM WM.zero (.slice none 0 0)) 28)).heap.size = w.heap.size + 1 := (by simp); rw [e] at h; exact h, hA.below HX2.out, hc, hm, fun h0 ad e => by obtain ⟨bb, oo, eA, hlt, _⟩ := hA h0; rw [e] at eA; injection eA with eA; rw [eA]; exact hlt⟩)
  have HSZ := Lib.hid (show ((w.alloc (.cells (cellsM WM.zero (.slice none 0 0)) 28)).alloc (.cells (tk2 A b.length c 0) 66)).heap.size = w.heap.size + 2 by simp)
  have HBY := Lib.hid hA
  clear hA hl
  unfold tk2 at HX2 HKR HTK HSZ
  rw [show cellsM WM.zero (.slice none 0 0) = #[.int .i64 0, .int .i64 0, .int .i64 0, .int .i64 0, .int .i64 0, .int .i64 0, .int .i64 0, .string ⟨#[]⟩, .int .i64 0, .int .i64 0, .int .i64 0, .bool false, .int .i64 0, .slice none 0 0, .int .i64 0, .int .i64 0] from rfl] at HX2 HKR HTK HSZ
  go_enter Try.func14, Try.ntmps14
  go_upto_region 4 with (fail)
  generalize (w.alloc (.cells #[.int .i64 0, .int .i64 0, .int .i64 0, .int .i64 0, .int .i64 0, .int .i64 0, .int .i64 0, .string ⟨#[]⟩, .int .i64 0, .int .i64 0, .int .i64 0, .bool false, .int .i64 0, .slice none 0 0, .int .i64 0, .int .i64 0] 28)).alloc (.cells #[.slice A b.length c, .int .i64 ((0 : Nat) : Int)] 66) = wa at HX2 HKR HTK HSZ ⊢
  have HNW := Lib.hid (show MsgBlk (wa.alloc (.cells (cellsM WM.zero (.slice none 0 0)) 28)) wa.heap.size WM.zero (.slice none 0 0) from Whole.new wa _ _)
  have HDE := Lib.hid (show DeSt w WM.zero (.slice none 0 0) ((wa.alloc (.cells (cellsM WM.zero (.slice none 0 0)) 28)).setRow wa.heap.size (cellsM WM.zero (.slice none 0 0))) ∧ TkAt ((wa.alloc (.cells (cellsM WM.zero (.slice none 0 0)) 28)).setRow wa.heap.size (cellsM WM.zero (.slice none 0 0))) (w.heap.size + 1) w.heap.size (b, 0) by
    obtain ⟨hW, hM⟩ := row16 HNW.out WM.zero (.slice none 0 0)
    have hs := HSZ.out
    have hB : Below wa.heap.size wa ((wa.alloc (.cells (cellsM WM.zero (.slice none 0 0)) 28)).setRow wa.heap.size (cellsM WM.zero (.slice none 0 0))) := ((Below.refl _ wa).alloc (Nat.le_refl _) _).trans (hM.below (by simp) (by simp))
    have hz := hM.size
    rw [World.size_alloc] at hz
    refine ⟨⟨(Mod.of_below hB []).whole HKR.out (by simp), by rw [← hs]; exact hW, below_on HX2.out hB, by omega⟩, HTK.out.below hB⟩)
  have HT := Lib.hid HDE.out.1
  have HK := Lib.hid HDE.out.2
  clear HDE HX2 HKR HTK
  unfold cellsM WM.zero at HNW
  rw [show cellsM WM.zero (.slice none 0 0) = #[.int .i64 0, .int .i64 0, .int .i64 0, .int .i64 0, .int .i64 0, .int .i64 0, .int .i64 0, .string ⟨#[]⟩, .int .i64 0, .int .i64 0, .int .i64 0, .bool false, .int .i64 0, .slice none 0 0, .int .i64 0, .int .i64 0] from rfl] at HT HK
  go_upto_region 5 with (refine wpList_store_row rfl 28 (.tmp 5) (.tmp 16) rfl wa.heap.size #[.int .i64 0, .int .i64 0, .int .i64 0, .int .i64 0, .int .i64 0, .int .i64 0, .int .i64 0, .string ⟨#[]⟩, .int .i64 0, .int .i64 0, .int .i64 0, .bool false, .int .i64 0, .slice none 0 0, .int .i64 0, .int .i64 0] rfl rfl 28 _ HNW.out (by kernel_rfl) rfl (by simp [Value.oneCell']) ?_)
  generalize World.setRow _ _ _ = w0 at HT HK ⊢
  rw [HSZ.out]
  clear HNW HSZ
  go_wp2_with fail
  refine (r6_tnum (w.heap.size + 1) w.heap.size (b, 0) _ HK.out).mono ?_
  rintro e x1 ⟨rfl, h2, hm2⟩
  have HT2 := Lib.hid (HT.out.num hm2)
  have HK2 := Lib.hid h2
  clear h2 hm2 HT HK
  generalize ha : WM.tnum (b, 0) = t1 at HK2 ⊢
  obtain ⟨n1, s1⟩ := t1
  have HA1 := Lib.hid ha
  clear ha
  dsimp only at HK2 ⊢
  obtain ⟨c0, c1, c2', c3, c4, c5, c6, c7, c8, c9, c10, c11, c12, c13, c14, c15⟩ := msg_cells HT2.out.kb
  have f0 := HT2.out.kb.frozen 0
  go_upto_region 6 with (fail)
  have HT := Lib.hid (HT2.out.store (i := 0) (x := .int .i64 n1) (m' := { WM.zero with kind := n1 }) (sv' := .slice none 0 0) rfl)
  have HK := Lib.hid (tk_store (i := 0) (x := .int .i64 n1) (g := w.heap.size + 2) HK2.out (by omega) (by omega))
  clear HT2 HK2 f0 c0 c1 c2' c3 c4 c5 c6 c7 c8 c9 c10 c11 c12 c13 c14 c15
  generalize World.setCell _ _ _ = y1 at HT HK ⊢
  go_wp2_with fail
  refine (r6_tnum (w.heap.size + 1) w.heap.size s1 _ HK.out).mono ?_
  rintro e x2 ⟨rfl, h2, hm2⟩
  have HT2 := Lib.hid (HT.out.num hm2)
  have HK2 := Lib.hid h2
  clear h2 hm2 HT HK
  generalize ha : WM.tnum s1 = t2 at HK2 ⊢
  obtain ⟨n2, s2⟩ := t2
  have HA2 := Lib.hid ha
  clear ha
  dsimp only at HK2 ⊢
  obtain ⟨c0, c1, c2', c3, c4, c5, c6, c7, c8, c9, c10, c11, c12, c13, c14, c15⟩ := msg_cells HT2.out.kb
  have f1 := HT2.out.kb.frozen 1
  go_upto_region 7 with (fail)
  have HT := Lib.hid (HT2.out.store (i := 1) (x := .int .i64 n2) (m' := { WM.zero with kind := n1, frm := n2 }) (sv' := .slice none 0 0) rfl)
  have HK := Lib.hid (tk_store (i := 1) (x := .int .i64 n2) (g := w.heap.size + 2) HK2.out (by omega) (by omega))
  clear HT2 HK2 f1 c0 c1 c2' c3 c4 c5 c6 c7 c8 c9 c10 c11 c12 c13 c14 c15
  generalize World.setCell _ _ _ = y2 at HT HK ⊢
  go_wp2_with fail
  refine (r6_tnum (w.heap.size + 1) w.heap.size s2 _ HK.out).mono ?_
  rintro e x3 ⟨rfl, h2, hm2⟩
  have HT2 := Lib.hid (HT.out.num hm2)
  have HK2 := Lib.hid h2
  clear h2 hm2 HT HK
  generalize ha : WM.tnum s2 = t3 at HK2 ⊢
  obtain ⟨n3, s3⟩ := t3
  have HA3 := Lib.hid ha
  clear ha
  dsimp only at HK2 ⊢
  obtain ⟨c0, c1, c2', c3, c4, c5, c6, c7, c8, c9, c10, c11, c12, c13, c14, c15⟩ := msg_cells HT2.out.kb
  have f2 := HT2.out.kb.frozen 2
  go_upto_region 8 with (fail)
  have HT := Lib.hid (HT2.out.store (i := 2) (x := .int .i64 n3) (m' := { WM.zero with kind := n1, frm := n2, dst := n3 }) (sv' := .slice none 0 0) rfl)
  have HK := Lib.hid (tk_store (i := 2) (x := .int .i64 n3) (g := w.heap.size + 2) HK2.out (by omega) (by omega))
  clear HT2 HK2 f2 c0 c1 c2' c3 c4 c5 c6 c7 c8 c9 c10 c11 c12 c13 c14 c15
  generalize World.setCell _ _ _ = y3 at HT HK ⊢
  have HLD := Lib.hid (msg_range HT.out.kb)
  have HPT := Lib.hid (show WM.taken 5 b = (WM.partT 5 { WM.zero with kind := n1, frm := n2, dst := n3 } s3).1 by rw [headT5]; unfold WM.headT; simp only [HA1.out, HA2.out, HA3.out])
  go_wp2_with (refine wpList_load_mid rfl 28 (.tmp 5) rfl (w.heap.size + 2) 0 rfl (cellsM { WM.zero with kind := n1, frm := n2, dst := n3 } (.slice none 0 0)).toList _ HLD.out Try.underlying28 rfl (by kernel_rfl) ?_)
  refine (r6_fields (w.heap.size + 1) w.heap.size s3 { WM.zero with kind := n1, frm := n2, dst := n3 } _ HK.out (by have := HT.out.size; omega) (by have := HT.out.size; omega) rfl).mono ?_
  rw [← HPT.out]
  have HWM := Lib.hid (wide_taken 5 b)
  clear HLD HPT HK HA1 HA2 HA3
  generalize hMM : WM.taken 5 b = M at HHY HWM ⊢
  have HMM := Lib.hid hMM
  clear hMM
  rintro e w4 ⟨v4, rfl, h4, hm4⟩
  obtain ⟨A4, cz4, e4, hl4, hc4⟩ := own_shape h4
  subst e4
  have HT4 := Lib.hid (HT.out.num hm4)
  have HR4 := Lib.hid ((HT4.out.row M (.slice A4 M.stamp.length cz4)))
  have HO4 := Lib.hid (gw_base (HR4.out.2.own h4 (fun k hk => by have := (h4.lt k hk).1; have := HT.out.size; simp; omega)) (show w.heap.size ≤ _ from Nat.le_trans (by omega) HT.out.size))
  have HKB4 := Lib.hid HT4.out.kb
  clear h4 hm4 HT hl4 hc4
  go_upto_region 9 with (refine wpList_store_row rfl 28 (.tmp 5) (.tmp 28) rfl (w.heap.size + 2) (cellsM M (.slice A4 M.stamp.length cz4)) rfl rfl 28 _ HKB4.out (by kernel_rfl) rfl (by simp [cellsM, Value.oneCell', WM.zero]) ?_)
  generalize World.setRow _ _ _ = w5 at HR4 HO4 ⊢
  clear HT4 HKB4
  have HT := Lib.hid HR4.out.1
  have HF := Lib.hid (show Fit6 w5 A4 cz4 M from ⟨HWM.out, IntsAt.own HO4.out, by obtain ⟨a', c', e, h1, _⟩ := own_shape HO4.out; cases e; exact h1, by obtain ⟨a', c', e, _, h1⟩ := own_shape HO4.out; cases e; exact h1⟩)
  clear HR4
  have HLD := Lib.hid (msg_range HT.out.kb)
  go_wp2_with (refine wpList_load_mid rfl 28 (.tmp 5) rfl (w.heap.size + 2) 0 rfl (cellsM M (.slice A4 M.stamp.length cz4)).toList _ HLD.out Try.underlying28 rfl (by kernel_rfl) ?_)
  clear HLD
  refine (r6_Encode_yes A4 cz4 M w5 HF.out HHY.out.1).mono ?_
  rintro e w6 ⟨v6, rfl, hg⟩
  obtain ⟨A6, cz6, e6, _, _⟩ := By.own_shape hg.out.1
  subst e6
  have HT6 := Lib.hid (HT.out.on hg.out.2)
  have hcv1 := By.str_of (c := cz6) (show By.BytesAt w6 A6 (enc M) from By.BytesAt.own hg.out.1)
  have hcv2 := By.str_of (c := c) (show By.BytesAt w6 A b from HBY.out.below HT6.out.below)
  have hne : ((⟨(enc M).toArray⟩ : ByteArray).toList != (⟨b.toArray⟩ : ByteArray).toList) = true := by
    rw [bne, path_beq]
    have : ¬ ((⟨(enc M).toArray⟩ : ByteArray) = ⟨b.toArray⟩) := fun e => HHY.out.2 (by injection e with e; simpa using e)
    rw [decide_eq_false this]
    rfl
  clear hg HT HF HO4
  obtain ⟨xa, hxa⟩ : ∃ x, x = (⟨(enc M).toArray⟩ : ByteArray) := ⟨_, rfl⟩
  obtain ⟨xb, hxb⟩ : ∃ x, x = (⟨b.toArray⟩ : ByteArray) := ⟨_, rfl⟩
  rw [← hxa] at hcv1 hne
  rw [← hxb] at hcv2 hne
  clear hxa hxb
  have hne2 : (xa.toList == xb.toList) = false := by simpa [bne] using hne
  have hne3 : ¬ xa.toList = xb.toList := by simpa using hne2
  have HD := Lib.hid (HT6.out.done WM.zero (.slice none 0 0))
  have HKZ := Lib.hid HT6.out.kr
  clear HT6
  unfold cellsM WM.zero at HKZ
  rw [show cellsM WM.zero (.slice none 0 0) = #[.int .i64 0, .int .i64 0, .int .i64 0, .int .i64 0, .int .i64 0, .int .i64 0, .int .i64 0, .string ⟨#[]⟩, .int .i64 0, .int .i64 0, .int .i64 0, .bool false, .int .i64 0, .slice none 0 0, .int .i64 0, .int .i64 0] from rfl] at HD
  go_wp2_with (refine wpList_store_row rfl 28 (.tmp 2) (.tmp 43) rfl w.heap.size #[.int .i64 0, .int .i64 0, .int .i64 0, .int .i64 0, .int .i64 0, .int .i64 0, .int .i64 0, .string ⟨#[]⟩, .int .i64 0, .int .i64 0, .int .i64 0, .bool false, .int .i64 0, .slice none 0 0, .int .i64 0, .int .i64 0] rfl rfl 28 _ HKZ.out (by kernel_rfl) rfl (by simp [Value.oneCell']) ?_)
  generalize World.setRow _ _ _ = w7 at HD ⊢
  obtain ⟨c0, c1, c2', c3, c4, c5, c6, c7, c8, c9, c10, c11, c12, c13, c14, c15⟩ := msg_cells HD.out.1
  refine bodyPost_ret (v := .tuple #[.agg zeroM, .int .i64 21]) (by simp [results, Try.results14, go_sem, c0, c1, c2', c3, c4, c5, c6, c7, c8, c9, c10, c11, c12, c13, c14, c15, zeroM, cellsM, WM.zero]) rfl ?_
  exact ⟨rfl, HD.out.2.2⟩
set_option maxHeartbeats 8000000 in
theorem r6_Decode_ok (A : Option Addr) (c : Nat) (b : List UInt8) (w : World) (hA : BytesAt w A b) (hc : b.length ≤ c) (hm : c ≤ 9223372036854775807) (hl : b.length ≤ 200) (hyp : WM.valid (WM.taken 5 b) = true ∧ enc (WM.taken 5 b) = b) :
    Calls Try.prog 14 #[.slice A b.length c] w (fun e w' => ∃ A' c', e = .returned (.tuple #[.agg (cellsM (WM.taken 5 b) (.slice A' (WM.taken 5 b).stamp.length c')), .int .i64 0]) ∧ Hid (w'.ownsRow w.heap.size 3 1 (.slice A' (WM.taken 5 b).stamp.length c') (WM.taken 5 b).stamp.length (i64s (WM.taken 5 b).stamp)) ∧ Below w.heap.size w w') := by
  have HL := Lib.hid hl
  have HHY := Lib.hid hyp
  clear hyp
  have hd : decide ((200 : Int) < (b.length : Int)) = false := by simp; omega
  have HX2 := Lib.hid (((Below.refl _ w).alloc (Nat.le_refl _) (.cells (cellsM WM.zero (.slice none 0 0)) 28)).alloc (by simp) (.cells (tk2 A b.length c 0) 66))
  have HKR := Lib.hid (show MsgBlk ((w.alloc (.cells (cellsM WM.zero (.slice none 0 0)) 28)).alloc (.cells (tk2 A b.length c 0) 66)) w.heap.size WM.zero (.slice none 0 0) from (Whole.new w _ _).alloc _)
  have HTK := Lib.hid (show TkAt ((w.alloc (.cells (cellsM WM.zero (.slice none 0 0)) 28)).alloc (.cells (tk2 A b.length c 0) 66)) (w.heap.size + 1) w.heap.size (b, 0) from
    ⟨A, c, by have h := Whole.new (w.alloc (.cells (cellsM WM.zero (.slice none 0 0)) 28)) 66 (tk2 A b.length c 0); have e : (w.alloc (.cells (cellsM WM.zero (.slice none 0 0)) 28)).heap.size = w.heap.size + 1 := (by simp); rw [e] at h; exact h, hA.below HX2.out, hc, hm, fun h0 ad e => by obtain ⟨bb, oo, eA, hlt, _⟩ := hA h0; rw [e] at eA; injection eA with eA; rw [eA]; exact hlt⟩)
  have HSZ := Lib.hid (show ((w.alloc (.cells (cellsM WM.zero (.slice none 0 0)) 28)).alloc (.cells (tk2 A b.length c 0) 66)).heap.size = w.heap.size + 2 by simp)
  have HBY := Lib.hid hA
  clear hA hl
  unfold tk2 at HX2 HKR HTK HSZ
  rw [show cellsM WM.zero (.slice none 0 0) = #[.int .i64 0, .int .i64 0, .int .i64 0, .int .i64 0, .int .i64 0, .int .i64 0, .int .i64 0, .string ⟨#[]⟩, .int .i64 0, .int .i64 0, .int .i64 0, .bool false, .int .i64 0, .slice none 0 0, .int .i64 0, .int .i64 0] from rfl] at HX2 HKR HTK HSZ
  go_enter Try.func14, Try.ntmps14
  go_upto_region 4 with (fail)
  generalize (w.alloc (.cells #[.int .i64 0, .int .i64 0, .int .i64 0, .int .i64 0, .int .i64 0, .int .i64 0, .int .i64 0, .string ⟨#[]⟩, .int .i64 0, .int .i64 0, .int .i64 0, .bool false, .int .i64 0, .slice none 0 0, .int .i64 0, .int .i64 0] 28)).alloc (.cells #[.slice A b.length c, .int .i64 ((0 : Nat) : Int)] 66) = wa at HX2 HKR HTK HSZ ⊢
  have HNW := Lib.hid (show MsgBlk (wa.alloc (.cells (cellsM WM.zero (.slice none 0 0)) 28)) wa.heap.size WM.zero (.slice none 0 0) from Whole.new wa _ _)
  have HDE := Lib.hid (show DeSt w WM.zero (.slice none 0 0) ((wa.alloc (.cells (cellsM WM.zero (.slice none 0 0)) 28)).setRow wa.heap.size (cellsM WM.zero (.slice none 0 0))) ∧ TkAt ((wa.alloc (.cells (cellsM WM.zero (.slice none 0 0)) 28)).setRow wa.heap.size (cellsM WM.zero (.slice none 0 0))) (w.heap.size + 1) w.heap.size (b, 0) by
    obtain ⟨hW, hM⟩ := row16 HNW.out WM.zero (.slice none 0 0)
    have hs := HSZ.out
    have hB : Below wa.heap.size wa ((wa.alloc (.cells (cellsM WM.zero (.slice none 0 0)) 28)).setRow wa.heap.size (cellsM WM.zero (.slice none 0 0))) := ((Below.refl _ wa).alloc (Nat.le_refl _) _).trans (hM.below (by simp) (by simp))
    have hz := hM.size
    rw [World.size_alloc] at hz
    refine ⟨⟨(Mod.of_below hB []).whole HKR.out (by simp), by rw [← hs]; exact hW, below_on HX2.out hB, by omega⟩, HTK.out.below hB⟩)
  have HT := Lib.hid HDE.out.1
  have HK := Lib.hid HDE.out.2
  clear HDE HX2 HKR HTK
  unfold cellsM WM.zero at HNW
  rw [show cellsM WM.zero (.slice none 0 0) = #[.int .i64 0, .int .i64 0, .int .i64 0, .int .i64 0, .int .i64 0, .int .i64 0, .int .i64 0, .string ⟨#[]⟩, .int .i64 0, .int .i64 0, .int .i64 0, .bool false, .int .i64 0, .slice none 0 0, .int .i64 0, .int .i64 0] from rfl] at HT HK
  go_upto_region 5 with (refine wpList_store_row rfl 28 (.tmp 5) (.tmp 16) rfl wa.heap.size #[.int .i64 0, .int .i64 0, .int .i64 0, .int .i64 0, .int .i64 0, .int .i64 0, .int .i64 0, .string ⟨#[]⟩, .int .i64 0, .int .i64 0, .int .i64 0, .bool false, .int .i64 0, .slice none 0 0, .int .i64 0, .int .i64 0] rfl rfl 28 _ HNW.out (by kernel_rfl) rfl (by simp [Value.oneCell']) ?_)
  generalize World.setRow _ _ _ = w0 at HT HK ⊢
  rw [HSZ.out]
  clear HNW HSZ
  go_wp2_with fail
  refine (r6_tnum (w.heap.size + 1) w.heap.size (b, 0) _ HK.out).mono ?_
  rintro e x1 ⟨rfl, h2, hm2⟩
  have HT2 := Lib.hid (HT.out.num hm2)
  have HK2 := Lib.hid h2
  clear h2 hm2 HT HK
  generalize ha : WM.tnum (b, 0) = t1 at HK2 ⊢
  obtain ⟨n1, s1⟩ := t1
  have HA1 := Lib.hid ha
  clear ha
  dsimp only at HK2 ⊢
  obtain ⟨c0, c1, c2', c3, c4, c5, c6, c7, c8, c9, c10, c11, c12, c13, c14, c15⟩ := msg_cells HT2.out.kb
  have f0 := HT2.out.kb.frozen 0
  go_upto_region 6 with (fail)
  have HT := Lib.hid (HT2.out.store (i := 0) (x := .int .i64 n1) (m' := { WM.zero with kind := n1 }) (sv' := .slice none 0 0) rfl)
  have HK := Lib.hid (tk_store (i := 0) (x := .int .i64 n1) (g := w.heap.size + 2) HK2.out (by omega) (by omega))
  clear HT2 HK2 f0 c0 c1 c2' c3 c4 c5 c6 c7 c8 c9 c10 c11 c12 c13 c14 c15
  generalize World.setCell _ _ _ = y1 at HT HK ⊢
  go_wp2_with fail
  refine (r6_tnum (w.heap.size + 1) w.heap.size s1 _ HK.out).mono ?_
  rintro e x2 ⟨rfl, h2, hm2⟩
  have HT2 := Lib.hid (HT.out.num hm2)
  have HK2 := Lib.hid h2
  clear h2 hm2 HT HK
  generalize ha : WM.tnum s1 = t2 at HK2 ⊢
  obtain ⟨n2, s2⟩ := t2
  have HA2 := Lib.hid ha
  clear ha
  dsimp only at HK2 ⊢
  obtain ⟨c0, c1, c2', c3, c4, c5, c6, c7, c8, c9, c10, c11, c12, c13, c14, c15⟩ := msg_cells HT2.out.kb
  have f1 := HT2.out.kb.frozen 1
  go_upto_region 7 with (fail)
  have HT := Lib.hid (HT2.out.store (i := 1) (x := .int .i64 n2) (m' := { WM.zero with kind := n1, frm := n2 }) (sv' := .slice none 0 0) rfl)
  have HK := Lib.hid (tk_store (i := 1) (x := .int .i64 n2) (g := w.heap.size + 2) HK2.out (by omega) (by omega))
  clear HT2 HK2 f1 c0 c1 c2' c3 c4 c5 c6 c7 c8 c9 c10 c11 c12 c13 c14 c15
  generalize World.setCell _ _ _ = y2 at HT HK ⊢
  go_wp2_with fail
  refine (r6_tnum (w.heap.size + 1) w.heap.size s2 _ HK.out).mono ?_
  rintro e x3 ⟨rfl, h2, hm2⟩
  have HT2 := Lib.hid (HT.out.num hm2)
  have HK2 := Lib.hid h2
  clear h2 hm2 HT HK
  generalize ha : WM.tnum s2 = t3 at HK2 ⊢
  obtain ⟨n3, s3⟩ := t3
  have HA3 := Lib.hid ha
  clear ha
  dsimp only at HK2 ⊢
  obtain ⟨c0, c1, c2', c3, c4, c5, c6, c7, c8, c9, c10, c11, c12, c13, c14, c15⟩ := msg_cells HT2.out.kb
  have f2 := HT2.out.kb.frozen 2
  go_upto_region 8 with (fail)
  have HT := Lib.hid (HT2.out.store (i := 2) (x := .int .i64 n3) (m' := { WM.zero with kind := n1, frm := n2, dst := n3 }) (sv' := .slice none 0 0) rfl)
  have HK := Lib.hid (tk_store (i := 2) (x := .int .i64 n3) (g := w.heap.size + 2) HK2.out (by omega) (by omega))
  clear HT2 HK2 f2 c0 c1 c2' c3 c4 c5 c6 c7 c8 c9 c10 c11 c12 c13 c14 c15
  generalize World.setCell _ _ _ = y3 at HT HK ⊢
  have HLD := Lib.hid (msg_range HT.out.kb)
  have HPT := Lib.hid (show WM.taken 5 b = (WM.partT 5 { WM.zero with kind := n1, frm := n2, dst := n3 } s3).1 by rw [headT5]; unfold WM.headT; simp only [HA1.out, HA2.out, HA3.out])
  go_wp2_with (refine wpList_load_mid rfl 28 (.tmp 5) rfl (w.heap.size + 2) 0 rfl (cellsM { WM.zero with kind := n1, frm := n2, dst := n3 } (.slice none 0 0)).toList _ HLD.out Try.underlying28 rfl (by kernel_rfl) ?_)
  refine (r6_fields (w.heap.size + 1) w.heap.size s3 { WM.zero with kind := n1, frm := n2, dst := n3 } _ HK.out (by have := HT.out.size; omega) (by have := HT.out.size; omega) rfl).mono ?_
  rw [← HPT.out]
  have HWM := Lib.hid (wide_taken 5 b)
  clear HLD HPT HK HA1 HA2 HA3
  generalize hMM : WM.taken 5 b = M at HHY HWM ⊢
  have HMM := Lib.hid hMM
  clear hMM
  rintro e w4 ⟨v4, rfl, h4, hm4⟩
  obtain ⟨A4, cz4, e4, hl4, hc4⟩ := own_shape h4
  subst e4
  have HT4 := Lib.hid (HT.out.num hm4)
  have HR4 := Lib.hid ((HT4.out.row M (.slice A4 M.stamp.length cz4)))
  have HO4 := Lib.hid (gw_base (HR4.out.2.own h4 (fun k hk => by have := (h4.lt k hk).1; have := HT.out.size; simp; omega)) (show w.heap.size ≤ _ from Nat.le_trans (by omega) HT.out.size))
  have HKB4 := Lib.hid HT4.out.kb
  clear h4 hm4 HT hl4 hc4
  go_upto_region 9 with (refine wpList_store_row rfl 28 (.tmp 5) (.tmp 28) rfl (w.heap.size + 2) (cellsM M (.slice A4 M.stamp.length cz4)) rfl rfl 28 _ HKB4.out (by kernel_rfl) rfl (by simp [cellsM, Value.oneCell', WM.zero]) ?_)
  generalize World.setRow _ _ _ = w5 at HR4 HO4 ⊢
  clear HT4 HKB4
  have HT := Lib.hid HR4.out.1
  have HF := Lib.hid (show Fit6 w5 A4 cz4 M from ⟨HWM.out, IntsAt.own HO4.out, by obtain ⟨a', c', e, h1, _⟩ := own_shape HO4.out; cases e; exact h1, by obtain ⟨a', c', e, _, h1⟩ := own_shape HO4.out; cases e; exact h1⟩)
  clear HR4
  have HLD := Lib.hid (msg_range HT.out.kb)
  go_wp2_with (refine wpList_load_mid rfl 28 (.tmp 5) rfl (w.heap.size + 2) 0 rfl (cellsM M (.slice A4 M.stamp.length cz4)).toList _ HLD.out Try.underlying28 rfl (by kernel_rfl) ?_)
  clear HLD
  refine (r6_Encode_yes A4 cz4 M w5 HF.out HHY.out.1).mono ?_
  rintro e w6 ⟨v6, rfl, hg⟩
  obtain ⟨A6, cz6, e6, _, _⟩ := By.own_shape hg.out.1
  subst e6
  have HT6 := Lib.hid (HT.out.on hg.out.2)
  have HO6 := Lib.hid ((Mod.of_below hg.out.2 []).own HO4.out (by simp))
  have hcv1 := By.str_of (c := cz6) (show By.BytesAt w6 A6 (enc M) from By.BytesAt.own hg.out.1)
  have hcv2 := By.str_of (c := c) (show By.BytesAt w6 A b from HBY.out.below HT6.out.below)
  have HEQ := Lib.hid HHY.out.2
  rw [HEQ.out] at hcv1
  have hle : (enc M).length = b.length := by rw [HEQ.out]
  rw [hle]
  clear hg HT HF HO4 hle
  have HD := Lib.hid (HT6.out.done M (.slice A4 M.stamp.length cz4))
  have HKZ := Lib.hid HT6.out.kr
  have HLD := Lib.hid (msg_range HT6.out.kb)
  go_wp2_with (first | (refine wpList_load_mid rfl 28 (.tmp 5) rfl (w.heap.size + 2) 0 rfl (cellsM M (.slice A4 M.stamp.length cz4)).toList _ HLD.out Try.underlying28 rfl (by kernel_rfl) ?_) | (refine wpList_store_row rfl 28 (.tmp 2) (.tmp 44) rfl w.heap.size (cellsM M (.slice A4 M.stamp.length cz4)) rfl rfl 28 _ HKZ.out (by kernel_rfl) rfl (by simp [cellsM, Value.oneCell']) ?_))
  have HO7 := Lib.hid (HD.out.2.1.own HO6.out (fun k hk => by
    have h1 := (HO6.out.lt k hk).1
    have h2 := own_ne HO6.out HT6.out.kr (by decide)
    intro hx
    simp at hx
    exact h2 (by rw [hk, hx])))
  generalize World.setRow _ _ _ = w7 at HD HO7 ⊢
  obtain ⟨c0, c1, c2', c3, c4, c5, c6, c7, c8, c9, c10, c11, c12, c13, c14, c15⟩ := msg_cells HD.out.1
  refine bodyPost_ret (v := .tuple #[.agg (cellsM M (.slice A4 M.stamp.length cz4)), .int .i64 0]) (by simp [results, Try.results14, go_sem, c0, c1, c2', c3, c4, c5, c6, c7, c8, c9, c10, c11, c12, c13, c14, c15, cellsM]) rfl ?_
  rw [HMM.out]
  exact ⟨A4, cz4, rfl, HO7, HD.out.2.2⟩
theorem r6_Decode_no' (A : Option Addr) (c : Nat) (b : List UInt8) (w : World) (hA : BytesAt w A b) (hc : b.length ≤ c) (hm : c ≤ 9223372036854775807) (h : dec b = false) :
    Calls Try.prog 14 #[.slice A b.length c] w fun e w' => e = .returned (.tuple #[.agg zeroM, .int .i64 21]) ∧ Below w.heap.size w w' := by
  by_cases h1 : b.length ≤ 200
  · cases h2 : WM.valid (WM.taken 5 b) with
    | false => exact r6_Decode_bad A c b w hA hc hm h1 h2
    | true => exact r6_Decode_neq A c b w hA hc hm h1 ⟨h2, dec_five_no h h1 h2⟩
  · exact r6_Decode_long A c b w (by omega)
theorem r6_Decode_no (A : Option Addr) (c : Nat) (b : List UInt8) (w : World) (hA : BytesAt w A b) (hc : b.length ≤ c) (hm : c ≤ 9223372036854775807) (h : dec b = false) :
    Calls Try.prog 14 #[.slice A b.length c] w fun e w' => e = .returned (.tuple #[.agg zeroM, .int .i64 21]) ∧ Below w.heap.size w w' := r6_Decode_no' A c b w hA hc hm h
theorem r6_Decode_yes (A : Option Addr) (c : Nat) (b : List UInt8) (w : World) (hA : BytesAt w A b) (hc : b.length ≤ c) (hm : c ≤ 9223372036854775807) (h : dec b = true) :
    Calls Try.prog 14 #[.slice A b.length c] w fun e w' => ∃ A' c', e = .returned (.tuple #[.agg (cellsM (WM.taken 4 b) (.slice A' (WM.taken 4 b).stamp.length c')), .int .i64 0]) ∧ Hid (w'.ownsRow w.heap.size 3 1 (.slice A' (WM.taken 4 b).stamp.length c') (WM.taken 4 b).stamp.length (i64s (WM.taken 4 b).stamp)) ∧ Below w.heap.size w w' := by
  obtain ⟨h1, h2, h3, h4⟩ := dec_five h
  have := r6_Decode_ok A c b w hA hc hm h1 ⟨h3, h4⟩
  rw [h2] at this
  exact this
end Go.Proofs.Ytboflkadabagfaa
namespace Go.Proofs.Ytboflkadabagfaa
open Go.RowKit
open Oct (BytesAt u8s)
open WM (Msg)
set_option linter.unusedVariables false
set_option linter.unusedSimpArgs false
set_option maxRecDepth 100000
/-- The message that Decode answers, and its error. -/
def decM (b : List UInt8) : Msg := if dec b = true then WM.taken 4 b else WM.zero
def decC (b : List UInt8) : Int := if dec b = true then 0 else 21
theorem decM_wide (b : List UInt8) : Wide (decM b) := by
  unfold decM
  split
  · exact wide_taken 4 b
  · exact wide_zero
def DecP (w : World) (b : List UInt8) (e : Ending) (w' : World) : Prop := ∃ A c, e = .returned (.tuple #[.agg (cellsM (decM b) (.slice A (decM b).stamp.length c)), .int .i64 (decC b)]) ∧ Hid (w'.ownsRow w.heap.size 3 1 (.slice A (decM b).stamp.length c) (decM b).stamp.length (i64s (decM b).stamp)) ∧ Below w.heap.size w w'
theorem zero_no {w w' : World} {b : List UInt8} (h : dec b = false) (hb : Below w.heap.size w w') : DecP w b (.returned (.tuple #[.agg zeroM, .int .i64 21])) w' := by
  have e1 : decM b = WM.zero := if_neg (by rw [h]; decide)
  have e2 : decC b = 21 := if_neg (by rw [h]; decide)
  unfold DecP
  rw [e1, e2]
  exact ⟨none, 0, rfl, Lib.hid (World.ownsRow_nil _ _ _ _), hb⟩
theorem wDec_any (A : Option Addr) (c : Nat) (b : List UInt8) (w : World) (hB : Oct.BytesAt w A b) (hl : b.length ≤ 140737488355328) : Calls Try.prog 13 #[.slice A b.length c] w (DecP w b) := by
  cases hd : dec b with
  | false =>
    refine (Decode_no A c b w hB hl hd).mono ?_
    rintro e w' ⟨rfl, hb⟩
    exact zero_no hd hb
  | true =>
    have e1 : decM b = WM.taken 4 b := if_pos hd
    have e2 : decC b = 0 := if_pos hd
    refine (Decode_ok A c b w hB hd).mono ?_
    rintro e w' ⟨A', c', rfl, ho, hb⟩
    unfold DecP
    rw [e1, e2]
    exact ⟨A', c', rfl, ho, hb⟩
theorem rDec_any (A : Option Addr) (c : Nat) (b : List UInt8) (w : World) (hB : Oct.BytesAt w A b) (hc : b.length ≤ c) (hm : c ≤ 9223372036854775807) : Calls Try.prog 14 #[.slice A b.length c] w (DecP w b) := by
  cases hd : dec b with
  | false =>
    refine (r6_Decode_no A c b w hB hc hm hd).mono ?_
    rintro e w' ⟨rfl, hb⟩
    exact zero_no hd hb
  | true =>
    have e1 : decM b = WM.taken 4 b := if_pos hd
    have e2 : decC b = 0 := if_pos hd
    refine (r6_Decode_yes A c b w hB hc hm hd).mono ?_
    rintro e w' ⟨A', c', rfl, ho, hb⟩
    unfold DecP
    rw [e1, e2]
    exact ⟨A', c', rfl, ho, hb⟩
end Go.Proofs.Ytboflkadabagfaa
