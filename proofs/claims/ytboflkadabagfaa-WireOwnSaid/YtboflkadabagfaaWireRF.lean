/- Texts that belong together: WireR9, WireR10. -/
import Derived.Test.YtboflkadabagfaaWireRE
namespace Go.Proofs.Ytboflkadabagfaa
open Go.RowKit
open Oct (BytesAt u8s)
open WM (Msg)
set_option linter.unusedVariables false
set_option linter.unusedSimpArgs false
set_option maxRecDepth 100000
set_option maxHeartbeats 8000000 in
theorem fd6_1 (q B : Nat) (s : WM.St) (m : Msg) (w : World) (h : TkAt w q B s) (hB : B ≤ w.heap.size) (hq : q < w.heap.size) (hs : m.stamp = []) (hk : m.kind = 1) :
    Calls Try.prog 38 #[.pointer (some ⟨q, 0, none⟩), .agg (cellsM m (.slice none 0 0))] w (Fields6 w q (WM.partT 5 m s).1) := by
  have HKK := Lib.hid hk
  clear hk
  have HX := Lib.hid (((Below.refl _ w).alloc (Nat.le_refl _) (.cells (cellsM m (.slice none 0 0)) 28)).alloc (by simp) (.cells #[.int .i64 0, .int .i64 0, .int .i64 0, .int .i64 0, .int .i64 0, .int .i64 0, .int .i64 0, .string ⟨#[]⟩, .int .i64 0, .int .i64 0, .int .i64 0, .bool false, .int .i64 0, .slice none 0 0, .int .i64 0, .int .i64 0] 28))
  have HK := Lib.hid (show MsgBlk ((w.alloc (.cells (cellsM m (.slice none 0 0)) 28)).alloc (.cells #[.int .i64 0, .int .i64 0, .int .i64 0, .int .i64 0, .int .i64 0, .int .i64 0, .int .i64 0, .string ⟨#[]⟩, .int .i64 0, .int .i64 0, .int .i64 0, .bool false, .int .i64 0, .slice none 0 0, .int .i64 0, .int .i64 0] 28)) w.heap.size m (.slice none 0 0) from (Whole.new w 28 (cellsM m (.slice none 0 0))).alloc (.cells #[.int .i64 0, .int .i64 0, .int .i64 0, .int .i64 0, .int .i64 0, .int .i64 0, .int .i64 0, .string ⟨#[]⟩, .int .i64 0, .int .i64 0, .int .i64 0, .bool false, .int .i64 0, .slice none 0 0, .int .i64 0, .int .i64 0] 28))
  have HZ := Lib.hid (show MsgBlk ((w.alloc (.cells (cellsM m (.slice none 0 0)) 28)).alloc (.cells #[.int .i64 0, .int .i64 0, .int .i64 0, .int .i64 0, .int .i64 0, .int .i64 0, .int .i64 0, .string ⟨#[]⟩, .int .i64 0, .int .i64 0, .int .i64 0, .bool false, .int .i64 0, .slice none 0 0, .int .i64 0, .int .i64 0] 28)) (w.heap.size + 1) WM.zero (.slice none 0 0) from by have h := Whole.new (w.alloc (.cells (cellsM m (.slice none 0 0)) 28)) 28 (cellsM WM.zero (.slice none 0 0)); have e : (w.alloc (.cells (cellsM m (.slice none 0 0)) 28)).heap.size = w.heap.size + 1 := (by simp); rw [e] at h; exact h)
  have HT := Lib.hid (show FdSt w q B m (.slice none 0 0) s ((w.alloc (.cells (cellsM m (.slice none 0 0)) 28)).alloc (.cells #[.int .i64 0, .int .i64 0, .int .i64 0, .int .i64 0, .int .i64 0, .int .i64 0, .int .i64 0, .string ⟨#[]⟩, .int .i64 0, .int .i64 0, .int .i64 0, .bool false, .int .i64 0, .slice none 0 0, .int .i64 0, .int .i64 0] 28)) from ⟨HK.out, HZ.out, h.below HX.out, Mod.of_below HX.out [q], by rw [hs]; exact World.ownsRow_nil _ _ _ _, hq, hB, by simp⟩)
  clear h hB hq HX HK HZ
  go_enter Try.func38, Try.ntmps38
  go_upto_region 1 with (fail)
  generalize (w.alloc (.cells (cellsM m (.slice none 0 0)) 28)).alloc (.cells #[.int .i64 0, .int .i64 0, .int .i64 0, .int .i64 0, .int .i64 0, .int .i64 0, .int .i64 0, .string ⟨#[]⟩, .int .i64 0, .int .i64 0, .int .i64 0, .bool false, .int .i64 0, .slice none 0 0, .int .i64 0, .int .i64 0] 28) = w1 at HT ⊢
  obtain ⟨c0, c1, c2', c3, c4, c5, c6, c7, c8, c9, c10, c11, c12, c13, c14, c15⟩ := msg_cells HT.out.kb
  rw [HKK.out] at c0
  go_wp2_with fail
  refine (r6_tnum q B s _ HT.out.tk).mono ?_
  rintro e x2 ⟨rfl, h2, hm2⟩
  have HT2 := Lib.hid (HT.out.num h2 hm2)
  clear h2 hm2 HT c0 c1 c2' c3 c4 c5 c6 c7 c8 c9 c10 c11 c12 c13 c14 c15
  generalize ha : WM.tnum s = t2 at HT2 ⊢
  obtain ⟨a2, s2⟩ := t2
  have HA2 := Lib.hid ha
  clear ha
  dsimp only at HT2 ⊢
  obtain ⟨c0, c1, c2', c3, c4, c5, c6, c7, c8, c9, c10, c11, c12, c13, c14, c15⟩ := msg_cells HT2.out.kb
  have f3 := HT2.out.kb.frozen 3
  go_upto_region 4 with (fail)
  have HT := Lib.hid (HT2.out.store (i := 3) (x := .int .i64 a2) (m' := { m with boot := a2 }) rfl rfl)
  clear HT2 f3 c0 c1 c2' c3 c4 c5 c6 c7 c8 c9 c10 c11 c12 c13 c14 c15
  generalize World.setCell _ _ _ = w3 at HT ⊢
  obtain ⟨c0, c1, c2', c3, c4, c5, c6, c7, c8, c9, c10, c11, c12, c13, c14, c15⟩ := msg_cells HT.out.kb
  go_wp2_with fail
  refine (r6_tnum q B s2 _ HT.out.tk).mono ?_
  rintro e x3 ⟨rfl, h2, hm2⟩
  have HT2 := Lib.hid (HT.out.num h2 hm2)
  clear h2 hm2 HT c0 c1 c2' c3 c4 c5 c6 c7 c8 c9 c10 c11 c12 c13 c14 c15
  generalize ha : WM.tnum s2 = t3 at HT2 ⊢
  obtain ⟨a3, s3⟩ := t3
  have HA3 := Lib.hid ha
  clear ha
  dsimp only at HT2 ⊢
  obtain ⟨c0, c1, c2', c3, c4, c5, c6, c7, c8, c9, c10, c11, c12, c13, c14, c15⟩ := msg_cells HT2.out.kb
  have f4 := HT2.out.kb.frozen 4
  go_upto_region 5 with (fail)
  have HT := Lib.hid (HT2.out.store (i := 4) (x := .int .i64 a3) (m' := { m with boot := a2, seq := a3 }) rfl rfl)
  clear HT2 f4 c0 c1 c2' c3 c4 c5 c6 c7 c8 c9 c10 c11 c12 c13 c14 c15
  generalize World.setCell _ _ _ = w4 at HT ⊢
  obtain ⟨c0, c1, c2', c3, c4, c5, c6, c7, c8, c9, c10, c11, c12, c13, c14, c15⟩ := msg_cells HT.out.kb
  go_wp2_with fail
  refine (r6_tnum q B s3 _ HT.out.tk).mono ?_
  rintro e x4 ⟨rfl, h2, hm2⟩
  have HT2 := Lib.hid (HT.out.num h2 hm2)
  clear h2 hm2 HT c0 c1 c2' c3 c4 c5 c6 c7 c8 c9 c10 c11 c12 c13 c14 c15
  generalize ha : WM.tnum s3 = t4 at HT2 ⊢
  obtain ⟨a4, s4⟩ := t4
  have HA4 := Lib.hid ha
  clear ha
  dsimp only at HT2 ⊢
  obtain ⟨c0, c1, c2', c3, c4, c5, c6, c7, c8, c9, c10, c11, c12, c13, c14, c15⟩ := msg_cells HT2.out.kb
  have f5 := HT2.out.kb.frozen 5
  go_upto_region 6 with (fail)
  have HT := Lib.hid (HT2.out.store (i := 5) (x := .int .i64 a4) (m' := { m with boot := a2, seq := a3, low := a4 }) rfl rfl)
  clear HT2 f5 c0 c1 c2' c3 c4 c5 c6 c7 c8 c9 c10 c11 c12 c13 c14 c15
  generalize World.setCell _ _ _ = w5 at HT ⊢
  obtain ⟨c0, c1, c2', c3, c4, c5, c6, c7, c8, c9, c10, c11, c12, c13, c14, c15⟩ := msg_cells HT.out.kb
  go_wp2_with fail
  refine (r6_tnum q B s4 _ HT.out.tk).mono ?_
  rintro e x5 ⟨rfl, h2, hm2⟩
  have HT2 := Lib.hid (HT.out.num h2 hm2)
  clear h2 hm2 HT c0 c1 c2' c3 c4 c5 c6 c7 c8 c9 c10 c11 c12 c13 c14 c15
  generalize ha : WM.tnum s4 = t5 at HT2 ⊢
  obtain ⟨a5, s5⟩ := t5
  have HA5 := Lib.hid ha
  clear ha
  dsimp only at HT2 ⊢
  obtain ⟨c0, c1, c2', c3, c4, c5, c6, c7, c8, c9, c10, c11, c12, c13, c14, c15⟩ := msg_cells HT2.out.kb
  have f6 := HT2.out.kb.frozen 6
  go_upto_region 7 with (fail)
  have HT := Lib.hid (HT2.out.store (i := 6) (x := .int .i64 a5) (m' := { m with boot := a2, seq := a3, low := a4, verb := a5 }) rfl rfl)
  clear HT2 f6 c0 c1 c2' c3 c4 c5 c6 c7 c8 c9 c10 c11 c12 c13 c14 c15
  generalize World.setCell _ _ _ = w6 at HT ⊢
  obtain ⟨c0, c1, c2', c3, c4, c5, c6, c7, c8, c9, c10, c11, c12, c13, c14, c15⟩ := msg_cells HT.out.kb
  by_cases hc : a5 = 1
  · skip
    have HC := Lib.hid hc
    have HCN := Lib.hid hc
    rw [hc] at c6
    clear hc
    go_wp2_with fail
    refine (r6_ttext q B s5 _ HT.out.tk).mono ?_
    rintro e x6 ⟨rfl, h2, hm2⟩
    have HT2 := Lib.hid (HT.out.num h2 hm2)
    clear h2 hm2 HT c0 c1 c2' c3 c4 c5 c6 c7 c8 c9 c10 c11 c12 c13 c14 c15
    generalize ha : WM.ttext s5 = t6 at HT2 ⊢
    obtain ⟨a6, s6⟩ := t6
    have HA6 := Lib.hid ha
    clear ha
    dsimp only at HT2 ⊢
    obtain ⟨c0, c1, c2', c3, c4, c5, c6, c7, c8, c9, c10, c11, c12, c13, c14, c15⟩ := msg_cells HT2.out.kb
    have f7 := HT2.out.kb.frozen 7
    go_upto_region 10 with (fail)
    have HT := Lib.hid (HT2.out.store (i := 7) (x := .string a6) (m' := { m with boot := a2, seq := a3, low := a4, verb := a5, path := a6 }) rfl rfl)
    clear HT2 f7 c0 c1 c2' c3 c4 c5 c6 c7 c8 c9 c10 c11 c12 c13 c14 c15
    generalize World.setCell _ _ _ = w7 at HT ⊢
    obtain ⟨c0, c1, c2', c3, c4, c5, c6, c7, c8, c9, c10, c11, c12, c13, c14, c15⟩ := msg_cells HT.out.kb
    go_wp2_with fail
    refine (r6_tnum q B s6 _ HT.out.tk).mono ?_
    rintro e x7 ⟨rfl, h2, hm2⟩
    have HT2 := Lib.hid (HT.out.num h2 hm2)
    clear h2 hm2 HT c0 c1 c2' c3 c4 c5 c6 c7 c8 c9 c10 c11 c12 c13 c14 c15
    generalize ha : WM.tnum s6 = t7 at HT2 ⊢
    obtain ⟨a7, s7⟩ := t7
    have HA7 := Lib.hid ha
    clear ha
    dsimp only at HT2 ⊢
    obtain ⟨c0, c1, c2', c3, c4, c5, c6, c7, c8, c9, c10, c11, c12, c13, c14, c15⟩ := msg_cells HT2.out.kb
    have f8 := HT2.out.kb.frozen 8
    go_upto_region 11 with (fail)
    have HT := Lib.hid (HT2.out.store (i := 8) (x := .int .i64 a7) (m' := { m with boot := a2, seq := a3, low := a4, verb := a5, path := a6, mode := a7 }) rfl rfl)
    clear HT2 f8 c0 c1 c2' c3 c4 c5 c6 c7 c8 c9 c10 c11 c12 c13 c14 c15
    generalize World.setCell _ _ _ = w8 at HT ⊢
    obtain ⟨c0, c1, c2', c3, c4, c5, c6, c7, c8, c9, c10, c11, c12, c13, c14, c15⟩ := msg_cells HT.out.kb
    go_wp2_with fail
    refine (r6_tnum q B s7 _ HT.out.tk).mono ?_
    rintro e x8 ⟨rfl, h2, hm2⟩
    have HT2 := Lib.hid (HT.out.num h2 hm2)
    clear h2 hm2 HT c0 c1 c2' c3 c4 c5 c6 c7 c8 c9 c10 c11 c12 c13 c14 c15
    generalize ha : WM.tnum s7 = t8 at HT2 ⊢
    obtain ⟨a8, s8⟩ := t8
    have HA8 := Lib.hid ha
    clear ha
    dsimp only at HT2 ⊢
    obtain ⟨c0, c1, c2', c3, c4, c5, c6, c7, c8, c9, c10, c11, c12, c13, c14, c15⟩ := msg_cells HT2.out.kb
    have f9 := HT2.out.kb.frozen 9
    go_upto_region 40 with (fail)
    have HT := Lib.hid (HT2.out.store (i := 9) (x := .int .i64 a8) (m' := { m with boot := a2, seq := a3, low := a4, verb := a5, path := a6, mode := a7, term := a8 }) rfl rfl)
    clear HT2 f9 c0 c1 c2' c3 c4 c5 c6 c7 c8 c9 c10 c11 c12 c13 c14 c15
    generalize World.setCell _ _ _ = w9 at HT ⊢
    obtain ⟨c0, c1, c2', c3, c4, c5, c6, c7, c8, c9, c10, c11, c12, c13, c14, c15⟩ := msg_cells HT.out.kb
    go_upto_region 40 with (fail)
    clear c0 c1 c2' c3 c4 c5 c6 c7 c8 c9 c10 c11 c12 c13 c14 c15
    have HP := Lib.hid (show (WM.partT 5 m s).1 = { m with boot := a2, seq := a3, low := a4, verb := a5, path := a6, mode := a7, term := a8 } by
      have hk := HKK.out
      simp [WM.partT, WM.askT, WM.replyT, WM.recallT, WM.doneT, WM.opT, hk, HA2.out, HA3.out, HA4.out, HA5.out, HC.out, HA6.out, HA7.out, HA8.out])
    have HD := Lib.hid HT.out.done
    have HLD := Lib.hid (msg_range HT.out.kb)
    have HKZ := Lib.hid HT.out.kz
    have hv1 : ((.slice none 0 0) : Value).oneCell' = true := rfl
    go_wp2_with (first | (refine wpList_load_mid rfl 28 (.tmp 3) rfl w.heap.size 0 rfl (cellsM { m with boot := a2, seq := a3, low := a4, verb := a5, path := a6, mode := a7, term := a8 } (.slice none 0 0)).toList _ HLD.out Try.underlying28 rfl (by kernel_rfl) ?_) | (refine wpList_store_row rfl 28 (.tmp 4) (.tmp 112) rfl (w.heap.size + 1) (cellsM { m with boot := a2, seq := a3, low := a4, verb := a5, path := a6, mode := a7, term := a8 } (.slice none 0 0)) rfl rfl 28 _ HKZ.out (by kernel_rfl) rfl (by simp [cellsM, Value.oneCell']) ?_))
    generalize World.setRow _ _ _ = w6 at HD ⊢
    obtain ⟨c0, c1, c2', c3, c4, c5, c6, c7, c8, c9, c10, c11, c12, c13, c14, c15⟩ := msg_cells HD.out.1
    change bodyPost Try.prog _ _ Exit.ret _ _
    refine bodyPost_ret (v := .agg (cellsM { m with boot := a2, seq := a3, low := a4, verb := a5, path := a6, mode := a7, term := a8 } (.slice none 0 0))) (by simp [results, Try.results38, go_sem, c0, c1, c2', c3, c4, c5, c6, c7, c8, c9, c10, c11, c12, c13, c14, c15, cellsM]) rfl ?_
    rw [HP.out]
    exact HD.out.2
  have d1 : (a5 == 1) = false := by simpa using hc
  have HN1 := Lib.hid hc
  clear hc
  by_cases hc : a5 = 2
  · skip
    have HC := Lib.hid hc
    have HCN := Lib.hid hc
    rw [hc] at c6
    clear hc
    go_wp2_with fail
    refine (r6_tnum q B s5 _ HT.out.tk).mono ?_
    rintro e x6 ⟨rfl, h2, hm2⟩
    have HT2 := Lib.hid (HT.out.num h2 hm2)
    clear h2 hm2 HT c0 c1 c2' c3 c4 c5 c6 c7 c8 c9 c10 c11 c12 c13 c14 c15
    generalize ha : WM.tnum s5 = t6 at HT2 ⊢
    obtain ⟨a6, s6⟩ := t6
    have HA6 := Lib.hid ha
    clear ha
    dsimp only at HT2 ⊢
    obtain ⟨c0, c1, c2', c3, c4, c5, c6, c7, c8, c9, c10, c11, c12, c13, c14, c15⟩ := msg_cells HT2.out.kb
    have f10 := HT2.out.kb.frozen 10
    go_upto_region 14 with (fail)
    have HT := Lib.hid (HT2.out.store (i := 10) (x := .int .i64 a6) (m' := { m with boot := a2, seq := a3, low := a4, verb := a5, id := a6 }) rfl rfl)
    clear HT2 f10 c0 c1 c2' c3 c4 c5 c6 c7 c8 c9 c10 c11 c12 c13 c14 c15
    generalize World.setCell _ _ _ = w7 at HT ⊢
    obtain ⟨c0, c1, c2', c3, c4, c5, c6, c7, c8, c9, c10, c11, c12, c13, c14, c15⟩ := msg_cells HT.out.kb
    go_wp2_with fail
    refine (r6_tnum q B s6 _ HT.out.tk).mono ?_
    rintro e x7 ⟨rfl, h2, hm2⟩
    have HT2 := Lib.hid (HT.out.num h2 hm2)
    clear h2 hm2 HT c0 c1 c2' c3 c4 c5 c6 c7 c8 c9 c10 c11 c12 c13 c14 c15
    generalize ha : WM.tnum s6 = t7 at HT2 ⊢
    obtain ⟨a7, s7⟩ := t7
    have HA7 := Lib.hid ha
    clear ha
    dsimp only at HT2 ⊢
    obtain ⟨c0, c1, c2', c3, c4, c5, c6, c7, c8, c9, c10, c11, c12, c13, c14, c15⟩ := msg_cells HT2.out.kb
    have f9 := HT2.out.kb.frozen 9
    go_upto_region 15 with (fail)
    have HT := Lib.hid (HT2.out.store (i := 9) (x := .int .i64 a7) (m' := { m with boot := a2, seq := a3, low := a4, verb := a5, id := a6, term := a7 }) rfl rfl)
    clear HT2 f9 c0 c1 c2' c3 c4 c5 c6 c7 c8 c9 c10 c11 c12 c13 c14 c15
    generalize World.setCell _ _ _ = w8 at HT ⊢
    obtain ⟨c0, c1, c2', c3, c4, c5, c6, c7, c8, c9, c10, c11, c12, c13, c14, c15⟩ := msg_cells HT.out.kb
    go_wp2_with fail
    refine (r6_tnum q B s7 _ HT.out.tk).mono ?_
    rintro e x8 ⟨rfl, h2, hm2⟩
    have HT2 := Lib.hid (HT.out.num h2 hm2)
    clear h2 hm2 HT c0 c1 c2' c3 c4 c5 c6 c7 c8 c9 c10 c11 c12 c13 c14 c15
    generalize ha : WM.tnum s7 = t8 at HT2 ⊢
    obtain ⟨a8, s8⟩ := t8
    have HA8 := Lib.hid ha
    clear ha
    dsimp only at HT2 ⊢
    obtain ⟨c0, c1, c2', c3, c4, c5, c6, c7, c8, c9, c10, c11, c12, c13, c14, c15⟩ := msg_cells HT2.out.kb
    have f11 := HT2.out.kb.frozen 11
    obtain ⟨bz, hbz⟩ : ∃ z, z = decide (a8 = 1) := ⟨_, rfl⟩
    have dz : (a8 == 1) = bz := by rw [hbz]; first | rfl | (rw [Bool.eq_iff_iff]; simp)
    have HBZ := Lib.hid hbz.symm
    clear hbz
    go_upto_region 40 with (fail)
    have HT := Lib.hid (HT2.out.store (i := 11) (x := .bool bz) (m' := { m with boot := a2, seq := a3, low := a4, verb := a5, id := a6, term := a7, fresh := bz }) rfl rfl)
    clear HT2 f11 c0 c1 c2' c3 c4 c5 c6 c7 c8 c9 c10 c11 c12 c13 c14 c15 dz
    generalize World.setCell _ _ _ = w9 at HT ⊢
    obtain ⟨c0, c1, c2', c3, c4, c5, c6, c7, c8, c9, c10, c11, c12, c13, c14, c15⟩ := msg_cells HT.out.kb
    go_upto_region 40 with (fail)
    clear c0 c1 c2' c3 c4 c5 c6 c7 c8 c9 c10 c11 c12 c13 c14 c15
    have HP := Lib.hid (show (WM.partT 5 m s).1 = { m with boot := a2, seq := a3, low := a4, verb := a5, id := a6, term := a7, fresh := bz } by
      have hk := HKK.out
      simp [WM.partT, WM.askT, WM.replyT, WM.recallT, WM.doneT, WM.opT, hk, HA2.out, HA3.out, HA4.out, HA5.out, HC.out, HA6.out, HA7.out, HBZ.out, HA8.out])
    have HD := Lib.hid HT.out.done
    have HLD := Lib.hid (msg_range HT.out.kb)
    have HKZ := Lib.hid HT.out.kz
    have hv1 : ((.slice none 0 0) : Value).oneCell' = true := rfl
    go_wp2_with (first | (refine wpList_load_mid rfl 28 (.tmp 3) rfl w.heap.size 0 rfl (cellsM { m with boot := a2, seq := a3, low := a4, verb := a5, id := a6, term := a7, fresh := bz } (.slice none 0 0)).toList _ HLD.out Try.underlying28 rfl (by kernel_rfl) ?_) | (refine wpList_store_row rfl 28 (.tmp 4) (.tmp 112) rfl (w.heap.size + 1) (cellsM { m with boot := a2, seq := a3, low := a4, verb := a5, id := a6, term := a7, fresh := bz } (.slice none 0 0)) rfl rfl 28 _ HKZ.out (by kernel_rfl) rfl (by simp [cellsM, Value.oneCell']) ?_))
    generalize World.setRow _ _ _ = w6 at HD ⊢
    obtain ⟨c0, c1, c2', c3, c4, c5, c6, c7, c8, c9, c10, c11, c12, c13, c14, c15⟩ := msg_cells HD.out.1
    change bodyPost Try.prog _ _ Exit.ret _ _
    refine bodyPost_ret (v := .agg (cellsM { m with boot := a2, seq := a3, low := a4, verb := a5, id := a6, term := a7, fresh := bz } (.slice none 0 0))) (by simp [results, Try.results38, go_sem, c0, c1, c2', c3, c4, c5, c6, c7, c8, c9, c10, c11, c12, c13, c14, c15, cellsM]) rfl ?_
    rw [HP.out]
    exact HD.out.2
  have d2 : (a5 == 2) = false := by simpa using hc
  have HN2 := Lib.hid hc
  clear hc
  by_cases hc : a5 = 3
  · skip
    have HC := Lib.hid hc
    have HCN := Lib.hid hc
    rw [hc] at c6
    clear hc
    go_wp2_with fail
    refine (r6_tnum q B s5 _ HT.out.tk).mono ?_
    rintro e x6 ⟨rfl, h2, hm2⟩
    have HT2 := Lib.hid (HT.out.num h2 hm2)
    clear h2 hm2 HT c0 c1 c2' c3 c4 c5 c6 c7 c8 c9 c10 c11 c12 c13 c14 c15
    generalize ha : WM.tnum s5 = t6 at HT2 ⊢
    obtain ⟨a6, s6⟩ := t6
    have HA6 := Lib.hid ha
    clear ha
    dsimp only at HT2 ⊢
    obtain ⟨c0, c1, c2', c3, c4, c5, c6, c7, c8, c9, c10, c11, c12, c13, c14, c15⟩ := msg_cells HT2.out.kb
    have f10 := HT2.out.kb.frozen 10
    go_upto_region 40 with (fail)
    have HT := Lib.hid (HT2.out.store (i := 10) (x := .int .i64 a6) (m' := { m with boot := a2, seq := a3, low := a4, verb := a5, id := a6 }) rfl rfl)
    clear HT2 f10 c0 c1 c2' c3 c4 c5 c6 c7 c8 c9 c10 c11 c12 c13 c14 c15
    generalize World.setCell _ _ _ = w7 at HT ⊢
    obtain ⟨c0, c1, c2', c3, c4, c5, c6, c7, c8, c9, c10, c11, c12, c13, c14, c15⟩ := msg_cells HT.out.kb
    go_upto_region 40 with (fail)
    clear c0 c1 c2' c3 c4 c5 c6 c7 c8 c9 c10 c11 c12 c13 c14 c15
    have HP := Lib.hid (show (WM.partT 5 m s).1 = { m with boot := a2, seq := a3, low := a4, verb := a5, id := a6 } by
      have hk := HKK.out
      simp [WM.partT, WM.askT, WM.replyT, WM.recallT, WM.doneT, WM.opT, hk, HA2.out, HA3.out, HA4.out, HA5.out, HC.out, HA6.out])
    have HD := Lib.hid HT.out.done
    have HLD := Lib.hid (msg_range HT.out.kb)
    have HKZ := Lib.hid HT.out.kz
    have hv1 : ((.slice none 0 0) : Value).oneCell' = true := rfl
    go_wp2_with (first | (refine wpList_load_mid rfl 28 (.tmp 3) rfl w.heap.size 0 rfl (cellsM { m with boot := a2, seq := a3, low := a4, verb := a5, id := a6 } (.slice none 0 0)).toList _ HLD.out Try.underlying28 rfl (by kernel_rfl) ?_) | (refine wpList_store_row rfl 28 (.tmp 4) (.tmp 112) rfl (w.heap.size + 1) (cellsM { m with boot := a2, seq := a3, low := a4, verb := a5, id := a6 } (.slice none 0 0)) rfl rfl 28 _ HKZ.out (by kernel_rfl) rfl (by simp [cellsM, Value.oneCell']) ?_))
    generalize World.setRow _ _ _ = w6 at HD ⊢
    obtain ⟨c0, c1, c2', c3, c4, c5, c6, c7, c8, c9, c10, c11, c12, c13, c14, c15⟩ := msg_cells HD.out.1
    change bodyPost Try.prog _ _ Exit.ret _ _
    refine bodyPost_ret (v := .agg (cellsM { m with boot := a2, seq := a3, low := a4, verb := a5, id := a6 } (.slice none 0 0))) (by simp [results, Try.results38, go_sem, c0, c1, c2', c3, c4, c5, c6, c7, c8, c9, c10, c11, c12, c13, c14, c15, cellsM]) rfl ?_
    rw [HP.out]
    exact HD.out.2
  have d3 : (a5 == 3) = false := by simpa using hc
  have HN3 := Lib.hid hc
  clear hc
  go_upto_region 40 with (fail)
  clear c0 c1 c2' c3 c4 c5 c6 c7 c8 c9 c10 c11 c12 c13 c14 c15
  have HP := Lib.hid (show (WM.partT 5 m s).1 = { m with boot := a2, seq := a3, low := a4, verb := a5 } by
    have hk := HKK.out
    simp [WM.partT, WM.askT, WM.replyT, WM.recallT, WM.doneT, WM.opT, hk, HA2.out, HA3.out, HA4.out, HA5.out, HN1.out, HN2.out, HN3.out])
  have HD := Lib.hid HT.out.done
  have HLD := Lib.hid (msg_range HT.out.kb)
  have HKZ := Lib.hid HT.out.kz
  have hv1 : ((.slice none 0 0) : Value).oneCell' = true := rfl
  go_wp2_with (first | (refine wpList_load_mid rfl 28 (.tmp 3) rfl w.heap.size 0 rfl (cellsM { m with boot := a2, seq := a3, low := a4, verb := a5 } (.slice none 0 0)).toList _ HLD.out Try.underlying28 rfl (by kernel_rfl) ?_) | (refine wpList_store_row rfl 28 (.tmp 4) (.tmp 112) rfl (w.heap.size + 1) (cellsM { m with boot := a2, seq := a3, low := a4, verb := a5 } (.slice none 0 0)) rfl rfl 28 _ HKZ.out (by kernel_rfl) rfl (by simp [cellsM, Value.oneCell']) ?_))
  generalize World.setRow _ _ _ = w6 at HD ⊢
  obtain ⟨c0, c1, c2', c3, c4, c5, c6, c7, c8, c9, c10, c11, c12, c13, c14, c15⟩ := msg_cells HD.out.1
  change bodyPost Try.prog _ _ Exit.ret _ _
  refine bodyPost_ret (v := .agg (cellsM { m with boot := a2, seq := a3, low := a4, verb := a5 } (.slice none 0 0))) (by simp [results, Try.results38, go_sem, c0, c1, c2', c3, c4, c5, c6, c7, c8, c9, c10, c11, c12, c13, c14, c15, cellsM]) rfl ?_
  rw [HP.out]
  exact HD.out.2
end Go.Proofs.Ytboflkadabagfaa
namespace Go.Proofs.Ytboflkadabagfaa
open Go.RowKit
open Oct (BytesAt u8s)
open WM (Msg)
set_option linter.unusedVariables false
set_option linter.unusedSimpArgs false
set_option maxRecDepth 100000
set_option maxHeartbeats 8000000 in
theorem fd6_4 (q B : Nat) (s : WM.St) (m : Msg) (w : World) (h : TkAt w q B s) (hB : B ≤ w.heap.size) (hq : q < w.heap.size) (hs : m.stamp = []) (hk : m.kind = 4) :
    Calls Try.prog 38 #[.pointer (some ⟨q, 0, none⟩), .agg (cellsM m (.slice none 0 0))] w (Fields6 w q (WM.partT 5 m s).1) := by
  have HKK := Lib.hid hk
  clear hk
  have HX := Lib.hid (((Below.refl _ w).alloc (Nat.le_refl _) (.cells (cellsM m (.slice none 0 0)) 28)).alloc (by simp) (.cells #[.int .i64 0, .int .i64 0, .int .i64 0, .int .i64 0, .int .i64 0, .int .i64 0, .int .i64 0, .string ⟨#[]⟩, .int .i64 0, .int .i64 0, .int .i64 0, .bool false, .int .i64 0, .slice none 0 0, .int .i64 0, .int .i64 0] 28))
  have HK := Lib.hid (show MsgBlk ((w.alloc (.cells (cellsM m (.slice none 0 0)) 28)).alloc (.cells #[.int .i64 0, .int .i64 0, .int .i64 0, .int .i64 0, .int .i64 0, .int .i64 0, .int .i64 0, .string ⟨#[]⟩, .int .i64 0, .int .i64 0, .int .i64 0, .bool false, .int .i64 0, .slice none 0 0, .int .i64 0, .int .i64 0] 28)) w.heap.size m (.slice none 0 0) from (Whole.new w 28 (cellsM m (.slice none 0 0))).alloc (.cells #[.int .i64 0, .int .i64 0, .int .i64 0, .int .i64 0, .int .i64 0, .int .i64 0, .int .i64 0, .string ⟨#[]⟩, .int .i64 0, .int .i64 0, .int .i64 0, .bool false, .int .i64 0, .slice none 0 0, .int .i64 0, .int .i64 0] 28))
  have HZ := Lib.hid (show MsgBlk ((w.alloc (.cells (cellsM m (.slice none 0 0)) 28)).alloc (.cells #[.int .i64 0, .int .i64 0, .int .i64 0, .int .i64 0, .int .i64 0, .int .i64 0, .int .i64 0, .string ⟨#[]⟩, .int .i64 0, .int .i64 0, .int .i64 0, .bool false, .int .i64 0, .slice none 0 0, .int .i64 0, .int .i64 0] 28)) (w.heap.size + 1) WM.zero (.slice none 0 0) from by have h := Whole.new (w.alloc (.cells (cellsM m (.slice none 0 0)) 28)) 28 (cellsM WM.zero (.slice none 0 0)); have e : (w.alloc (.cells (cellsM m (.slice none 0 0)) 28)).heap.size = w.heap.size + 1 := (by simp); rw [e] at h; exact h)
  have HT := Lib.hid (show FdSt w q B m (.slice none 0 0) s ((w.alloc (.cells (cellsM m (.slice none 0 0)) 28)).alloc (.cells #[.int .i64 0, .int .i64 0, .int .i64 0, .int .i64 0, .int .i64 0, .int .i64 0, .int .i64 0, .string ⟨#[]⟩, .int .i64 0, .int .i64 0, .int .i64 0, .bool false, .int .i64 0, .slice none 0 0, .int .i64 0, .int .i64 0] 28)) from ⟨HK.out, HZ.out, h.below HX.out, Mod.of_below HX.out [q], by rw [hs]; exact World.ownsRow_nil _ _ _ _, hq, hB, by simp⟩)
  clear h hB hq HX HK HZ
  go_enter Try.func38, Try.ntmps38
  go_upto_region 1 with (fail)
  generalize (w.alloc (.cells (cellsM m (.slice none 0 0)) 28)).alloc (.cells #[.int .i64 0, .int .i64 0, .int .i64 0, .int .i64 0, .int .i64 0, .int .i64 0, .int .i64 0, .string ⟨#[]⟩, .int .i64 0, .int .i64 0, .int .i64 0, .bool false, .int .i64 0, .slice none 0 0, .int .i64 0, .int .i64 0] 28) = w1 at HT ⊢
  obtain ⟨c0, c1, c2', c3, c4, c5, c6, c7, c8, c9, c10, c11, c12, c13, c14, c15⟩ := msg_cells HT.out.kb
  rw [HKK.out] at c0
  go_wp2_with fail
  refine (r6_tnum q B s _ HT.out.tk).mono ?_
  rintro e x2 ⟨rfl, h2, hm2⟩
  have HT2 := Lib.hid (HT.out.num h2 hm2)
  clear h2 hm2 HT c0 c1 c2' c3 c4 c5 c6 c7 c8 c9 c10 c11 c12 c13 c14 c15
  generalize ha : WM.tnum s = t2 at HT2 ⊢
  obtain ⟨a2, s2⟩ := t2
  have HA2 := Lib.hid ha
  clear ha
  dsimp only at HT2 ⊢
  obtain ⟨c0, c1, c2', c3, c4, c5, c6, c7, c8, c9, c10, c11, c12, c13, c14, c15⟩ := msg_cells HT2.out.kb
  have f10 := HT2.out.kb.frozen 10
  go_upto_region 34 with (fail)
  have HT := Lib.hid (HT2.out.store (i := 10) (x := .int .i64 a2) (m' := { m with id := a2 }) rfl rfl)
  clear HT2 f10 c0 c1 c2' c3 c4 c5 c6 c7 c8 c9 c10 c11 c12 c13 c14 c15
  generalize World.setCell _ _ _ = w3 at HT ⊢
  obtain ⟨c0, c1, c2', c3, c4, c5, c6, c7, c8, c9, c10, c11, c12, c13, c14, c15⟩ := msg_cells HT.out.kb
  go_wp2_with fail
  refine (r6_tnum q B s2 _ HT.out.tk).mono ?_
  rintro e x3 ⟨rfl, h2, hm2⟩
  have HT2 := Lib.hid (HT.out.num h2 hm2)
  clear h2 hm2 HT c0 c1 c2' c3 c4 c5 c6 c7 c8 c9 c10 c11 c12 c13 c14 c15
  generalize ha : WM.tnum s2 = t3 at HT2 ⊢
  obtain ⟨a3, s3⟩ := t3
  have HA3 := Lib.hid ha
  clear ha
  dsimp only at HT2 ⊢
  obtain ⟨c0, c1, c2', c3, c4, c5, c6, c7, c8, c9, c10, c11, c12, c13, c14, c15⟩ := msg_cells HT2.out.kb
  have f14 := HT2.out.kb.frozen 14
  go_upto_region 35 with (fail)
  have HT := Lib.hid (HT2.out.store (i := 14) (x := .int .i64 a3) (m' := { m with id := a2, origin := a3 }) rfl rfl)
  clear HT2 f14 c0 c1 c2' c3 c4 c5 c6 c7 c8 c9 c10 c11 c12 c13 c14 c15
  generalize World.setCell _ _ _ = w4 at HT ⊢
  obtain ⟨c0, c1, c2', c3, c4, c5, c6, c7, c8, c9, c10, c11, c12, c13, c14, c15⟩ := msg_cells HT.out.kb
  go_wp2_with fail
  refine (r6_tnum q B s3 _ HT.out.tk).mono ?_
  rintro e x4 ⟨rfl, h2, hm2⟩
  have HT2 := Lib.hid (HT.out.num h2 hm2)
  clear h2 hm2 HT c0 c1 c2' c3 c4 c5 c6 c7 c8 c9 c10 c11 c12 c13 c14 c15
  generalize ha : WM.tnum s3 = t4 at HT2 ⊢
  obtain ⟨a4, s4⟩ := t4
  have HA4 := Lib.hid ha
  clear ha
  dsimp only at HT2 ⊢
  obtain ⟨c0, c1, c2', c3, c4, c5, c6, c7, c8, c9, c10, c11, c12, c13, c14, c15⟩ := msg_cells HT2.out.kb
  have f15 := HT2.out.kb.frozen 15
  go_upto_region 40 with (fail)
  have HT := Lib.hid (HT2.out.store (i := 15) (x := .int .i64 a4) (m' := { m with id := a2, origin := a3, number := a4 }) rfl rfl)
  clear HT2 f15 c0 c1 c2' c3 c4 c5 c6 c7 c8 c9 c10 c11 c12 c13 c14 c15
  generalize World.setCell _ _ _ = w5 at HT ⊢
  obtain ⟨c0, c1, c2', c3, c4, c5, c6, c7, c8, c9, c10, c11, c12, c13, c14, c15⟩ := msg_cells HT.out.kb
  go_upto_region 40 with (fail)
  clear c0 c1 c2' c3 c4 c5 c6 c7 c8 c9 c10 c11 c12 c13 c14 c15
  have HP := Lib.hid (show (WM.partT 5 m s).1 = { m with id := a2, origin := a3, number := a4 } by
    have hk := HKK.out
    simp [WM.partT, WM.askT, WM.replyT, WM.recallT, WM.doneT, WM.opT, hk, HA2.out, HA3.out, HA4.out])
  have HD := Lib.hid HT.out.done
  have HLD := Lib.hid (msg_range HT.out.kb)
  have HKZ := Lib.hid HT.out.kz
  have hv1 : ((.slice none 0 0) : Value).oneCell' = true := rfl
  go_wp2_with (first | (refine wpList_load_mid rfl 28 (.tmp 3) rfl w.heap.size 0 rfl (cellsM { m with id := a2, origin := a3, number := a4 } (.slice none 0 0)).toList _ HLD.out Try.underlying28 rfl (by kernel_rfl) ?_) | (refine wpList_store_row rfl 28 (.tmp 4) (.tmp 112) rfl (w.heap.size + 1) (cellsM { m with id := a2, origin := a3, number := a4 } (.slice none 0 0)) rfl rfl 28 _ HKZ.out (by kernel_rfl) rfl (by simp [cellsM, Value.oneCell']) ?_))
  generalize World.setRow _ _ _ = w6 at HD ⊢
  obtain ⟨c0, c1, c2', c3, c4, c5, c6, c7, c8, c9, c10, c11, c12, c13, c14, c15⟩ := msg_cells HD.out.1
  change bodyPost Try.prog _ _ Exit.ret _ _
  refine bodyPost_ret (v := .agg (cellsM { m with id := a2, origin := a3, number := a4 } (.slice none 0 0))) (by simp [results, Try.results38, go_sem, c0, c1, c2', c3, c4, c5, c6, c7, c8, c9, c10, c11, c12, c13, c14, c15, cellsM]) rfl ?_
  rw [HP.out]
  exact HD.out.2
set_option maxHeartbeats 8000000 in
theorem fd6_5 (q B : Nat) (s : WM.St) (m : Msg) (w : World) (h : TkAt w q B s) (hB : B ≤ w.heap.size) (hq : q < w.heap.size) (hs : m.stamp = []) (hk : m.kind = 5) :
    Calls Try.prog 38 #[.pointer (some ⟨q, 0, none⟩), .agg (cellsM m (.slice none 0 0))] w (Fields6 w q (WM.partT 5 m s).1) := by
  have HKK := Lib.hid hk
  clear hk
  have HX := Lib.hid (((Below.refl _ w).alloc (Nat.le_refl _) (.cells (cellsM m (.slice none 0 0)) 28)).alloc (by simp) (.cells #[.int .i64 0, .int .i64 0, .int .i64 0, .int .i64 0, .int .i64 0, .int .i64 0, .int .i64 0, .string ⟨#[]⟩, .int .i64 0, .int .i64 0, .int .i64 0, .bool false, .int .i64 0, .slice none 0 0, .int .i64 0, .int .i64 0] 28))
  have HK := Lib.hid (show MsgBlk ((w.alloc (.cells (cellsM m (.slice none 0 0)) 28)).alloc (.cells #[.int .i64 0, .int .i64 0, .int .i64 0, .int .i64 0, .int .i64 0, .int .i64 0, .int .i64 0, .string ⟨#[]⟩, .int .i64 0, .int .i64 0, .int .i64 0, .bool false, .int .i64 0, .slice none 0 0, .int .i64 0, .int .i64 0] 28)) w.heap.size m (.slice none 0 0) from (Whole.new w 28 (cellsM m (.slice none 0 0))).alloc (.cells #[.int .i64 0, .int .i64 0, .int .i64 0, .int .i64 0, .int .i64 0, .int .i64 0, .int .i64 0, .string ⟨#[]⟩, .int .i64 0, .int .i64 0, .int .i64 0, .bool false, .int .i64 0, .slice none 0 0, .int .i64 0, .int .i64 0] 28))
  have HZ := Lib.hid (show MsgBlk ((w.alloc (.cells (cellsM m (.slice none 0 0)) 28)).alloc (.cells #[.int .i64 0, .int .i64 0, .int .i64 0, .int .i64 0, .int .i64 0, .int .i64 0, .int .i64 0, .string ⟨#[]⟩, .int .i64 0, .int .i64 0, .int .i64 0, .bool false, .int .i64 0, .slice none 0 0, .int .i64 0, .int .i64 0] 28)) (w.heap.size + 1) WM.zero (.slice none 0 0) from by have h := Whole.new (w.alloc (.cells (cellsM m (.slice none 0 0)) 28)) 28 (cellsM WM.zero (.slice none 0 0)); have e : (w.alloc (.cells (cellsM m (.slice none 0 0)) 28)).heap.size = w.heap.size + 1 := (by simp); rw [e] at h; exact h)
  have HT := Lib.hid (show FdSt w q B m (.slice none 0 0) s ((w.alloc (.cells (cellsM m (.slice none 0 0)) 28)).alloc (.cells #[.int .i64 0, .int .i64 0, .int .i64 0, .int .i64 0, .int .i64 0, .int .i64 0, .int .i64 0, .string ⟨#[]⟩, .int .i64 0, .int .i64 0, .int .i64 0, .bool false, .int .i64 0, .slice none 0 0, .int .i64 0, .int .i64 0] 28)) from ⟨HK.out, HZ.out, h.below HX.out, Mod.of_below HX.out [q], by rw [hs]; exact World.ownsRow_nil _ _ _ _, hq, hB, by simp⟩)
  clear h hB hq HX HK HZ
  go_enter Try.func38, Try.ntmps38
  go_upto_region 1 with (fail)
  generalize (w.alloc (.cells (cellsM m (.slice none 0 0)) 28)).alloc (.cells #[.int .i64 0, .int .i64 0, .int .i64 0, .int .i64 0, .int .i64 0, .int .i64 0, .int .i64 0, .string ⟨#[]⟩, .int .i64 0, .int .i64 0, .int .i64 0, .bool false, .int .i64 0, .slice none 0 0, .int .i64 0, .int .i64 0] 28) = w1 at HT ⊢
  obtain ⟨c0, c1, c2', c3, c4, c5, c6, c7, c8, c9, c10, c11, c12, c13, c14, c15⟩ := msg_cells HT.out.kb
  rw [HKK.out] at c0
  go_wp2_with fail
  refine (r6_ttext q B s _ HT.out.tk).mono ?_
  rintro e x2 ⟨rfl, h2, hm2⟩
  have HT2 := Lib.hid (HT.out.num h2 hm2)
  clear h2 hm2 HT c0 c1 c2' c3 c4 c5 c6 c7 c8 c9 c10 c11 c12 c13 c14 c15
  generalize ha : WM.ttext s = t2 at HT2 ⊢
  obtain ⟨a2, s2⟩ := t2
  have HA2 := Lib.hid ha
  clear ha
  dsimp only at HT2 ⊢
  obtain ⟨c0, c1, c2', c3, c4, c5, c6, c7, c8, c9, c10, c11, c12, c13, c14, c15⟩ := msg_cells HT2.out.kb
  have f7 := HT2.out.kb.frozen 7
  go_upto_region 38 with (fail)
  have HT := Lib.hid (HT2.out.store (i := 7) (x := .string a2) (m' := { m with path := a2 }) rfl rfl)
  clear HT2 f7 c0 c1 c2' c3 c4 c5 c6 c7 c8 c9 c10 c11 c12 c13 c14 c15
  generalize World.setCell _ _ _ = w3 at HT ⊢
  obtain ⟨c0, c1, c2', c3, c4, c5, c6, c7, c8, c9, c10, c11, c12, c13, c14, c15⟩ := msg_cells HT.out.kb
  go_wp2_with fail
  refine (r6_tnum q B s2 _ HT.out.tk).mono ?_
  rintro e x3 ⟨rfl, h2, hm2⟩
  have HT2 := Lib.hid (HT.out.num h2 hm2)
  clear h2 hm2 HT c0 c1 c2' c3 c4 c5 c6 c7 c8 c9 c10 c11 c12 c13 c14 c15
  generalize ha : WM.tnum s2 = t3 at HT2 ⊢
  obtain ⟨a3, s3⟩ := t3
  have HA3 := Lib.hid ha
  clear ha
  dsimp only at HT2 ⊢
  obtain ⟨c0, c1, c2', c3, c4, c5, c6, c7, c8, c9, c10, c11, c12, c13, c14, c15⟩ := msg_cells HT2.out.kb
  have f8 := HT2.out.kb.frozen 8
  go_upto_region 39 with (fail)
  have HT := Lib.hid (HT2.out.store (i := 8) (x := .int .i64 a3) (m' := { m with path := a2, mode := a3 }) rfl rfl)
  clear HT2 f8 c0 c1 c2' c3 c4 c5 c6 c7 c8 c9 c10 c11 c12 c13 c14 c15
  generalize World.setCell _ _ _ = w4 at HT ⊢
  obtain ⟨c0, c1, c2', c3, c4, c5, c6, c7, c8, c9, c10, c11, c12, c13, c14, c15⟩ := msg_cells HT.out.kb
  go_wp2_with fail
  refine (r6_tcounters q B s3 _ HT.out.tk (Nat.le_trans HT.out.b0 HT.out.mod.size) (Nat.lt_of_lt_of_le HT.out.q0 HT.out.mod.size)).mono ?_
  rintro e x4 ⟨vv, rfl, h1, h2, hm2⟩
  obtain ⟨A9, cz9, e9, _, _⟩ := own_shape h1
  subst e9
  have HT2 := Lib.hid (HT.out.stamp h1 h2 hm2)
  have HT3 := Lib.hid (HT.out.num h2 hm2)
  clear h1 h2 hm2 HT c0 c1 c2' c3 c4 c5 c6 c7 c8 c9 c10 c11 c12 c13 c14 c15
  generalize ha : WM.tstamp 5 s3 = t4 at HT2 HT3 ⊢
  obtain ⟨a4, s4⟩ := t4
  have HA4 := Lib.hid ha
  clear ha
  dsimp only at HT2 HT3 ⊢
  obtain ⟨c0, c1, c2', c3, c4, c5, c6, c7, c8, c9, c10, c11, c12, c13, c14, c15⟩ := msg_cells HT3.out.kb
  have f13 := HT3.out.kb.frozen 13
  clear HT3
  go_upto_region 40 with (fail)
  clear f13 c0 c1 c2' c3 c4 c5 c6 c7 c8 c9 c10 c11 c12 c13 c14 c15
  have HT := HT2
  clear HT2
  generalize World.setCell _ _ _ = w5 at HT ⊢
  obtain ⟨c0, c1, c2', c3, c4, c5, c6, c7, c8, c9, c10, c11, c12, c13, c14, c15⟩ := msg_cells HT.out.kb
  go_upto_region 40 with (fail)
  clear c0 c1 c2' c3 c4 c5 c6 c7 c8 c9 c10 c11 c12 c13 c14 c15
  have HP := Lib.hid (show (WM.partT 5 m s).1 = { m with path := a2, mode := a3, stamp := a4 } by
    have hk := HKK.out
    simp [WM.partT, WM.askT, WM.replyT, WM.recallT, WM.doneT, WM.opT, hk, HA2.out, HA3.out, HA4.out])
  have HD := Lib.hid HT.out.done
  have HLD := Lib.hid (msg_range HT.out.kb)
  have HKZ := Lib.hid HT.out.kz
  have hv1 : ((.slice A9 a4.length cz9) : Value).oneCell' = true := rfl
  go_wp2_with (first | (refine wpList_load_mid rfl 28 (.tmp 3) rfl w.heap.size 0 rfl (cellsM { m with path := a2, mode := a3, stamp := a4 } (.slice A9 a4.length cz9)).toList _ HLD.out Try.underlying28 rfl (by kernel_rfl) ?_) | (refine wpList_store_row rfl 28 (.tmp 4) (.tmp 112) rfl (w.heap.size + 1) (cellsM { m with path := a2, mode := a3, stamp := a4 } (.slice A9 a4.length cz9)) rfl rfl 28 _ HKZ.out (by kernel_rfl) rfl (by simp [cellsM, Value.oneCell', hv1]) ?_))
  generalize World.setRow _ _ _ = w6 at HD ⊢
  obtain ⟨c0, c1, c2', c3, c4, c5, c6, c7, c8, c9, c10, c11, c12, c13, c14, c15⟩ := msg_cells HD.out.1
  change bodyPost Try.prog _ _ Exit.ret _ _
  refine bodyPost_ret (v := .agg (cellsM { m with path := a2, mode := a3, stamp := a4 } (.slice A9 a4.length cz9))) (by simp [results, Try.results38, go_sem, c0, c1, c2', c3, c4, c5, c6, c7, c8, c9, c10, c11, c12, c13, c14, c15, cellsM]) rfl ?_
  rw [HP.out]
  exact HD.out.2
set_option maxHeartbeats 8000000 in
theorem fd6_0 (q B : Nat) (s : WM.St) (m : Msg) (w : World) (h : TkAt w q B s) (hB : B ≤ w.heap.size) (hq : q < w.heap.size) (hs : m.stamp = []) (hk : m.kind ≠ 1 ∧ m.kind ≠ 2 ∧ m.kind ≠ 3 ∧ m.kind ≠ 4 ∧ m.kind ≠ 5) :
    Calls Try.prog 38 #[.pointer (some ⟨q, 0, none⟩), .agg (cellsM m (.slice none 0 0))] w (Fields6 w q (WM.partT 5 m s).1) := by
  have HKK := Lib.hid hk
  clear hk
  have HX := Lib.hid (((Below.refl _ w).alloc (Nat.le_refl _) (.cells (cellsM m (.slice none 0 0)) 28)).alloc (by simp) (.cells #[.int .i64 0, .int .i64 0, .int .i64 0, .int .i64 0, .int .i64 0, .int .i64 0, .int .i64 0, .string ⟨#[]⟩, .int .i64 0, .int .i64 0, .int .i64 0, .bool false, .int .i64 0, .slice none 0 0, .int .i64 0, .int .i64 0] 28))
  have HK := Lib.hid (show MsgBlk ((w.alloc (.cells (cellsM m (.slice none 0 0)) 28)).alloc (.cells #[.int .i64 0, .int .i64 0, .int .i64 0, .int .i64 0, .int .i64 0, .int .i64 0, .int .i64 0, .string ⟨#[]⟩, .int .i64 0, .int .i64 0, .int .i64 0, .bool false, .int .i64 0, .slice none 0 0, .int .i64 0, .int .i64 0] 28)) w.heap.size m (.slice none 0 0) from (Whole.new w 28 (cellsM m (.slice none 0 0))).alloc (.cells #[.int .i64 0, .int .i64 0, .int .i64 0, .int .i64 0, .int .i64 0, .int .i64 0, .int .i64 0, .string ⟨#[]⟩, .int .i64 0, .int .i64 0, .int .i64 0, .bool false, .int .i64 0, .slice none 0 0, .int .i64 0, .int .i64 0] 28))
  have HZ := Lib.hid (show MsgBlk ((w.alloc (.cells (cellsM m (.slice none 0 0)) 28)).alloc (.cells #[.int .i64 0, .int .i64 0, .int .i64 0, .int .i64 0, .int .i64 0, .int .i64 0, .int .i64 0, .string ⟨#[]⟩, .int .i64 0, .int .i64 0, .int .i64 0, .bool false, .int .i64 0, .slice none 0 0, .int .i64 0, .int .i64 0] 28)) (w.heap.size + 1) WM.zero (.slice none 0 0) from by have h := Whole.new (w.alloc (.cells (cellsM m (.slice none 0 0)) 28)) 28 (cellsM WM.zero (.slice none 0 0)); have e : (w.alloc (.cells (cellsM m (.slice none 0 0)) 28)).heap.size = w.heap.size + 1 := (by simp); rw [e] at h; exact h)
  have HT := Lib.hid (show FdSt w q B m (.slice none 0 0) s ((w.alloc (.cells (cellsM m (.slice none 0 0)) 28)).alloc (.cells #[.int .i64 0, .int .i64 0, .int .i64 0, .int .i64 0, .int .i64 0, .int .i64 0, .int .i64 0, .string ⟨#[]⟩, .int .i64 0, .int .i64 0, .int .i64 0, .bool false, .int .i64 0, .slice none 0 0, .int .i64 0, .int .i64 0] 28)) from ⟨HK.out, HZ.out, h.below HX.out, Mod.of_below HX.out [q], by rw [hs]; exact World.ownsRow_nil _ _ _ _, hq, hB, by simp⟩)
  clear h hB hq HX HK HZ
  go_enter Try.func38, Try.ntmps38
  go_upto_region 1 with (fail)
  generalize (w.alloc (.cells (cellsM m (.slice none 0 0)) 28)).alloc (.cells #[.int .i64 0, .int .i64 0, .int .i64 0, .int .i64 0, .int .i64 0, .int .i64 0, .int .i64 0, .string ⟨#[]⟩, .int .i64 0, .int .i64 0, .int .i64 0, .bool false, .int .i64 0, .slice none 0 0, .int .i64 0, .int .i64 0] 28) = w1 at HT ⊢
  obtain ⟨c0, c1, c2', c3, c4, c5, c6, c7, c8, c9, c10, c11, c12, c13, c14, c15⟩ := msg_cells HT.out.kb
  obtain ⟨h1, h2, h3, h4, h5⟩ := HKK.out
  have k1 : (m.kind == 1) = false := by simpa using h1
  have k2 : (m.kind == 2) = false := by simpa using h2
  have k3 : (m.kind == 3) = false := by simpa using h3
  have k4 : (m.kind == 4) = false := by simpa using h4
  have k5 : (m.kind == 5) = false := by simpa using h5
  clear h1 h2 h3 h4 h5
  go_upto_region 40 with (fail)
  clear c0 c1 c2' c3 c4 c5 c6 c7 c8 c9 c10 c11 c12 c13 c14 c15
  have HP := Lib.hid (show (WM.partT 5 m s).1 = m by
    have hk := HKK.out
    obtain ⟨h1, h2, h3, h4, h5⟩ := hk
    simp [WM.partT, h1, h2, h3, h4, h5])
  have HD := Lib.hid HT.out.done
  have HLD := Lib.hid (msg_range HT.out.kb)
  have HKZ := Lib.hid HT.out.kz
  have hv1 : ((.slice none 0 0) : Value).oneCell' = true := rfl
  go_wp2_with (first | (refine wpList_load_mid rfl 28 (.tmp 3) rfl w.heap.size 0 rfl (cellsM m (.slice none 0 0)).toList _ HLD.out Try.underlying28 rfl (by kernel_rfl) ?_) | (refine wpList_store_row rfl 28 (.tmp 4) (.tmp 112) rfl (w.heap.size + 1) (cellsM m (.slice none 0 0)) rfl rfl 28 _ HKZ.out (by kernel_rfl) rfl (by simp [cellsM, Value.oneCell']) ?_))
  generalize World.setRow _ _ _ = w6 at HD ⊢
  obtain ⟨c0, c1, c2', c3, c4, c5, c6, c7, c8, c9, c10, c11, c12, c13, c14, c15⟩ := msg_cells HD.out.1
  change bodyPost Try.prog _ _ Exit.ret _ _
  refine bodyPost_ret (v := .agg (cellsM m (.slice none 0 0))) (by simp [results, Try.results38, go_sem, c0, c1, c2', c3, c4, c5, c6, c7, c8, c9, c10, c11, c12, c13, c14, c15, cellsM]) rfl ?_
  rw [HP.out]
  exact HD.out.2
theorem r6_fields (q B : Nat) (s : WM.St) (m : Msg) (w : World) (h : TkAt w q B s) (hB : B ≤ w.heap.size) (hq : q < w.heap.size) (hs : m.stamp = []) :
    Calls Try.prog 38 #[.pointer (some ⟨q, 0, none⟩), .agg (cellsM m (.slice none 0 0))] w (Fields6 w q (WM.partT 5 m s).1) := by
  by_cases h1 : m.kind = 1
  · exact fd6_1 q B s m w h hB hq hs h1
  by_cases h2 : m.kind = 2
  · exact fd6_2 q B s m w h hB hq hs h2
  by_cases h3 : m.kind = 3
  · exact fd6_3 q B s m w h hB hq hs h3
  by_cases h4 : m.kind = 4
  · exact fd6_4 q B s m w h hB hq hs h4
  by_cases h5 : m.kind = 5
  · exact fd6_5 q B s m w h hB hq hs h5
  exact fd6_0 q B s m w h hB hq hs ⟨h1, h2, h3, h4, h5⟩
end Go.Proofs.Ytboflkadabagfaa
