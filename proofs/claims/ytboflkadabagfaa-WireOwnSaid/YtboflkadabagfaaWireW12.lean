/- The message of bytes: the package's call of layer 6. -/
import Derived.Test.YtboflkadabagfaaWireW11
import Derived.Test.YtboflkadabagfaaWireG
namespace Go.Proofs.Ytboflkadabagfaa
open Go.RowKit
open Oct (BytesAt u8s)
open WM (Msg)
set_option linter.unusedVariables false
set_option maxRecDepth 100000
attribute [local go_sem] run_store_func run_store_nilFunc
/-- What bytes are decoded. -/
def dec (b : List UInt8) : Bool := decide (b.length ≤ 200) && (WM.valid (WM.taken 4 b) && decide (enc (WM.taken 4 b) = b))
def zeroM : Array Value := cellsM WM.zero (.slice none 0 0)
set_option maxHeartbeats 1000000 in
theorem Decode_long (A : Option Addr) (c : Nat) (b : List UInt8) (w : World) (hl : 200 < b.length) (hm : b.length ≤ 140737488355328) :
    Calls Try.prog 13 #[.slice A b.length c] w fun e w' => e = .returned (.tuple #[.agg zeroM, .int .i64 21]) ∧ Below w.heap.size w w' := by
  have HX := Lib.hid ((Below.refl _ w).alloc (Nat.le_refl _) (.cells zeroM 28))
  have HK := Lib.hid (Whole.new w 28 zeroM)
  have hd : decide ((200 : Int) < (b.length : Int)) = true := by simp; omega
  go_enter Try.func13, Try.ntmps13
  go_wp2_with fail
  refine bodyPost_ret (v := .tuple #[.agg zeroM, .int .i64 21]) (by simp [results, Try.results13, go_sem, zeroM, cellsM, WM.zero]) rfl ?_
  exact ⟨rfl, HX.out⟩
set_option maxHeartbeats 2000000 in
theorem Decode_bad (A : Option Addr) (c : Nat) (b : List UInt8) (w : World) (hB : BytesAt w A b) (hl : b.length ≤ 200) (hv : WM.valid (WM.taken 4 b) = false) :
    Calls Try.prog 13 #[.slice A b.length c] w fun e w' => e = .returned (.tuple #[.agg zeroM, .int .i64 21]) ∧ Below w.heap.size w w' := by
  have HX := Lib.hid ((Below.refl _ w).alloc (Nat.le_refl _) (.cells zeroM 28))
  have HK := Lib.hid (Whole.new w 28 zeroM)
  have HB := Lib.hid (hB.below HX.out)
  have HV := Lib.hid hv
  have hd : decide ((200 : Int) < (b.length : Int)) = false := by simp; omega

  clear hB hv
  unfold zeroM cellsM WM.zero at HX HK HB
  go_enter Try.func13, Try.ntmps13
  go_wp2_with fail
  have HW0 := Lib.hid (show (w.alloc (.cells #[.int .i64 0, .int .i64 0, .int .i64 0, .int .i64 0, .int .i64 0, .int .i64 0, .int .i64 0, .string ⟨#[]⟩, .int .i64 0, .int .i64 0, .int .i64 0, .bool false, .int .i64 0, .slice none 0 0, .int .i64 0, .int .i64 0] 28)).heap.size = w.heap.size + 1 by simp)
  generalize w.alloc _ = w0 at HX HK HB HW0 ⊢
  refine (taken_any A c b w0 HB.out (by omega)).mono ?_
  rintro e w1 ⟨sv, rfl, ho, hb⟩
  obtain ⟨A1, c1, hv1, hl1, hc1⟩ := own_shape ho.out
  subst hv1
  have HF := Lib.hid (show Fit w1 A1 c1 (WM.taken 4 b) from ⟨wide_taken 4 b, IntsAt.own ho.out, fun ad e => by subst e; exact (ho.out.lt _ rfl).2, hl1, hc1⟩)
  have HO := Lib.hid (show w1.ownsRow (w.heap.size + 1) 3 1 (.slice A1 (WM.taken 4 b).stamp.length c1) (WM.taken 4 b).stamp.length (i64s (WM.taken 4 b).stamp) by have h := ho.out; rw [HW0.out] at h; exact h)
  have HX1 := Lib.hid (below_on HX.out hb)
  have HK1 := Lib.hid (blk_below HK.out hb)
  have HB1 := Lib.hid (HB.out.below hb)
  clear ho hb HW0 HX HK HB
  generalize hmm : WM.taken 4 b = m at HV HF HO  ⊢
  have HMM := Lib.hid hmm; clear hmm
  have HNW := Lib.hid (show MsgBlk (w1.alloc (.cells (cellsM WM.zero (.slice none 0 0)) 28)) w1.heap.size WM.zero (.slice none 0 0) from Whole.new w1 _ _)
  have HLD := Lib.hid (msg_range (row16 HNW.out m (.slice A1 m.stamp.length c1)).1)
  have HKD := Lib.hid ((row16 HNW.out m (.slice A1 m.stamp.length c1)).1)
  have HF2 := Lib.hid (HF.out.below (((Below.refl _ w1).alloc (Nat.le_refl _) (.cells (cellsM WM.zero (.slice none 0 0)) 28)).trans ((row16 HNW.out m (.slice A1 m.stamp.length c1)).2.below (by simp) (by simp))))
  have HX2 := Lib.hid (below_on HX1.out (((Below.refl _ w1).alloc (Nat.le_refl _) (.cells (cellsM WM.zero (.slice none 0 0)) 28)).trans ((row16 HNW.out m (.slice A1 m.stamp.length c1)).2.below (by simp) (by simp))))
  have HK2 := Lib.hid (blk_below HK1.out (((Below.refl _ w1).alloc (Nat.le_refl _) (.cells (cellsM WM.zero (.slice none 0 0)) 28)).trans ((row16 HNW.out m (.slice A1 m.stamp.length c1)).2.below (by simp) (by simp))))
  have HB2 := Lib.hid (HB1.out.below (((Below.refl _ w1).alloc (Nat.le_refl _) (.cells (cellsM WM.zero (.slice none 0 0)) 28)).trans ((row16 HNW.out m (.slice A1 m.stamp.length c1)).2.below (by simp) (by simp))))
  have HO2 := Lib.hid ((Mod.of_below (((Below.refl _ w1).alloc (Nat.le_refl _) (.cells (cellsM WM.zero (.slice none 0 0)) 28)).trans ((row16 HNW.out m (.slice A1 m.stamp.length c1)).2.below (by simp) (by simp))) []).own HO.out (by simp))
  have HXX := Lib.hid (show w.heap.size < w1.heap.size from HK1.out.lt)
  clear HX1 HK1 HF HB1 HO
  unfold cellsM WM.zero at HNW
  rw [show cellsM WM.zero (.slice none 0 0) = #[.int .i64 0, .int .i64 0, .int .i64 0, .int .i64 0, .int .i64 0, .int .i64 0, .int .i64 0, .string ⟨#[]⟩, .int .i64 0, .int .i64 0, .int .i64 0, .bool false, .int .i64 0, .slice none 0 0, .int .i64 0, .int .i64 0] from rfl] at HLD HF2 HX2 HK2 HB2 HO2 HKD
  go_wp2_with (first
    | (refine wpList_store_row rfl 28 (.tmp 4) (.tmp 12) rfl w1.heap.size (cellsM m (.slice A1 m.stamp.length c1)) rfl rfl 28 _ HNW.out (by kernel_rfl) rfl (by simp [cellsM, Value.oneCell']) ?_)
    | (refine wpList_load_mid rfl 28 (.tmp 4) rfl w1.heap.size 0 rfl (cellsM m (.slice A1 m.stamp.length c1)).toList _ HLD.out Try.underlying28 rfl (by kernel_rfl) ?_))
  generalize (World.setRow _ _ _) = w2 at HLD HF2 HX2 HK2 HB2 HO2 HKD ⊢
  refine (WEncode_no A1 c1 m w2 HF2.out HV.out).mono ?_
  rintro e w3 ⟨rfl, hb3⟩
  have HX4 := Lib.hid (below_on HX2.out hb3)
  have HK4 := Lib.hid (blk_below HK2.out hb3)
  clear hb3 HX2 HK2 HB2 HO2 HKD HF2
  go_wp2_with (refine wpList_store_row rfl 28 (.tmp 2) (.tmp 26) rfl w.heap.size #[.int .i64 0, .int .i64 0, .int .i64 0, .int .i64 0, .int .i64 0, .int .i64 0, .int .i64 0, .string ⟨#[]⟩, .int .i64 0, .int .i64 0, .int .i64 0, .bool false, .int .i64 0, .slice none 0 0, .int .i64 0, .int .i64 0] rfl rfl 28 _ HK4.out (by kernel_rfl) rfl (by simp [Value.oneCell']) ?_)
  obtain ⟨hK, hM⟩ := row16 (m0 := WM.zero) (sv0 := .slice none 0 0) HK4.out WM.zero (.slice none 0 0)
  have HX5 := Lib.hid (HX4.out.trans (hM.below HX4.out.size (by simp)))
  have HK5 := Lib.hid hK
  clear hK hM
  rw [show cellsM WM.zero (.slice none 0 0) = #[.int .i64 0, .int .i64 0, .int .i64 0, .int .i64 0, .int .i64 0, .int .i64 0, .int .i64 0, .string ⟨#[]⟩, .int .i64 0, .int .i64 0, .int .i64 0, .bool false, .int .i64 0, .slice none 0 0, .int .i64 0, .int .i64 0] from rfl] at HX5 HK5
  generalize (World.setRow _ _ _) = w6 at HX5 HK5 ⊢
  obtain ⟨c0, c1, c2, c3, c4, c5, c6, c7, c8, c9, c10, c11, c12, c13, c14, c15⟩ := msg_cells HK5.out
  change bodyPost Try.prog _ _ Exit.ret _ _
  refine bodyPost_ret (v := .tuple #[.agg zeroM, .int .i64 21]) (by simp [results, Try.results13, go_sem, c0, c1, c2, c3, c4, c5, c6, c7, c8, c9, c10, c11, c12, c13, c14, c15, zeroM, cellsM, WM.zero]) rfl ?_
  exact ⟨rfl, HX5.out⟩
set_option maxHeartbeats 2000000 in
theorem Decode_neq (A : Option Addr) (c : Nat) (b : List UInt8) (w : World) (hB : BytesAt w A b) (hl : b.length ≤ 200) (hv : WM.valid (WM.taken 4 b) = true) (he : ¬ enc (WM.taken 4 b) = b) :
    Calls Try.prog 13 #[.slice A b.length c] w fun e w' => e = .returned (.tuple #[.agg zeroM, .int .i64 21]) ∧ Below w.heap.size w w' := by
  have HX := Lib.hid ((Below.refl _ w).alloc (Nat.le_refl _) (.cells zeroM 28))
  have HK := Lib.hid (Whole.new w 28 zeroM)
  have HB := Lib.hid (hB.below HX.out)
  have HV := Lib.hid hv
  have hd : decide ((200 : Int) < (b.length : Int)) = false := by simp; omega
  have HE := Lib.hid he; clear he
  clear hB hv
  unfold zeroM cellsM WM.zero at HX HK HB
  go_enter Try.func13, Try.ntmps13
  go_wp2_with fail
  have HW0 := Lib.hid (show (w.alloc (.cells #[.int .i64 0, .int .i64 0, .int .i64 0, .int .i64 0, .int .i64 0, .int .i64 0, .int .i64 0, .string ⟨#[]⟩, .int .i64 0, .int .i64 0, .int .i64 0, .bool false, .int .i64 0, .slice none 0 0, .int .i64 0, .int .i64 0] 28)).heap.size = w.heap.size + 1 by simp)
  generalize w.alloc _ = w0 at HX HK HB HW0 ⊢
  refine (taken_any A c b w0 HB.out (by omega)).mono ?_
  rintro e w1 ⟨sv, rfl, ho, hb⟩
  obtain ⟨A1, c1, hv1, hl1, hc1⟩ := own_shape ho.out
  subst hv1
  have HF := Lib.hid (show Fit w1 A1 c1 (WM.taken 4 b) from ⟨wide_taken 4 b, IntsAt.own ho.out, fun ad e => by subst e; exact (ho.out.lt _ rfl).2, hl1, hc1⟩)
  have HO := Lib.hid (show w1.ownsRow (w.heap.size + 1) 3 1 (.slice A1 (WM.taken 4 b).stamp.length c1) (WM.taken 4 b).stamp.length (i64s (WM.taken 4 b).stamp) by have h := ho.out; rw [HW0.out] at h; exact h)
  have HX1 := Lib.hid (below_on HX.out hb)
  have HK1 := Lib.hid (blk_below HK.out hb)
  have HB1 := Lib.hid (HB.out.below hb)
  clear ho hb HW0 HX HK HB
  generalize hmm : WM.taken 4 b = m at HV HF HO HE ⊢
  have HMM := Lib.hid hmm; clear hmm
  have HNW := Lib.hid (show MsgBlk (w1.alloc (.cells (cellsM WM.zero (.slice none 0 0)) 28)) w1.heap.size WM.zero (.slice none 0 0) from Whole.new w1 _ _)
  have HLD := Lib.hid (msg_range (row16 HNW.out m (.slice A1 m.stamp.length c1)).1)
  have HKD := Lib.hid ((row16 HNW.out m (.slice A1 m.stamp.length c1)).1)
  have HF2 := Lib.hid (HF.out.below (((Below.refl _ w1).alloc (Nat.le_refl _) (.cells (cellsM WM.zero (.slice none 0 0)) 28)).trans ((row16 HNW.out m (.slice A1 m.stamp.length c1)).2.below (by simp) (by simp))))
  have HX2 := Lib.hid (below_on HX1.out (((Below.refl _ w1).alloc (Nat.le_refl _) (.cells (cellsM WM.zero (.slice none 0 0)) 28)).trans ((row16 HNW.out m (.slice A1 m.stamp.length c1)).2.below (by simp) (by simp))))
  have HK2 := Lib.hid (blk_below HK1.out (((Below.refl _ w1).alloc (Nat.le_refl _) (.cells (cellsM WM.zero (.slice none 0 0)) 28)).trans ((row16 HNW.out m (.slice A1 m.stamp.length c1)).2.below (by simp) (by simp))))
  have HB2 := Lib.hid (HB1.out.below (((Below.refl _ w1).alloc (Nat.le_refl _) (.cells (cellsM WM.zero (.slice none 0 0)) 28)).trans ((row16 HNW.out m (.slice A1 m.stamp.length c1)).2.below (by simp) (by simp))))
  have HO2 := Lib.hid ((Mod.of_below (((Below.refl _ w1).alloc (Nat.le_refl _) (.cells (cellsM WM.zero (.slice none 0 0)) 28)).trans ((row16 HNW.out m (.slice A1 m.stamp.length c1)).2.below (by simp) (by simp))) []).own HO.out (by simp))
  have HXX := Lib.hid (show w.heap.size < w1.heap.size from HK1.out.lt)
  clear HX1 HK1 HF HB1 HO
  unfold cellsM WM.zero at HNW
  rw [show cellsM WM.zero (.slice none 0 0) = #[.int .i64 0, .int .i64 0, .int .i64 0, .int .i64 0, .int .i64 0, .int .i64 0, .int .i64 0, .string ⟨#[]⟩, .int .i64 0, .int .i64 0, .int .i64 0, .bool false, .int .i64 0, .slice none 0 0, .int .i64 0, .int .i64 0] from rfl] at HLD HF2 HX2 HK2 HB2 HO2 HKD
  go_wp2_with (first
    | (refine wpList_store_row rfl 28 (.tmp 4) (.tmp 12) rfl w1.heap.size (cellsM m (.slice A1 m.stamp.length c1)) rfl rfl 28 _ HNW.out (by kernel_rfl) rfl (by simp [cellsM, Value.oneCell']) ?_)
    | (refine wpList_load_mid rfl 28 (.tmp 4) rfl w1.heap.size 0 rfl (cellsM m (.slice A1 m.stamp.length c1)).toList _ HLD.out Try.underlying28 rfl (by kernel_rfl) ?_))
  generalize (World.setRow _ _ _) = w2 at HLD HF2 HX2 HK2 HB2 HO2 HKD ⊢
  refine (WEncode_yes A1 c1 m w2 HF2.out HV.out).mono ?_
  rintro e w3 ⟨v3, rfl, hg3⟩
  have hb3 := hg3.out.2
  have HX4 := Lib.hid (below_on HX2.out hb3)
  have HK4 := Lib.hid (blk_below HK2.out hb3)
  have HKD4 := Lib.hid (blk_below HKD.out hb3)
  have HB4 := Lib.hid (HB2.out.below hb3)
  have HO4 := Lib.hid ((Mod.of_below hb3 []).own HO2.out (by simp))
  obtain ⟨A5, n5, hv5, hl5, hc5⟩ := Oct.own_shape hg3.out.1
  subst hv5
  have HE4 := Lib.hid (BytesAt.own hg3.out.1)
  clear hb3 hg3 HX2 HK2 HB2 HO2 HKD HF2
  go_wp2_with fail
  refine (BytesEqual_any A5 A n5 c (enc m) b w3 HE4.out HB4.out).mono ?_
  rintro e w4 ⟨rfl, rfl⟩
  rw [decide_eq_false HE.out]
  go_wp2_with (refine wpList_store_row rfl 28 (.tmp 2) (.tmp 26) rfl w.heap.size #[.int .i64 0, .int .i64 0, .int .i64 0, .int .i64 0, .int .i64 0, .int .i64 0, .int .i64 0, .string ⟨#[]⟩, .int .i64 0, .int .i64 0, .int .i64 0, .bool false, .int .i64 0, .slice none 0 0, .int .i64 0, .int .i64 0] rfl rfl 28 _ HK4.out (by kernel_rfl) rfl (by simp [Value.oneCell']) ?_)
  obtain ⟨hK, hM⟩ := row16 (m0 := WM.zero) (sv0 := .slice none 0 0) HK4.out WM.zero (.slice none 0 0)
  have HX5 := Lib.hid (HX4.out.trans (hM.below HX4.out.size (by simp)))
  have HK5 := Lib.hid hK
  clear hK hM
  rw [show cellsM WM.zero (.slice none 0 0) = #[.int .i64 0, .int .i64 0, .int .i64 0, .int .i64 0, .int .i64 0, .int .i64 0, .int .i64 0, .string ⟨#[]⟩, .int .i64 0, .int .i64 0, .int .i64 0, .bool false, .int .i64 0, .slice none 0 0, .int .i64 0, .int .i64 0] from rfl] at HX5 HK5
  generalize (World.setRow _ _ _) = w6 at HX5 HK5 ⊢
  obtain ⟨c0, c1, c2, c3, c4, c5, c6, c7, c8, c9, c10, c11, c12, c13, c14, c15⟩ := msg_cells HK5.out
  change bodyPost Try.prog _ _ Exit.ret _ _
  refine bodyPost_ret (v := .tuple #[.agg zeroM, .int .i64 21]) (by simp [results, Try.results13, go_sem, c0, c1, c2, c3, c4, c5, c6, c7, c8, c9, c10, c11, c12, c13, c14, c15, zeroM, cellsM, WM.zero]) rfl ?_
  exact ⟨rfl, HX5.out⟩
set_option maxHeartbeats 2000000 in
theorem Decode_yes (A : Option Addr) (c : Nat) (b : List UInt8) (w : World) (hB : BytesAt w A b) (hl : b.length ≤ 200) (hv : WM.valid (WM.taken 4 b) = true) (he : enc (WM.taken 4 b) = b) :
    Calls Try.prog 13 #[.slice A b.length c] w fun e w' => ∃ A' c', e = .returned (.tuple #[.agg (cellsM (WM.taken 4 b) (.slice A' (WM.taken 4 b).stamp.length c')), .int .i64 0]) ∧ Hid (w'.ownsRow w.heap.size 3 1 (.slice A' (WM.taken 4 b).stamp.length c') (WM.taken 4 b).stamp.length (i64s (WM.taken 4 b).stamp)) ∧ Below w.heap.size w w' := by
  have HX := Lib.hid ((Below.refl _ w).alloc (Nat.le_refl _) (.cells zeroM 28))
  have HK := Lib.hid (Whole.new w 28 zeroM)
  have HB := Lib.hid (hB.below HX.out)
  have HV := Lib.hid hv
  have hd : decide ((200 : Int) < (b.length : Int)) = false := by simp; omega
  have HE := Lib.hid he; clear he
  clear hB hv
  unfold zeroM cellsM WM.zero at HX HK HB
  go_enter Try.func13, Try.ntmps13
  go_wp2_with fail
  have HW0 := Lib.hid (show (w.alloc (.cells #[.int .i64 0, .int .i64 0, .int .i64 0, .int .i64 0, .int .i64 0, .int .i64 0, .int .i64 0, .string ⟨#[]⟩, .int .i64 0, .int .i64 0, .int .i64 0, .bool false, .int .i64 0, .slice none 0 0, .int .i64 0, .int .i64 0] 28)).heap.size = w.heap.size + 1 by simp)
  generalize w.alloc _ = w0 at HX HK HB HW0 ⊢
  refine (taken_any A c b w0 HB.out (by omega)).mono ?_
  rintro e w1 ⟨sv, rfl, ho, hb⟩
  obtain ⟨A1, c1, hv1, hl1, hc1⟩ := own_shape ho.out
  subst hv1
  have HF := Lib.hid (show Fit w1 A1 c1 (WM.taken 4 b) from ⟨wide_taken 4 b, IntsAt.own ho.out, fun ad e => by subst e; exact (ho.out.lt _ rfl).2, hl1, hc1⟩)
  have HO := Lib.hid (show w1.ownsRow (w.heap.size + 1) 3 1 (.slice A1 (WM.taken 4 b).stamp.length c1) (WM.taken 4 b).stamp.length (i64s (WM.taken 4 b).stamp) by have h := ho.out; rw [HW0.out] at h; exact h)
  have HX1 := Lib.hid (below_on HX.out hb)
  have HK1 := Lib.hid (blk_below HK.out hb)
  have HB1 := Lib.hid (HB.out.below hb)
  clear ho hb HW0 HX HK HB
  generalize hmm : WM.taken 4 b = m at HV HF HO HE ⊢
  have HMM := Lib.hid hmm; clear hmm
  have HNW := Lib.hid (show MsgBlk (w1.alloc (.cells (cellsM WM.zero (.slice none 0 0)) 28)) w1.heap.size WM.zero (.slice none 0 0) from Whole.new w1 _ _)
  have HLD := Lib.hid (msg_range (row16 HNW.out m (.slice A1 m.stamp.length c1)).1)
  have HKD := Lib.hid ((row16 HNW.out m (.slice A1 m.stamp.length c1)).1)
  have HF2 := Lib.hid (HF.out.below (((Below.refl _ w1).alloc (Nat.le_refl _) (.cells (cellsM WM.zero (.slice none 0 0)) 28)).trans ((row16 HNW.out m (.slice A1 m.stamp.length c1)).2.below (by simp) (by simp))))
  have HX2 := Lib.hid (below_on HX1.out (((Below.refl _ w1).alloc (Nat.le_refl _) (.cells (cellsM WM.zero (.slice none 0 0)) 28)).trans ((row16 HNW.out m (.slice A1 m.stamp.length c1)).2.below (by simp) (by simp))))
  have HK2 := Lib.hid (blk_below HK1.out (((Below.refl _ w1).alloc (Nat.le_refl _) (.cells (cellsM WM.zero (.slice none 0 0)) 28)).trans ((row16 HNW.out m (.slice A1 m.stamp.length c1)).2.below (by simp) (by simp))))
  have HB2 := Lib.hid (HB1.out.below (((Below.refl _ w1).alloc (Nat.le_refl _) (.cells (cellsM WM.zero (.slice none 0 0)) 28)).trans ((row16 HNW.out m (.slice A1 m.stamp.length c1)).2.below (by simp) (by simp))))
  have HO2 := Lib.hid ((Mod.of_below (((Below.refl _ w1).alloc (Nat.le_refl _) (.cells (cellsM WM.zero (.slice none 0 0)) 28)).trans ((row16 HNW.out m (.slice A1 m.stamp.length c1)).2.below (by simp) (by simp))) []).own HO.out (by simp))
  have HXX := Lib.hid (show w.heap.size < w1.heap.size from HK1.out.lt)
  clear HX1 HK1 HF HB1 HO
  unfold cellsM WM.zero at HNW
  rw [show cellsM WM.zero (.slice none 0 0) = #[.int .i64 0, .int .i64 0, .int .i64 0, .int .i64 0, .int .i64 0, .int .i64 0, .int .i64 0, .string ⟨#[]⟩, .int .i64 0, .int .i64 0, .int .i64 0, .bool false, .int .i64 0, .slice none 0 0, .int .i64 0, .int .i64 0] from rfl] at HLD HF2 HX2 HK2 HB2 HO2 HKD
  go_wp2_with (first
    | (refine wpList_store_row rfl 28 (.tmp 4) (.tmp 12) rfl w1.heap.size (cellsM m (.slice A1 m.stamp.length c1)) rfl rfl 28 _ HNW.out (by kernel_rfl) rfl (by simp [cellsM, Value.oneCell']) ?_)
    | (refine wpList_load_mid rfl 28 (.tmp 4) rfl w1.heap.size 0 rfl (cellsM m (.slice A1 m.stamp.length c1)).toList _ HLD.out Try.underlying28 rfl (by kernel_rfl) ?_))
  generalize (World.setRow _ _ _) = w2 at HLD HF2 HX2 HK2 HB2 HO2 HKD ⊢
  refine (WEncode_yes A1 c1 m w2 HF2.out HV.out).mono ?_
  rintro e w3 ⟨v3, rfl, hg3⟩
  have hb3 := hg3.out.2
  have HX4 := Lib.hid (below_on HX2.out hb3)
  have HK4 := Lib.hid (blk_below HK2.out hb3)
  have HKD4 := Lib.hid (blk_below HKD.out hb3)
  have HB4 := Lib.hid (HB2.out.below hb3)
  have HO4 := Lib.hid ((Mod.of_below hb3 []).own HO2.out (by simp))
  obtain ⟨A5, n5, hv5, hl5, hc5⟩ := Oct.own_shape hg3.out.1
  subst hv5
  have HE4 := Lib.hid (BytesAt.own hg3.out.1)
  clear hb3 hg3 HX2 HK2 HB2 HO2 HKD HF2
  go_wp2_with fail
  refine (BytesEqual_any A5 A n5 c (enc m) b w3 HE4.out HB4.out).mono ?_
  rintro e w4 ⟨rfl, rfl⟩
  rw [decide_eq_true HE.out]
  have HLD4 := Lib.hid (msg_range HKD4.out)
  have HR4 := Lib.hid (show MsgBlk w3 w.heap.size WM.zero (.slice none 0 0) from HK4.out)
  clear HLD
  go_wp2_with (first
    | (refine wpList_load_mid rfl 28 (.tmp 4) rfl w1.heap.size 0 rfl (cellsM m (.slice A1 m.stamp.length c1)).toList _ HLD4.out Try.underlying28 rfl (by kernel_rfl) ?_)
    | (refine wpList_store_row rfl 28 (.tmp 2) (.tmp 27) rfl w.heap.size (cellsM m (.slice A1 m.stamp.length c1)) rfl rfl 28 _ HK4.out (by kernel_rfl) rfl (by simp [cellsM, Value.oneCell']) ?_))
  obtain ⟨hK, hM⟩ := row16 HR4.out m (.slice A1 m.stamp.length c1)
  have HX5 := Lib.hid (HX4.out.trans (hM.below HX4.out.size (by simp)))
  have HO5 := Lib.hid (own_base (hM.own HO4.out (fun k hk => by have h1 := (HO4.out.lt k hk).1; simp; omega)) (Nat.le_succ _))
  have HK5 := Lib.hid hK
  clear hK hM
  generalize (World.setRow _ _ _) = w6 at HX5 HK5 HO5 ⊢
  obtain ⟨c0, c1', c2, c3, c4, c5, c6, c7, c8, c9, c10, c11, c12, c13, c14, c15⟩ := msg_cells HK5.out
  change bodyPost Try.prog _ _ Exit.ret _ _
  refine bodyPost_ret (v := .tuple #[.agg (cellsM m (.slice A1 m.stamp.length c1)), .int .i64 0]) (by simp [results, Try.results13, go_sem, c0, c1', c2, c3, c4, c5, c6, c7, c8, c9, c10, c11, c12, c13, c14, c15, cellsM]) rfl ?_
  exact ⟨A1, c1, by rw [HMM.out], by rw [HMM.out]; exact HO5, HX5.out⟩
theorem Decode_no (A : Option Addr) (c : Nat) (b : List UInt8) (w : World) (hB : BytesAt w A b) (hl : b.length ≤ 140737488355328) (h : dec b = false) :
    Calls Try.prog 13 #[.slice A b.length c] w fun e w' => e = .returned (.tuple #[.agg zeroM, .int .i64 21]) ∧ Below w.heap.size w w' := by
  by_cases h2 : b.length ≤ 200
  · by_cases hv : WM.valid (WM.taken 4 b) = true
    · by_cases he : enc (WM.taken 4 b) = b
      · unfold dec at h
        rw [hv, decide_eq_true h2, decide_eq_true he] at h
        cases h
      · exact Decode_neq A c b w hB h2 hv he
    · exact Decode_bad A c b w hB h2 (by simpa using hv)
  · exact Decode_long A c b w (by omega) hl
theorem Decode_ok (A : Option Addr) (c : Nat) (b : List UInt8) (w : World) (hB : BytesAt w A b) (h : dec b = true) :
    Calls Try.prog 13 #[.slice A b.length c] w fun e w' => ∃ A' c', e = .returned (.tuple #[.agg (cellsM (WM.taken 4 b) (.slice A' (WM.taken 4 b).stamp.length c')), .int .i64 0]) ∧ Hid (w'.ownsRow w.heap.size 3 1 (.slice A' (WM.taken 4 b).stamp.length c') (WM.taken 4 b).stamp.length (i64s (WM.taken 4 b).stamp)) ∧ Below w.heap.size w w' := by
  unfold dec at h
  simp only [Bool.and_eq_true, decide_eq_true_eq] at h
  exact Decode_yes A c b w hB h.1 h.2.1 h.2.2
end Go.Proofs.Ytboflkadabagfaa
