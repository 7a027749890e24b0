/- The questions that open each statement of layer 6. -/
import Derived.Test.YtboflkadabagfaaWireW13
import Derived.Test.YtboflkadabagfaaBytes
namespace Go.Proofs.Ytboflkadabagfaa
open Go.RowKit
open Oct (BytesAt u8s)
open WM (Msg)
set_option linter.unusedVariables false
set_option linter.unusedSimpArgs false
set_option maxRecDepth 100000
theorem small_valid : WM.valid small = true := by decide +kernel
theorem six_not : WM.valid six = false := by decide +kernel
theorem small_front : (enc small).take 14 = [1, 1, 0, 1, 2, 1, 1, 3, 97, 47, 98, 2, 172, 2] := by decide +kernel
theorem small_len : (enc small).length = 18 := by decide +kernel
theorem small_wide : Wide small := by
  refine ⟨?_, ?_, ?_, ?_, ?_, ?_, ?_, ?_, ?_, ?_, ?_, ?_, ?_, ?_, ?_⟩
  all_goals first | (intro x hx; cases hx; done) | (unfold In64 small; decide) | (unfold small; decide)
theorem six_wide : Wide six := by
  refine ⟨?_, ?_, ?_, ?_, ?_, ?_, ?_, ?_, ?_, ?_, ?_, ?_, ?_, ?_, ?_⟩
  all_goals first | (intro x hx; cases hx; done) | (unfold In64 six WM.zero; decide) | (unfold six WM.zero; decide)
theorem small_fit (w : World) : Fit w none 0 small := ⟨small_wide, IntsAt.nil _ _, (by intro ad e; cases e), Nat.le_refl _, Nat.zero_le _⟩
theorem six_fit (w : World) : Fit w none 0 six := ⟨six_wide, IntsAt.nil _ _, (by intro ad e; cases e), Nat.le_refl _, Nat.zero_le _⟩
/-- A cell block that holds the example. -/
def SmallAt (A : Option Addr) (c g : Nat) (w' : World) : Prop := w'.cell? ⟨g, 0, none⟩ = some (.int .i64 1) ∧ w'.cell? ⟨g, 1, none⟩ = some (.int .i64 1) ∧ w'.cell? ⟨g, 2, none⟩ = some (.int .i64 0) ∧ w'.cell? ⟨g, 3, none⟩ = some (.int .i64 1) ∧ w'.cell? ⟨g, 4, none⟩ = some (.int .i64 2) ∧ w'.cell? ⟨g, 5, none⟩ = some (.int .i64 1) ∧ w'.cell? ⟨g, 6, none⟩ = some (.int .i64 1) ∧ w'.cell? ⟨g, 7, none⟩ = some (.string ⟨#[97, 47, 98]⟩) ∧ w'.cell? ⟨g, 8, none⟩ = some (.int .i64 2) ∧ w'.cell? ⟨g, 9, none⟩ = some (.int .i64 300) ∧ w'.cell? ⟨g, 10, none⟩ = some (.int .i64 0) ∧ w'.cell? ⟨g, 11, none⟩ = some (.bool false) ∧ w'.cell? ⟨g, 12, none⟩ = some (.int .i64 0) ∧ w'.cell? ⟨g, 13, none⟩ = some (.slice A 0 c) ∧ w'.cell? ⟨g, 14, none⟩ = some (.int .i64 0) ∧ w'.cell? ⟨g, 15, none⟩ = some (.int .i64 0)
theorem SmallAt.of {A : Option Addr} {c g : Nat} {w : World} (h : MsgBlk w g small (.slice A 0 c)) : SmallAt A c g w := msg_cells h
theorem Decode_enc (A : Option Addr) (c : Nat) (m : Msg) (w : World) (hv : WM.valid m = true) (hB : BytesAt w A (enc m)) :
    Calls Try.prog 13 #[.slice A (enc m).length c] w fun e w' => ∃ A' c', e = .returned (.tuple #[.agg (cellsM m (.slice A' m.stamp.length c')), .int .i64 0]) ∧ Hid (w'.ownsRow w.heap.size 3 1 (.slice A' m.stamp.length c') m.stamp.length (i64s m.stamp)) ∧ Below w.heap.size w w' := by
  have h := Decode_ok A c (enc m) w hB (dec_enc hv)
  rw [taken_enc hv] at h
  exact h
theorem Valid_small (w : World) :
    Calls Try.prog 11 #[.agg (cellsM small (.slice none 0 0))] w fun e w' => e = .returned (.bool true) ∧ Below w.heap.size w w' := by
  have h := WValid_any none 0 small w (small_fit w)
  rw [small_valid] at h
  exact h
set_option maxHeartbeats 8000000 in
theorem awake_any (w : World) : Calls Try.prog 7 #[] w fun e w' => e = .returned (.bool true) ∧ Below w.heap.size w w' := by
  go_enter Try.func7, Try.ntmps7
  go_wp2_with fail
  refine (small_any w).mono ?_
  rintro e w1 ⟨rfl, hb1⟩
  have HX1 := Lib.hid hb1; clear hb1
  go_wp2_with fail
  refine (WEncode_yes none 0 small w1 (small_fit w1) small_valid).mono ?_
  rintro e w2 ⟨v2, rfl, hg⟩
  obtain ⟨A2, c2, hv2, hl2, hc2⟩ := Oct.own_shape hg.out.1
  subst hv2
  have HB2 := Lib.hid (BytesAt.own hg.out.1)
  have HX2 := Lib.hid (below_on HX1.out hg.out.2)
  have HE := Lib.hid (show ∃ x c, c = x from ⟨c2, c2, rfl⟩)
  have hd1 : (((enc small).length : Int) != 18) = false := by rw [small_len]; rfl
  have hd2 : (14 : Int) ≤ (c2 : Int) := by rw [small_len] at hl2; omega
  have hcv : (convert 30 9 (.slice A2 14 c2)).run Try.prog w2 = .ok (.string ⟨#[1, 1, 0, 1, 2, 1, 1, 3, 97, 47, 98, 2, 172, 2]⟩) w2 := by
    have h := HB2.out.front 14
    rw [small_front] at h
    exact By.conv_of (xs := [1, 1, 0, 1, 2, 1, 1, 3, 97, 47, 98, 2, 172, 2]) rfl h
  clear hg hl2 HX1
  go_wp2_with fail
  clear hd1 hd2 hcv
  refine (Decode_enc A2 c2 small w2 small_valid HB2.out).mono ?_
  rintro e w3 ⟨A3, c3, rfl, ho, hb⟩
  have HF3 := Lib.hid (own_fit small_wide ho.out)
  have HX3 := Lib.hid (below_on HX2.out hb)
  clear ho hb HX2 HB2
  have HNW := Lib.hid (show MsgBlk (w3.alloc (.cells (cellsM WM.zero (.slice none 0 0)) 28)) w3.heap.size WM.zero (.slice none 0 0) from Whole.new w3 _ _)
  have HKD := Lib.hid ((row16 HNW.out small (.slice A3 small.stamp.length c3)).1)
  have HB4 := Lib.hid (((Below.refl _ w3).alloc (Nat.le_refl _) (.cells (cellsM WM.zero (.slice none 0 0)) 28)).trans ((row16 HNW.out small (.slice A3 small.stamp.length c3)).2.below (by simp) (by simp)))
  have HF4 := Lib.hid (HF3.out.below HB4.out)
  have HX4 := Lib.hid (below_on HX3.out HB4.out)
  clear HX3 HF3 HB4
  unfold cellsM WM.zero at HNW
  rw [show cellsM WM.zero (.slice none 0 0) = #[.int .i64 0, .int .i64 0, .int .i64 0, .int .i64 0, .int .i64 0, .int .i64 0, .int .i64 0, .string ⟨#[]⟩, .int .i64 0, .int .i64 0, .int .i64 0, .bool false, .int .i64 0, .slice none 0 0, .int .i64 0, .int .i64 0] from rfl] at HKD HF4 HX4
  go_wp2_with (refine wpList_store_row rfl 28 (.tmp 3) (.tmp 28) rfl w3.heap.size (cellsM small (.slice A3 small.stamp.length c3)) rfl rfl 28 _ HNW.out (by kernel_rfl) rfl (by simp [cellsM, Value.oneCell']) ?_)
  generalize (World.setRow _ _ _) = w4 at HKD HF4 HX4 ⊢
  clear HNW
  refine (WEncode_no none 0 six w4 (six_fit w4) six_not).mono ?_
  rintro e w5 ⟨rfl, hb5⟩
  have HF5 := Lib.hid (HF4.out.below hb5)
  have HX5 := Lib.hid (below_on HX4.out hb5)
  have HK5 := Lib.hid (blk_below HKD.out hb5)
  clear hb5 HKD HF4 HX4
  go_wp2_with fail
  have HK := Lib.hid (show MsgBlk w5.drew w3.heap.size small (.slice A3 0 c3) from HK5.out)
  have HF := Lib.hid (show Fit w5.drew A3 c3 small from HF5.out.below (Below.drew (Below.refl _ w5)))
  have HX := Lib.hid (show Below w.heap.size w w5.drew from HX5.out.drew)
  have HS := SmallAt.of HK.out
  unfold SmallAt at HS
  clear HK5 HF5 HX5
  go_region_held3 (fun w' : World => w'.cell? ⟨w3.heap.size, 0, none⟩ = some (.int .i64 1) ∧ w'.cell? ⟨w3.heap.size, 1, none⟩ = some (.int .i64 1) ∧ w'.cell? ⟨w3.heap.size, 2, none⟩ = some (.int .i64 0) ∧ w'.cell? ⟨w3.heap.size, 3, none⟩ = some (.int .i64 1) ∧ w'.cell? ⟨w3.heap.size, 4, none⟩ = some (.int .i64 2) ∧ w'.cell? ⟨w3.heap.size, 5, none⟩ = some (.int .i64 1) ∧ w'.cell? ⟨w3.heap.size, 6, none⟩ = some (.int .i64 1) ∧ w'.cell? ⟨w3.heap.size, 7, none⟩ = some (.string ⟨#[97, 47, 98]⟩) ∧ w'.cell? ⟨w3.heap.size, 8, none⟩ = some (.int .i64 2) ∧ w'.cell? ⟨w3.heap.size, 9, none⟩ = some (.int .i64 300) ∧ w'.cell? ⟨w3.heap.size, 10, none⟩ = some (.int .i64 0) ∧ w'.cell? ⟨w3.heap.size, 11, none⟩ = some (.bool false) ∧ w'.cell? ⟨w3.heap.size, 12, none⟩ = some (.int .i64 0) ∧ w'.cell? ⟨w3.heap.size, 13, none⟩ = some (.slice A3 0 c3) ∧ w'.cell? ⟨w3.heap.size, 14, none⟩ = some (.int .i64 0) ∧ w'.cell? ⟨w3.heap.size, 15, none⟩ = some (.int .i64 0))
    (first
      | exact HS
      | (go_keep; done))
    (first
      | (go_at_call 18; refine (small_any _).mono ?_; rintro x w6 ⟨rfl, hb6⟩; replace HS := SmallAt.of (blk_below HK.out hb6); unfold SmallAt at HS; replace HK := Lib.hid (blk_below HK.out hb6); replace HF := Lib.hid (HF.out.below hb6); replace HX := Lib.hid (below_on HX.out hb6); clear hb6)
      | (go_at_call 16; refine (Same_self A3 none c3 0 small _ HF.out.ints (IntsAt.nil _ _) HF.out.le (Nat.le_refl 0) HF.out.cap (by omega)).mono ?_; rintro x w6 ⟨rfl, hb6⟩; replace HS := SmallAt.of (blk_below HK.out hb6); unfold SmallAt at HS; replace HK := Lib.hid (blk_below HK.out hb6); replace HF := Lib.hid (HF.out.below hb6); replace HX := Lib.hid (below_on HX.out hb6); clear hb6)
      | (go_at_call 11; refine (Valid_small _).mono ?_; rintro x w6 ⟨rfl, hb6⟩; replace HS := SmallAt.of (blk_below HK.out hb6); unfold SmallAt at HS; replace HK := Lib.hid (blk_below HK.out hb6); replace HF := Lib.hid (HF.out.below hb6); replace HX := Lib.hid (below_on HX.out hb6); clear hb6))
  all_goals
    go_wp2_with fail
    go_ret
    exact ⟨rfl, HX.out⟩
end Go.Proofs.Ytboflkadabagfaa
