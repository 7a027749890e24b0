/- May it be a message, its bytes, the message of bytes: the package's calls of layer 6. -/
import Derived.Test.YtbjemihcbbiiaaaWireW10
namespace Go.Proofs.Ytbjemihcbbiiaaa
open Go.RowKit
open Oct (BytesAt)
open WM (Msg)
set_option linter.unusedVariables false
set_option maxRecDepth 100000
attribute [local go_sem] run_store_func run_store_nilFunc
set_option maxHeartbeats 4000000 in
theorem WValid_reply_a (A : Option Addr) (c : Nat) (m : Msg) (w : World) (h : Fit w A c m) (hk : m.kind = 2) (hgo : WM.mayGo m = false) :
    Calls Try.prog 21 #[.agg (cellsM m (.slice A m.stamp.length c))] w fun e w' => e = .returned (.bool (WM.valid m)) ∧ Below w.heap.size w w' := by
  have HF := Lib.hid (h.below ((Below.refl _ w).alloc (Nat.le_refl _) (.cells (cellsM m (.slice A m.stamp.length c)) 32)))
  have HK := Lib.hid (Whole.new w 32 (cellsM m (.slice A m.stamp.length c)))
  have HX := Lib.hid ((Below.refl _ w).alloc (Nat.le_refl _) (.cells (cellsM m (.slice A m.stamp.length c)) 32))
  have HP := Lib.hid (show WM.may m = (WM.mayGo m && WM.mayReply m) by unfold WM.may WM.mayPart; simp [hk])
  have c0 : (w.alloc (.cells (cellsM m (.slice A m.stamp.length c)) 32)).cell? ⟨w.heap.size, 0, none⟩ = some (.int .i64 2) := by rw [← hk]; exact HK.out.cell 0
  have HZ := Lib.hid (show w.heap.size < (w.alloc (.cells (cellsM m (.slice A m.stamp.length c)) 32)).heap.size by simp)
  clear h hk
  have HGO := Lib.hid hgo; clear hgo
  have HV := Lib.hid (valid_may (show WM.may m = false by rw [HP.out, HGO.out]; rfl))
  rw [HV.out]
  go_enter Try.func21, Try.ntmps21
  go_wp2_with fail
  clear c0
  generalize (w.alloc (.cells (cellsM m (.slice A m.stamp.length c)) 32)) = w0 at HF HK HX HZ ⊢
  refine (layout_reply w0).mono ?_
  rintro e w1 ⟨rfl, hb1⟩
  have HB1 := Lib.hid (show Below w0.heap.size w0 (w1.alloc (.cells #[fnV 49, fnV 50, fnV 51] 84)) from hb1.trans ((Below.refl _ w1).alloc hb1.size _))
  have HL := Lib.hid (Whole.new w1 84 #[fnV 49, fnV 50, fnV 51])
  have HK1 := Lib.hid (blk_below HK.out HB1.out)
  have HF1 := Lib.hid (HF.out.below HB1.out)
  have HX1 := Lib.hid (below_on HX.out HB1.out)
  clear hb1 HB1
  obtain ⟨c0, c1, c2, c3, c4, c5, c6, c7, c8, c9, c10, c11, c12, c13, c14, c15⟩ := msg_cells HK1.out
  go_wp2_with fail
  clear c0 c1 c2 c3 c4 c5 c6 c7 c8 c9 c10 c11 c12 c13 c14 c15
  generalize w1.alloc (.cells #[fnV 49, fnV 50, fnV 51] 84) = w2 at HL HK1 HF1 HX1 ⊢
  refine (w_mayGo A c m w2 HF1.out.wide HF1.out.ints HF1.out.le HF1.out.cap).mono ?_
  rintro e w3 ⟨rfl, hb3⟩
  have HL3 := Lib.hid (blk_below HL.out hb3)
  have HK3 := Lib.hid (blk_below HK1.out hb3)
  have HF3 := Lib.hid (HF1.out.below hb3)
  have HX3 := Lib.hid (below_on HX1.out hb3)
  clear hb3 HL HK1 HF1 HX1
  rw [HGO.out]
  go_wp2_with fail
  go_ret
  exact ⟨rfl, HX3.out⟩
set_option maxHeartbeats 4000000 in
theorem WValid_reply_b (A : Option Addr) (c : Nat) (m : Msg) (w : World) (h : Fit w A c m) (hk : m.kind = 2) (hgo : WM.mayGo m = true) (hp : WM.mayReply m = false) :
    Calls Try.prog 21 #[.agg (cellsM m (.slice A m.stamp.length c))] w fun e w' => e = .returned (.bool (WM.valid m)) ∧ Below w.heap.size w w' := by
  have HF := Lib.hid (h.below ((Below.refl _ w).alloc (Nat.le_refl _) (.cells (cellsM m (.slice A m.stamp.length c)) 32)))
  have HK := Lib.hid (Whole.new w 32 (cellsM m (.slice A m.stamp.length c)))
  have HX := Lib.hid ((Below.refl _ w).alloc (Nat.le_refl _) (.cells (cellsM m (.slice A m.stamp.length c)) 32))
  have HP := Lib.hid (show WM.may m = (WM.mayGo m && WM.mayReply m) by unfold WM.may WM.mayPart; simp [hk])
  have c0 : (w.alloc (.cells (cellsM m (.slice A m.stamp.length c)) 32)).cell? ⟨w.heap.size, 0, none⟩ = some (.int .i64 2) := by rw [← hk]; exact HK.out.cell 0
  have HZ := Lib.hid (show w.heap.size < (w.alloc (.cells (cellsM m (.slice A m.stamp.length c)) 32)).heap.size by simp)
  clear h hk
  have HGO := Lib.hid hgo; clear hgo
  have HPP := Lib.hid hp; clear hp
  have HV := Lib.hid (valid_may (show WM.may m = false by rw [HP.out, HGO.out, HPP.out]; rfl))
  rw [HV.out]
  go_enter Try.func21, Try.ntmps21
  go_wp2_with fail
  clear c0
  generalize (w.alloc (.cells (cellsM m (.slice A m.stamp.length c)) 32)) = w0 at HF HK HX HZ ⊢
  refine (layout_reply w0).mono ?_
  rintro e w1 ⟨rfl, hb1⟩
  have HB1 := Lib.hid (show Below w0.heap.size w0 (w1.alloc (.cells #[fnV 49, fnV 50, fnV 51] 84)) from hb1.trans ((Below.refl _ w1).alloc hb1.size _))
  have HL := Lib.hid (Whole.new w1 84 #[fnV 49, fnV 50, fnV 51])
  have HK1 := Lib.hid (blk_below HK.out HB1.out)
  have HF1 := Lib.hid (HF.out.below HB1.out)
  have HX1 := Lib.hid (below_on HX.out HB1.out)
  clear hb1 HB1
  obtain ⟨c0, c1, c2, c3, c4, c5, c6, c7, c8, c9, c10, c11, c12, c13, c14, c15⟩ := msg_cells HK1.out
  go_wp2_with fail
  clear c0 c1 c2 c3 c4 c5 c6 c7 c8 c9 c10 c11 c12 c13 c14 c15
  generalize w1.alloc (.cells #[fnV 49, fnV 50, fnV 51] 84) = w2 at HL HK1 HF1 HX1 ⊢
  refine (w_mayGo A c m w2 HF1.out.wide HF1.out.ints HF1.out.le HF1.out.cap).mono ?_
  rintro e w3 ⟨rfl, hb3⟩
  have HL3 := Lib.hid (blk_below HL.out hb3)
  have HK3 := Lib.hid (blk_below HK1.out hb3)
  have HF3 := Lib.hid (HF1.out.below hb3)
  have HX3 := Lib.hid (below_on HX1.out hb3)
  clear hb3 HL HK1 HF1 HX1
  rw [HGO.out]
  obtain ⟨c0, c1, c2, c3, c4, c5, c6, c7, c8, c9, c10, c11, c12, c13, c14, c15⟩ := msg_cells HK3.out
  have l2 : w3.cell? ⟨w1.heap.size, 2, none⟩ = some (fnV 51) := HL3.out.cell 2
  go_wp2_with fail
  clear c0 c1 c2 c3 c4 c5 c6 c7 c8 c9 c10 c11 c12 c13 c14 c15 l2
  refine (w_mayReply A c m w3 HF3.out.wide HF3.out.ints HF3.out.le HF3.out.cap).mono ?_
  rintro e w4 ⟨rfl, hb4⟩
  have HK4 := Lib.hid (blk_below HK3.out hb4)
  have HF4 := Lib.hid (HF3.out.below hb4)
  have HX4 := Lib.hid (below_on HX3.out hb4)
  clear hb4 HL3 HK3 HF3 HX3
  rw [HPP.out]
  go_wp2_with fail
  go_ret
  exact ⟨rfl, HX4.out⟩
set_option maxHeartbeats 4000000 in
theorem WValid_reply_c (A : Option Addr) (c : Nat) (m : Msg) (w : World) (h : Fit w A c m) (hk : m.kind = 2) (hgo : WM.mayGo m = true) (hp : WM.mayReply m = true) :
    Calls Try.prog 21 #[.agg (cellsM m (.slice A m.stamp.length c))] w fun e w' => e = .returned (.bool (WM.valid m)) ∧ Below w.heap.size w w' := by
  have HF := Lib.hid (h.below ((Below.refl _ w).alloc (Nat.le_refl _) (.cells (cellsM m (.slice A m.stamp.length c)) 32)))
  have HK := Lib.hid (Whole.new w 32 (cellsM m (.slice A m.stamp.length c)))
  have HX := Lib.hid ((Below.refl _ w).alloc (Nat.le_refl _) (.cells (cellsM m (.slice A m.stamp.length c)) 32))
  have HP := Lib.hid (show WM.may m = (WM.mayGo m && WM.mayReply m) by unfold WM.may WM.mayPart; simp [hk])
  have c0 : (w.alloc (.cells (cellsM m (.slice A m.stamp.length c)) 32)).cell? ⟨w.heap.size, 0, none⟩ = some (.int .i64 2) := by rw [← hk]; exact HK.out.cell 0
  have HZ := Lib.hid (show w.heap.size < (w.alloc (.cells (cellsM m (.slice A m.stamp.length c)) 32)).heap.size by simp)
  clear h hk
  have HGO := Lib.hid hgo; clear hgo
  have HPP := Lib.hid hp; clear hp
  have HMAY := Lib.hid (show WM.may m = true by rw [HP.out, HGO.out, HPP.out]; rfl)
  have HV := Lib.hid (valid_same HMAY.out)
  rw [← HV.out]
  go_enter Try.func21, Try.ntmps21
  go_wp2_with fail
  clear c0
  generalize (w.alloc (.cells (cellsM m (.slice A m.stamp.length c)) 32)) = w0 at HF HK HX HZ ⊢
  refine (layout_reply w0).mono ?_
  rintro e w1 ⟨rfl, hb1⟩
  have HB1 := Lib.hid (show Below w0.heap.size w0 (w1.alloc (.cells #[fnV 49, fnV 50, fnV 51] 84)) from hb1.trans ((Below.refl _ w1).alloc hb1.size _))
  have HL := Lib.hid (Whole.new w1 84 #[fnV 49, fnV 50, fnV 51])
  have HK1 := Lib.hid (blk_below HK.out HB1.out)
  have HF1 := Lib.hid (HF.out.below HB1.out)
  have HX1 := Lib.hid (below_on HX.out HB1.out)
  clear hb1 HB1
  obtain ⟨c0, c1, c2, c3, c4, c5, c6, c7, c8, c9, c10, c11, c12, c13, c14, c15⟩ := msg_cells HK1.out
  go_wp2_with fail
  clear c0 c1 c2 c3 c4 c5 c6 c7 c8 c9 c10 c11 c12 c13 c14 c15
  generalize w1.alloc (.cells #[fnV 49, fnV 50, fnV 51] 84) = w2 at HL HK1 HF1 HX1 ⊢
  refine (w_mayGo A c m w2 HF1.out.wide HF1.out.ints HF1.out.le HF1.out.cap).mono ?_
  rintro e w3 ⟨rfl, hb3⟩
  have HL3 := Lib.hid (blk_below HL.out hb3)
  have HK3 := Lib.hid (blk_below HK1.out hb3)
  have HF3 := Lib.hid (HF1.out.below hb3)
  have HX3 := Lib.hid (below_on HX1.out hb3)
  clear hb3 HL HK1 HF1 HX1
  rw [HGO.out]
  obtain ⟨c0, c1, c2, c3, c4, c5, c6, c7, c8, c9, c10, c11, c12, c13, c14, c15⟩ := msg_cells HK3.out
  have l2 : w3.cell? ⟨w1.heap.size, 2, none⟩ = some (fnV 51) := HL3.out.cell 2
  go_wp2_with fail
  clear c0 c1 c2 c3 c4 c5 c6 c7 c8 c9 c10 c11 c12 c13 c14 c15 l2
  refine (w_mayReply A c m w3 HF3.out.wide HF3.out.ints HF3.out.le HF3.out.cap).mono ?_
  rintro e w4 ⟨rfl, hb4⟩
  have HK4 := Lib.hid (blk_below HK3.out hb4)
  have HF4 := Lib.hid (HF3.out.below hb4)
  have HX4 := Lib.hid (below_on HX3.out hb4)
  clear hb4 HL3 HK3 HF3 HX3
  rw [HPP.out]
  go_wp2_with fail
  have HK5 := Lib.hid (show MsgBlk w4.drew w.heap.size m (.slice A m.stamp.length c) from HK4.out)
  have HF5 := Lib.hid (show Fit w4.drew A c m from HF4.out.below (Below.drew (Below.refl _ w4)))
  have HX5 := Lib.hid (show Below w.heap.size w w4.drew from HX4.out.drew)
  have HS := msg_cells HK5.out
  have HBL := Lib.hid (show (WM.body m).length ≤ 140737488355328 by have := WM.body_len HMAY.out; omega)
  go_region_held3 (fun w' : World => w'.cell? ⟨w.heap.size, 0, none⟩ = some (.int .i64 m.kind) ∧ w'.cell? ⟨w.heap.size, 1, none⟩ = some (.int .i64 m.frm) ∧ w'.cell? ⟨w.heap.size, 2, none⟩ = some (.int .i64 m.dst) ∧ w'.cell? ⟨w.heap.size, 3, none⟩ = some (.int .i64 m.boot) ∧ w'.cell? ⟨w.heap.size, 4, none⟩ = some (.int .i64 m.seq) ∧ w'.cell? ⟨w.heap.size, 5, none⟩ = some (.int .i64 m.low) ∧ w'.cell? ⟨w.heap.size, 6, none⟩ = some (.int .i64 m.verb) ∧ w'.cell? ⟨w.heap.size, 7, none⟩ = some (.string m.path) ∧ w'.cell? ⟨w.heap.size, 8, none⟩ = some (.int .i64 m.mode) ∧ w'.cell? ⟨w.heap.size, 9, none⟩ = some (.int .i64 m.term) ∧ w'.cell? ⟨w.heap.size, 10, none⟩ = some (.int .i64 m.id) ∧ w'.cell? ⟨w.heap.size, 11, none⟩ = some (.bool m.fresh) ∧ w'.cell? ⟨w.heap.size, 12, none⟩ = some (.int .i64 m.code) ∧ w'.cell? ⟨w.heap.size, 13, none⟩ = some (.slice A m.stamp.length c) ∧ w'.cell? ⟨w.heap.size, 14, none⟩ = some (.int .i64 m.origin) ∧ w'.cell? ⟨w.heap.size, 15, none⟩ = some (.int .i64 m.number))
    (first
      | exact HS
      | (go_keep; done))
    (first
      | (go_at_call 36; refine (laid_may A c m _ HF5.out HMAY.out).mono ?_; rintro x w5 ⟨v, rfl, hown, hb⟩; obtain ⟨A5, c5, hv5, hl5, hc5⟩ := Oct.own_shape hown; subst hv5; have HO5 := Lib.hid (Oct.BytesAt.own hown); have HF6 := Lib.hid (HF5.out.below hb); have HX6 := Lib.hid (below_on HX5.out hb); replace HS := msg_cells (blk_below HK5.out hb); have HK6 := Lib.hid (blk_below HK5.out hb); clear hown hb)
      | (go_at_call 35; refine (taken_any A5 c5 (WM.body m) _ HO5.out HBL.out).mono ?_; rintro x w6 ⟨sv6, rfl, hO6, hb6⟩; have HF7 := Lib.hid (HF6.out.below hb6); have HX7 := Lib.hid (below_on HX6.out hb6); replace HS := msg_cells (blk_below HK6.out hb6); have HK7 := Lib.hid (blk_below HK6.out hb6); have HI6 := hO6; obtain ⟨A6, c6, hv6, hl6, hc6⟩ := own_shape hO6.out; subst hv6; have HI7 := Lib.hid (IntsAt.own HI6.out); clear hO6 hb6 HI6)
      | (go_at_call 34; refine (Same_any A A6 c c6 m (WM.taken 4 (WM.body m)) _ HF7.out.ints HI7.out HF7.out.le hl6 HF7.out.cap hc6).mono ?_; rintro x w7 ⟨rfl, hb7⟩; have HX8 := Lib.hid (below_on HX7.out hb7); replace HS := msg_cells (blk_below HK7.out hb7); clear hb7))
  all_goals
    go_wp2_with fail
    go_ret
    exact ⟨rfl, HX8.out⟩
theorem WValid_reply (A : Option Addr) (c : Nat) (m : Msg) (w : World) (h : Fit w A c m) (hk : m.kind = 2) :
    Calls Try.prog 21 #[.agg (cellsM m (.slice A m.stamp.length c))] w fun e w' => e = .returned (.bool (WM.valid m)) ∧ Below w.heap.size w w' := by
  cases hgo : WM.mayGo m with
  | false => exact WValid_reply_a A c m w h hk hgo
  | true =>
    cases hp : WM.mayReply m with
    | false => exact WValid_reply_b A c m w h hk hgo hp
    | true => exact WValid_reply_c A c m w h hk hgo hp
end Go.Proofs.Ytbjemihcbbiiaaa
