/- Decoding an encoded message gives the message back, field by field; for every message. -/
import Derived.Test.YtlgpkfjofgppeaaRows
import Derived.Test.YtlgpkfjofgppeaaWireW14
import Derived.Test.YtlgpkfjofgppeaaLaw
import Derived.JoinedCond
import Derived.OpenShut
namespace Go.Proofs.Ytlgpkfjofgppeaa.lawWireBack
open Go Go.RowKit Go.ChangeShapes Go.WideShapes Go.ChangeAt
set_option linter.unusedVariables false
set_option linter.unusedSimpArgs false
theorem Valid_of (A : Option Addr) (c : Nat) (m : WM.Msg) (w : World) (h : Fit w A c m) {b : Bool} (hv : WM.valid m = b) :
    Calls Try.prog 19 #[.agg (cellsM m (.slice A m.stamp.length c))] w fun e w' => e = .returned (.bool b) ∧ Below w.heap.size w w' := by
  have h1 := WValid_any A c m w h
  rw [hv] at h1
  exact h1
set_option maxRecDepth 100000 in
set_option maxHeartbeats 4000000 in
theorem walk_no (A : Option Addr) (c : Nat) (m : WM.Msg) (w : World) (hC : Came w A c m) (hv : WM.valid m = false) :
    Calls Try.prog 7 #[.agg (cellsM m (.slice A m.stamp.length c))] w (LK.True_ w) := by
  have HX := Lib.hid ((Below.refl _ w).alloc (Nat.le_refl _) (.cells (cellsM m (.slice A m.stamp.length c)) 29))
  have HK := Lib.hid (Whole.new w 29 (cellsM m (.slice A m.stamp.length c)))
  have HC := Lib.hid (hC.below HX.out)
  have HV := Lib.hid hv
  clear hC hv
  go_enter Try.func7, Try.ntmps7
  go_upto_region 1 with (fail)
  generalize w.alloc (.cells (cellsM m (.slice A m.stamp.length c)) 29) = w0 at HC HK HX ⊢
  go_wp2_with fail
  refine (awake_any _).mono ?_
  rintro e w1 ⟨rfl, hb⟩
  have HX1 := Lib.hid (below_on HX.out hb)
  have HC1 := Lib.hid (HC.out.below hb)
  have HK1 := Lib.hid (blk_below HK.out hb)
  have HLD1 := Lib.hid (msg_range HK1.out)
  clear hb HX HC HK
  go_wp2_with (refine wpList_load_mid rfl 29 (.tmp 1) rfl w.heap.size 0 rfl (cellsM m (.slice A m.stamp.length c)).toList _ HLD1.out Try.underlying29 rfl (by kernel_rfl) ?_)
  clear HLD1
  refine (own_of A c m w1 HC1.out).mono ?_
  rintro e w2 ⟨A2, c2, rfl, hf, hb⟩
  have HF2 := Lib.hid hf.out
  have HX2 := Lib.hid (below_on HX1.out hb)
  have HC2 := Lib.hid (HC1.out.below hb)
  have HK2 := Lib.hid (blk_below HK1.out hb)
  clear hf hb HX1 HC1 HK1
  go_wp2_with fail
  refine (WEncode_no A2 c2 m w2 HF2.out HV.out).mono ?_
  rintro e w3 ⟨rfl, hb⟩
  have HX3 := Lib.hid (below_on HX2.out hb)
  have HC3 := Lib.hid (HC2.out.below hb)
  have HK3 := Lib.hid (blk_below HK2.out hb)
  clear hb HX2 HC2 HK2 HF2
  obtain ⟨k0, k1, k2, k3, k4, k5, k6, k7, k8, k9, k10, k11, k12, k13, k14, k15⟩ := msg_cells HK3.out
  go_wp2_with fail
  refine (own_of A c m w3 HC3.out).mono ?_
  rintro e w4 ⟨A4, c4, rfl, hf, hb⟩
  have HF4 := Lib.hid hf.out
  have HX4 := Lib.hid (below_on HX3.out hb)
  clear hf hb k0 k1 k2 k3 k4 k5 k6 k7 k8 k9 k10 k11 k12 k13 k14 k15
  go_wp2_with fail
  refine (Valid_of A4 c4 m w4 HF4.out HV.out).mono ?_
  rintro e w5 ⟨rfl, hb⟩
  have HX5 := Lib.hid (below_on HX4.out hb)
  clear hb
  go_wp2_with fail
  go_ret
  exact ⟨rfl, HX5.out⟩
set_option maxRecDepth 100000 in
set_option maxHeartbeats 8000000 in
theorem walk_yes (A : Option Addr) (c : Nat) (m : WM.Msg) (w : World) (hC : Came w A c m) (hv : WM.valid m = true) :
    Calls Try.prog 7 #[.agg (cellsM m (.slice A m.stamp.length c))] w (LK.True_ w) := by
  have HEL := Lib.hid (enc_len hv)
  have HEG := Lib.hid (enc_long (m := m))
  have hd1 : decide ((4 : Int) < ((enc m).length : Int)) = true := by have := HEG.out; simp; omega
  have hd2 : decide (((enc m).length : Int) ≤ 200) = true := by have := HEL.out; simp; omega
  have hd1b : decide (4 < (enc m).length) = true := by have := HEG.out; simp; omega
  have hd2b : decide ((enc m).length ≤ 200) = true := by have := HEL.out; simp; omega
  have HX := Lib.hid ((Below.refl _ w).alloc (Nat.le_refl _) (.cells (cellsM m (.slice A m.stamp.length c)) 29))
  have HK := Lib.hid (Whole.new w 29 (cellsM m (.slice A m.stamp.length c)))
  have HC := Lib.hid (hC.below HX.out)
  have HV := Lib.hid hv
  clear hC hv
  go_enter Try.func7, Try.ntmps7
  go_upto_region 1 with (fail)
  generalize w.alloc (.cells (cellsM m (.slice A m.stamp.length c)) 29) = w0 at HC HK HX ⊢
  go_wp2_with fail
  refine (awake_any _).mono ?_
  rintro e w1 ⟨rfl, hb⟩
  have HX1 := Lib.hid (below_on HX.out hb)
  have HC1 := Lib.hid (HC.out.below hb)
  have HK1 := Lib.hid (blk_below HK.out hb)
  have HLD1 := Lib.hid (msg_range HK1.out)
  clear hb HX HC HK
  go_wp2_with (refine wpList_load_mid rfl 29 (.tmp 1) rfl w.heap.size 0 rfl (cellsM m (.slice A m.stamp.length c)).toList _ HLD1.out Try.underlying29 rfl (by kernel_rfl) ?_)
  clear HLD1
  refine (own_of A c m w1 HC1.out).mono ?_
  rintro e w2 ⟨A2, c2, rfl, hf, hb⟩
  have HF2 := Lib.hid hf.out
  have HX2 := Lib.hid (below_on HX1.out hb)
  have HC2 := Lib.hid (HC1.out.below hb)
  have HK2 := Lib.hid (blk_below HK1.out hb)
  clear hf hb HX1 HC1 HK1
  go_wp2_with fail
  refine (WEncode_yes A2 c2 m w2 HF2.out HV.out).mono ?_
  rintro e w3 ⟨v3, rfl, hg⟩
  obtain ⟨A3, c3, hv3, hl3, hc3⟩ := Oct.own_shape hg.out.1
  subst hv3
  have HY3 := Lib.hid (Oct.BytesAt.own hg.out.1)
  have HX3 := Lib.hid (below_on HX2.out hg.out.2)
  have HC3 := Lib.hid (HC2.out.below hg.out.2)
  have HK3 := Lib.hid (blk_below HK2.out hg.out.2)
  clear hg HX2 HC2 HK2 HF2
  go_wp2_with fail
  refine (Decode_enc A3 c3 m w3 HV.out HY3.out).mono ?_
  rintro e w4 ⟨A4, c4, rfl, ho, hb⟩
  have HF4 := Lib.hid (own_fit HC3.out.wide ho.out)
  have HX4 := Lib.hid (below_on HX3.out hb)
  have HC4 := Lib.hid (HC3.out.below hb)
  have HK4 := Lib.hid (blk_below HK3.out hb)
  clear ho hb HX3 HC3 HK3 HY3
  have HNW := Lib.hid (show MsgBlk (w4.alloc (.cells (cellsM WM.zero (.slice none 0 0)) 29)) w4.heap.size WM.zero (.slice none 0 0) from Whole.new w4 _ _)
  have HN5 := Lib.hid ((row16 HNW.out m (.slice A4 m.stamp.length c4)).1)
  have HB5 := Lib.hid (((Below.refl _ w4).alloc (Nat.le_refl _) (.cells (cellsM WM.zero (.slice none 0 0)) 29)).trans ((row16 HNW.out m (.slice A4 m.stamp.length c4)).2.below (by simp) (by simp)))
  have HF5 := Lib.hid (HF4.out.below HB5.out)
  have HX5 := Lib.hid (below_on HX4.out HB5.out)
  have HC5 := Lib.hid (HC4.out.below HB5.out)
  have HK5 := Lib.hid (blk_below HK4.out HB5.out)
  clear HB5 HF4 HX4 HC4 HK4
  rw [show cellsM WM.zero (.slice none 0 0) = #[.int .i64 0, .int .i64 0, .int .i64 0, .int .i64 0, .int .i64 0, .int .i64 0, .int .i64 0, .string ⟨#[]⟩, .int .i64 0, .int .i64 0, .int .i64 0, .bool false, .int .i64 0, .slice none 0 0, .int .i64 0, .int .i64 0] from rfl] at HNW HN5 HF5 HX5 HC5 HK5
  go_wp2_with (refine wpList_store_row rfl 29 (.tmp 5) (.tmp 33) rfl w4.heap.size (cellsM m (.slice A4 m.stamp.length c4)) rfl rfl 29 _ HNW.out (by kernel_rfl) rfl (by simp [cellsM, Value.oneCell']) ?_; generalize (World.setRow _ _ _) = w5 at HN5 HF5 HX5 HC5 HK5 ⊢; obtain ⟨k0, k1, k2, k3, k4, k5, k6, k7, k8, k9, k10, k11, k12, k13, k14, k15⟩ := msg_cells HK5.out)
  refine (own_of A c m w5 HC5.out).mono ?_
  rintro e w6 ⟨A6, c6, rfl, hf, hb⟩
  have HF6 := Lib.hid hf.out
  have HX6 := Lib.hid (below_on HX5.out hb)
  have HC6 := Lib.hid (HC5.out.below hb)
  have HK6 := Lib.hid (blk_below HK5.out hb)
  have HN6 := Lib.hid (blk_below HN5.out hb)
  have HG6 := Lib.hid (HF5.out.below hb)
  clear hf hb k0 k1 k2 k3 k4 k5 k6 k7 k8 k9 k10 k11 k12 k13 k14 k15 HX5 HC5 HK5 HN5 HF5 HNW
  go_wp2_with fail
  refine (Valid_of A6 c6 m w6 HF6.out HV.out).mono ?_
  rintro e w7 ⟨rfl, hb⟩
  have HX7 := Lib.hid (below_on HX6.out hb)
  have HC7 := Lib.hid (HC6.out.below hb)
  have HG7 := Lib.hid (HG6.out.below hb)
  obtain ⟨k0, k1, k2, k3, k4, k5, k6, k7, k8, k9, k10, k11, k12, k13, k14, k15⟩ := msg_cells (blk_below HK6.out hb)
  obtain ⟨n0, n1, n2, n3, n4, n5, n6, n7, n8, n9, n10, n11, n12, n13, n14, n15⟩ := msg_cells (blk_below HN6.out hb)
  clear hb HX6 HC6 HK6 HN6 HG6 HF6
  go_wp2_with fail
  clear k0 k1 k2 k3 k4 k5 k6 k7 k8 k9 k10 k11 k12 k13 k14 k15 n0 n1 n2 n3 n4 n5 n6 n7 n8 n9 n10 n11 n12 n13 n14 n15
  refine (SameInts_any A4 A c4 c m.stamp m.stamp w7 HG7.out.ints HC7.out.ints HG7.out.le HC7.out.le HG7.out.cap (by have := HC7.out.cap; omega)).mono ?_
  rintro e w8 ⟨rfl, hb⟩
  have HX8 := Lib.hid (below_on HX7.out hb)
  clear hb
  rw [decide_eq_true rfl]
  go_wp2_with fail
  go_ret
  exact ⟨rfl, HX8.out⟩
theorem walk (A : Option Addr) (c : Nat) (m : WM.Msg) (w : World) (hC : Came w A c m) :
    Calls Try.prog 7 #[.agg (cellsM m (.slice A m.stamp.length c))] w (LK.True_ w) := by
  cases hv : WM.valid m with
  | false => exact walk_no A c m w hC hv
  | true => exact walk_yes A c m w hC hv

theorem own : ownKnob Try.prog.godebug = none := by kernel_rfl
theorem laidOut : laidOutB Try.prog = true := by kernel_rfl
set_option maxRecDepth 100000 in
theorem lifted (os : Os) (started : os.Started) (H : Type) (enc : TypeId × Value → H) :
    ReturnsInHanded {} Try.checked os 7 .any (Rows.wireBackSpec.pre6 enc Try.prog Try.f7 [] false) (Rows.wireBackSpec.post enc Try.prog Try.f7 false true false false) := by
  refine LK.lifted_bare (C := Try.checked) (tb := 4) own started (by kernel_rfl) Try.func7 laidOut rfl (by kernel_rfl) (by kernel_rfl) Try.underlying4
    (fun ds h => by
      match ds, h with
      | [_], _ => rfl)
    (ChangeSpec.witness6 (enc := enc) (C := Try.checked) false ⟨#[], #[.agg #[.int .i64 0, .int .i64 0, .int .i64 0, .int .i64 0, .int .i64 0, .int .i64 0, .int .i64 0, .string ⟨#[]⟩, .int .i64 0, .int .i64 0, .int .i64 0, .bool false, .int .i64 0, .slice none 0 0, .int .i64 0, .int .i64 0]], []⟩ 8 (by kernel_rfl) (by kernel_rfl) (by kernel_rfl) (by kernel_rfl)) ?_
  intro W base args ds ps hval hA hwt _
  rw [show Try.f7.params.toList = [29] by kernel_rfl] at hA hwt
  have hval' : ∀ (j : Nat) t v, (#[29] : Array TypeId)[j]? = some t → args[j]? = some v → Value.okWide Try.prog W .any base t v := by
    rw [← Try.params7]; exact hval
  clear hval
  obtain ⟨v0, d0, rfl, rfl, h0⟩ := trodAll_one hA
  obtain ⟨A0, c0, m0, rfl, hC0⟩ := open_msg (hval' 0 29 v0 rfl rfl) h0 hwt (j := 0) rfl rfl
  exact walk A0 c0 m0 W hC0

/-- The statement. -/
theorem proved : Rows.WireBackSaid :=
  OpenClaim.holds_of_wide 7 Try.f7 rfl rfl rfl rfl rfl rfl rfl ⟨rfl, rfl, rfl, rfl, rfl⟩ rfl rfl rfl rfl rfl (by kernel_rfl) Try.func7 (by kernel_rfl)
    (of_decide_eq_true (by kernel_rfl)) (by unfold Func.isWrapper; first | (rw [if_pos (by decide +kernel)]; kernel_rfl) | (rw [if_neg (by decide +kernel)]; exact ⟨rfl, rfl⟩))
    (fun os started H enc _ => lifted os started H enc)

end Go.Proofs.Ytlgpkfjofgppeaa.lawWireBack
