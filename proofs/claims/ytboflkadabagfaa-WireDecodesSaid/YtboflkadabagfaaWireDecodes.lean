/- Decode answers what the document says; for all bytes. -/
import Derived.Test.YtboflkadabagfaaRows
import Derived.Test.YtboflkadabagfaaWireRG
import Derived.Test.YtboflkadabagfaaLaw
import Derived.JoinedCond
import Derived.OpenShut
namespace Go.Proofs.Ytboflkadabagfaa.lawWireDecodes
open Go Go.RowKit Go.ChangeShapes Go.WideShapes Go.ChangeAt
set_option linter.unusedVariables false
set_option linter.unusedSimpArgs false
set_option maxRecDepth 100000 in
set_option maxHeartbeats 8000000 in
theorem walk (A : Option Addr) (c : Nat) (l : List UInt8) (w : World) (hB : Oct.BytesAt w A l) (hc : l.length ≤ c) (hm : c ≤ 140737488351232) :
    Calls Try.prog 4 #[.slice A l.length c] w (LK.True_ w) := by
  have HY := Lib.hid hB; clear hB
  go_enter Try.func4, Try.ntmps4
  go_wp2_with fail
  refine (awake_any _).mono ?_
  rintro e w1 ⟨rfl, hb⟩
  have HB1 := Lib.hid hb
  have HY1 := Lib.hid (HY.out.below hb)
  clear hb HY
  go_wp2_with (at_builtin; refine By.app_all rfl (.tmp 10) (.tmp 11) rfl A c _ l rfl HY1.out _ rfl rfl rfl (by omega) ?_; intro A2 n2 c2 w2 hm2; obtain ⟨HN2, HX2, -, HF2, -, -⟩ := hm2)
  have e2 := HN2.out
  subst e2
  have HB2 := Lib.hid (below_on HB1.out HF2.out)
  have HY2 := Lib.hid (HY1.out.below HF2.out)
  clear HB1 HY1 HF2
  refine (wDec_any A2 c2 l w2 HX2.out (by omega)).mono ?_
  rintro e w3 ⟨A3, c3, rfl, ho, hb⟩
  have HWI := Lib.hid (decM_wide l)
  have HRD := Lib.hid (fun w h => rDec_any A c l w h hc (by omega))
  unfold DecP at HRD
  generalize decM l = M at ho HWI HRD ⊢
  generalize decC l = E at HRD ⊢
  have HF3 := Lib.hid (own_fit HWI.out ho.out)
  have HB3 := Lib.hid (below_on HB2.out hb)
  have HY3 := Lib.hid (HY2.out.below hb)
  clear ho hb HB2 HY2 HX2 HN2
  have HNW := Lib.hid (show MsgBlk (w3.alloc (.cells (cellsM WM.zero (.slice none 0 0)) 28)) w3.heap.size WM.zero (.slice none 0 0) from Whole.new w3 _ _)
  have HKD1 := Lib.hid ((row16 HNW.out M (.slice A3 M.stamp.length c3)).1)
  have HLD1 := Lib.hid (msg_range HKD1.out)
  have HBW := Lib.hid (((Below.refl _ w3).alloc (Nat.le_refl _) (.cells (cellsM WM.zero (.slice none 0 0)) 28)).trans ((row16 HNW.out M (.slice A3 M.stamp.length c3)).2.below (by simp) (by simp)))
  have HF3' := Lib.hid (HF3.out.below HBW.out)
  have HB3' := Lib.hid (below_on HB3.out HBW.out)
  have HY3' := Lib.hid (HY3.out.below HBW.out)
  clear HBW HF3 HB3 HY3
  unfold cellsM WM.zero at HNW
  rw [show cellsM WM.zero (.slice none 0 0) = #[.int .i64 0, .int .i64 0, .int .i64 0, .int .i64 0, .int .i64 0, .int .i64 0, .int .i64 0, .string ⟨#[]⟩, .int .i64 0, .int .i64 0, .int .i64 0, .bool false, .int .i64 0, .slice none 0 0, .int .i64 0, .int .i64 0] from rfl] at HKD1 HLD1 HF3' HB3' HY3'
  go_upto_region 4 with (refine wpList_store_row rfl 28 (.tmp 3) (.tmp 14) rfl w3.heap.size (cellsM M (.slice A3 M.stamp.length c3)) rfl rfl 28 _ HNW.out (by kernel_rfl) rfl (by simp [cellsM, Value.oneCell', WM.zero]) ?_)
  generalize (World.setRow _ _ _) = w4 at HKD1 HLD1 HF3' HB3' HY3' ⊢
  clear HNW
  go_wp2_with fail
  refine (HRD.out w4 HY3'.out).mono ?_
  rintro e w5 ⟨A5, c5, rfl, ho, hb⟩
  have HF5 := Lib.hid (own_fit HWI.out ho.out)
  have HF4 := Lib.hid (HF3'.out.below hb)
  have HB4 := Lib.hid (below_on HB3'.out hb)
  have HKD3 := Lib.hid (blk_below HKD1.out hb)
  clear ho hb HF3' HB3' HY3' HKD1 HLD1
  have HNW := Lib.hid (show MsgBlk (w5.alloc (.cells (cellsM WM.zero (.slice none 0 0)) 28)) w5.heap.size WM.zero (.slice none 0 0) from Whole.new w5 _ _)
  have HKD2 := Lib.hid ((row16 HNW.out M (.slice A5 M.stamp.length c5)).1)
  have HLD2 := Lib.hid (msg_range HKD2.out)
  have HBW := Lib.hid (((Below.refl _ w5).alloc (Nat.le_refl _) (.cells (cellsM WM.zero (.slice none 0 0)) 28)).trans ((row16 HNW.out M (.slice A5 M.stamp.length c5)).2.below (by simp) (by simp)))
  have HF5' := Lib.hid (HF5.out.below HBW.out)
  have HF4' := Lib.hid (HF4.out.below HBW.out)
  have HB4' := Lib.hid (below_on HB4.out HBW.out)
  have HKD3' := Lib.hid (blk_below HKD3.out HBW.out)
  clear HBW HF5 HF4 HB4 HKD3
  unfold cellsM WM.zero at HNW
  rw [show cellsM WM.zero (.slice none 0 0) = #[.int .i64 0, .int .i64 0, .int .i64 0, .int .i64 0, .int .i64 0, .int .i64 0, .int .i64 0, .string ⟨#[]⟩, .int .i64 0, .int .i64 0, .int .i64 0, .bool false, .int .i64 0, .slice none 0 0, .int .i64 0, .int .i64 0] from rfl] at HKD2 HLD2 HF5' HF4' HB4' HKD3'
  go_upto_region 5 with (refine wpList_store_row rfl 28 (.tmp 5) (.tmp 19) rfl w5.heap.size (cellsM M (.slice A5 M.stamp.length c5)) rfl rfl 28 _ HNW.out (by kernel_rfl) rfl (by simp [cellsM, Value.oneCell', WM.zero]) ?_)
  generalize (World.setRow _ _ _) = w6 at HKD2 HLD2 HF5' HF4' HB4' HKD3' ⊢
  clear HNW
  have HLD3 := Lib.hid (msg_range HKD3'.out)
  go_wp2_with (first | (refine wpList_load_mid rfl 28 (.tmp 3) rfl w3.heap.size 0 rfl (cellsM M (.slice A3 M.stamp.length c3)).toList _ HLD3.out Try.underlying28 rfl (by kernel_rfl) ?_) | (refine wpList_load_mid rfl 28 (.tmp 5) rfl w5.heap.size 0 rfl (cellsM M (.slice A5 M.stamp.length c5)).toList _ HLD2.out Try.underlying28 rfl (by kernel_rfl) ?_))
  refine (r6_Same A3 A5 c3 c5 M M w6 HF4'.out.ints HF5'.out.ints HF4'.out.le HF5'.out.le HF4'.out.cap HF5'.out.cap).mono ?_
  rw [decide_eq_true (show M = M from rfl)]
  rintro e w7 ⟨rfl, hb⟩
  have HX7 := Lib.hid (below_on HB4'.out hb)
  clear hb
  go_wp2_with fail
  go_ret
  exact ⟨rfl, HX7.out⟩

theorem own : ownKnob Try.prog.godebug = none := by kernel_rfl
theorem laidOut : laidOutB Try.prog = true := by kernel_rfl
set_option maxRecDepth 100000 in
theorem lifted (os : Os) (started : os.Started) (H : Type) (enc : TypeId × Value → H) :
    ReturnsInHanded {} Try.checked os 4 .any (Rows.wireDecodesSpec.pre6 enc Try.prog Try.f4 [] false) (Rows.wireDecodesSpec.post enc Try.prog Try.f4 false true false false) := by
  refine LK.lifted_bare (C := Try.checked) (tb := 4) own started (by kernel_rfl) Try.func4 laidOut rfl (by kernel_rfl) (by kernel_rfl) Try.underlying4
    (fun ds h => by
      match ds, h with
      | [_], _ => rfl)
    (ChangeSpec.witness6 (enc := enc) (C := Try.checked) false ⟨#[], #[.slice none 0 0], []⟩ 8 (by kernel_rfl) (by kernel_rfl) (by kernel_rfl) (by kernel_rfl)) ?_
  intro W base args ds ps hval hA hwt _
  rw [show Try.f4.params.toList = [30] by kernel_rfl] at hA hwt
  have hval' : ∀ (j : Nat) t v, (#[30] : Array TypeId)[j]? = some t → args[j]? = some v → Value.okWide Try.prog W .any base t v := by
    rw [← Try.params4]; exact hval
  clear hval
  obtain ⟨v0, d0, rfl, rfl, h0⟩ := trodAll_one hA
  obtain ⟨A0, c0, l0, rfl, hB0, hc0, hm0⟩ := By.open_bytes (hval' 0 30 v0 rfl rfl) h0 hwt (j := 0) rfl rfl
  exact walk A0 c0 l0 W hB0 hc0 hm0

/-- The statement. -/
theorem proved : Rows.WireDecodesSaid :=
  OpenClaim.holds_of_wide 4 Try.f4 rfl rfl rfl rfl rfl rfl rfl ⟨rfl, rfl, rfl, rfl, rfl⟩ rfl rfl rfl rfl rfl (by kernel_rfl) Try.func4 (by kernel_rfl)
    (of_decide_eq_true (by kernel_rfl)) (by unfold Func.isWrapper; first | (rw [if_pos (by decide +kernel)]; kernel_rfl) | (rw [if_neg (by decide +kernel)]; exact ⟨rfl, rfl⟩))
    (fun os started H enc _ => lifted os started H enc)

end Go.Proofs.Ytboflkadabagfaa.lawWireDecodes
