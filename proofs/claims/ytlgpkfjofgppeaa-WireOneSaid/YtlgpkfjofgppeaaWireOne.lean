/- Any bytes that are decoded are the only bytes of their message; for all bytes. -/
import Derived.Test.YtlgpkfjofgppeaaRows
import Derived.Test.YtlgpkfjofgppeaaWireW14
import Derived.Test.YtlgpkfjofgppeaaLaw
import Derived.JoinedCond
import Derived.OpenShut
namespace Go.Proofs.Ytlgpkfjofgppeaa.lawWireOne
open Go Go.RowKit Go.ChangeShapes Go.WideShapes Go.ChangeAt
set_option linter.unusedVariables false
set_option linter.unusedSimpArgs false
theorem dec_valid {l : List UInt8} (h : dec l = true) : WM.valid (WM.taken 4 l) = true := by
  unfold dec at h
  simp only [Bool.and_eq_true, decide_eq_true_eq] at h
  exact h.2.1
theorem dec_same {l : List UInt8} (h : dec l = true) : enc (WM.taken 4 l) = l := by
  unfold dec at h
  simp only [Bool.and_eq_true, decide_eq_true_eq] at h
  exact h.2.2
set_option maxRecDepth 100000 in
set_option maxHeartbeats 4000000 in
theorem walk (A : Option Addr) (c : Nat) (l : List UInt8) (w : World) (hB : Oct.BytesAt w A l) (hc : l.length ≤ c) (hm : c ≤ 140737488351232) :
    Calls Try.prog 8 #[.slice A l.length c] w (LK.True_ w) := by
  have HY := Lib.hid hB; clear hB
  go_enter Try.func8, Try.ntmps8
  go_wp2_with fail
  refine (awake_any _).mono ?_
  rintro e w1 ⟨rfl, hb⟩
  have HB1 := Lib.hid hb
  have HY1 := Lib.hid (HY.out.below hb)
  clear hb
  go_wp2_with (at_builtin; refine By.app_all rfl (.tmp 10) (.tmp 11) rfl A c _ l rfl HY1.out _ rfl rfl rfl (by omega) ?_; intro A2 n2 c2 w2 hm2; obtain ⟨HN2, HX2, -, HF2, -, -⟩ := hm2)
  have e2 := HN2.out
  subst e2
  have HB2 := Lib.hid (below_on HB1.out HF2.out)
  have HY2 := Lib.hid (HY1.out.below HF2.out)
  clear HB1 HY1 HF2
  cases hd : dec l with
  | false =>
    refine (Decode_no A2 c2 l w2 HX2.out (by omega) hd).mono ?_
    rintro e w3 ⟨rfl, hb⟩
    have HB3 := Lib.hid (below_on HB2.out hb)
    clear hb hd
    unfold zeroM
    have HNW := Lib.hid (show MsgBlk (w3.alloc (.cells (cellsM WM.zero (.slice none 0 0)) 29)) w3.heap.size WM.zero (.slice none 0 0) from Whole.new w3 _ _)
    have HKD := Lib.hid ((row16 HNW.out WM.zero (.slice none 0 0)).1)
    have HLD := Lib.hid (msg_range HKD.out)
    have HB4 := Lib.hid (((Below.refl _ w3).alloc (Nat.le_refl _) (.cells (cellsM WM.zero (.slice none 0 0)) 29)).trans ((row16 HNW.out WM.zero (.slice none 0 0)).2.below (by simp) (by simp)))
    have HX4 := Lib.hid (below_on HB3.out HB4.out)
    skip
    clear HB3 HB4
    unfold cellsM WM.zero at HNW
    rw [show cellsM WM.zero (.slice none 0 0) = #[.int .i64 0, .int .i64 0, .int .i64 0, .int .i64 0, .int .i64 0, .int .i64 0, .int .i64 0, .string ⟨#[]⟩, .int .i64 0, .int .i64 0, .int .i64 0, .bool false, .int .i64 0, .slice none 0 0, .int .i64 0, .int .i64 0] from rfl] at HKD HX4 HLD
    go_upto_region 4 with (refine wpList_store_row rfl 29 (.tmp 3) (.tmp 14) rfl w3.heap.size #[.int .i64 0, .int .i64 0, .int .i64 0, .int .i64 0, .int .i64 0, .int .i64 0, .int .i64 0, .string ⟨#[]⟩, .int .i64 0, .int .i64 0, .int .i64 0, .bool false, .int .i64 0, .slice none 0 0, .int .i64 0, .int .i64 0] rfl rfl 29 _ HNW.out (by kernel_rfl) rfl (by simp [Value.oneCell']) ?_)
    generalize (World.setRow _ _ _) = w4 at HKD HX4 HLD ⊢
    clear HNW
    obtain ⟨c0, c1, c2', c3, c4, c5, c6, c7, c8, c9, c10, c11, c12, c13, c14, c15⟩ := msg_cells HKD.out
    go_wp2_with fail
    clear c0 c1 c2' c3 c4 c5 c6 c7 c8 c9 c10 c11 c12 c13 c14 c15
    refine (Same_self none none 0 0 WM.zero w4 (IntsAt.nil _ _) (IntsAt.nil _ _) (Nat.le_refl _) (Nat.le_refl _) (by omega) (by omega)).mono ?_
    rintro e w5 ⟨rfl, hb5⟩
    have HB5 := Lib.hid (below_on HX4.out hb5)
    clear hb5
    go_wp2_with fail
    go_ret
    exact ⟨rfl, HB5.out⟩
  | true =>
    refine (Decode_ok A2 c2 l w2 HX2.out hd).mono ?_
    have HD := Lib.hid hd
    clear hd
    have HV := Lib.hid (dec_valid HD.out)
    have HE := Lib.hid (dec_same HD.out)
    generalize hm : WM.taken 4 l = m at HV HE ⊢
    have HWD := Lib.hid (show Wide m by rw [← hm]; exact wide_taken 4 l)
    clear hm
    rintro e w3 ⟨A3, c3, rfl, ho, hb⟩
    have HF3 := Lib.hid (own_fit HWD.out ho.out)
    have HB3 := Lib.hid (below_on HB2.out hb)
    have HY3 := Lib.hid (HY2.out.below hb)
    clear hb ho
    have HNW := Lib.hid (show MsgBlk (w3.alloc (.cells (cellsM WM.zero (.slice none 0 0)) 29)) w3.heap.size WM.zero (.slice none 0 0) from Whole.new w3 _ _)
    have HKD := Lib.hid ((row16 HNW.out m (.slice A3 m.stamp.length c3)).1)
    have HLD := Lib.hid (msg_range HKD.out)
    have HB4 := Lib.hid (((Below.refl _ w3).alloc (Nat.le_refl _) (.cells (cellsM WM.zero (.slice none 0 0)) 29)).trans ((row16 HNW.out m (.slice A3 m.stamp.length c3)).2.below (by simp) (by simp)))
    have HX4 := Lib.hid (below_on HB3.out HB4.out)
    have HF4 := Lib.hid (HF3.out.below HB4.out); have HY4 := Lib.hid (HY3.out.below HB4.out)
    clear HB3 HB4
    unfold cellsM WM.zero at HNW
    rw [show cellsM WM.zero (.slice none 0 0) = #[.int .i64 0, .int .i64 0, .int .i64 0, .int .i64 0, .int .i64 0, .int .i64 0, .int .i64 0, .string ⟨#[]⟩, .int .i64 0, .int .i64 0, .int .i64 0, .bool false, .int .i64 0, .slice none 0 0, .int .i64 0, .int .i64 0] from rfl] at HKD HX4 HLD HF4 HY4
    go_wp2_with (first
      | (refine wpList_store_row rfl 29 (.tmp 3) (.tmp 14) rfl w3.heap.size (cellsM m (.slice A3 m.stamp.length c3)) rfl rfl 29 _ HNW.out (by kernel_rfl) rfl (by simp [cellsM, Value.oneCell', WM.zero]) ?_)
      | (refine wpList_load_mid rfl 29 (.tmp 3) rfl w3.heap.size 0 rfl (cellsM m (.slice A3 m.stamp.length c3)).toList _ HLD.out Try.underlying29 rfl (by kernel_rfl) ?_))
    generalize (World.setRow _ _ _) = w4 at HKD HX4 HLD HF4 HY4 ⊢
    clear HNW
    refine (WEncode_yes A3 c3 m w4 HF4.out HV.out).mono ?_
    rintro e w5 ⟨v5, rfl, hg⟩
    obtain ⟨A5, c5, hv5, hl5, hc5⟩ := Oct.own_shape hg.out.1
    subst hv5
    have hcv1 := By.str_of (c := c5) (show By.BytesAt w5 A5 (enc m) from Oct.BytesAt.own hg.out.1)
    have hcv2 := By.str_of (c := c) (show By.BytesAt w5 A l from HY4.out.below hg.out.2)
    have HX5 := Lib.hid (below_on HX4.out hg.out.2)
    have he := HE.out
    rw [he] at hcv1
    have hle : (enc m).length = l.length := by rw [he]
    rw [hle]
    clear hg he hl5 hle
    go_wp2_with fail
    go_ret
    exact ⟨rfl, HX5.out⟩

theorem own : ownKnob Try.prog.godebug = none := by kernel_rfl
theorem laidOut : laidOutB Try.prog = true := by kernel_rfl
set_option maxRecDepth 100000 in
theorem lifted (os : Os) (started : os.Started) (H : Type) (enc : TypeId × Value → H) :
    ReturnsInHanded {} Try.checked os 8 .any (Rows.wireOneSpec.pre6 enc Try.prog Try.f8 [] false) (Rows.wireOneSpec.post enc Try.prog Try.f8 false true false false) := by
  refine LK.lifted_bare (C := Try.checked) (tb := 4) own started (by kernel_rfl) Try.func8 laidOut rfl (by kernel_rfl) (by kernel_rfl) Try.underlying4
    (fun ds h => by
      match ds, h with
      | [_], _ => rfl)
    (ChangeSpec.witness6 (enc := enc) (C := Try.checked) false ⟨#[], #[.slice none 0 0], []⟩ 8 (by kernel_rfl) (by kernel_rfl) (by kernel_rfl) (by kernel_rfl)) ?_
  intro W base args ds ps hval hA hwt _
  rw [show Try.f8.params.toList = [30] by kernel_rfl] at hA hwt
  have hval' : ∀ (j : Nat) t v, (#[30] : Array TypeId)[j]? = some t → args[j]? = some v → Value.okWide Try.prog W .any base t v := by
    rw [← Try.params8]; exact hval
  clear hval
  obtain ⟨v0, d0, rfl, rfl, h0⟩ := trodAll_one hA
  obtain ⟨A0, c0, l0, rfl, hB0, hc0, hm0⟩ := By.open_bytes (hval' 0 30 v0 rfl rfl) h0 hwt (j := 0) rfl rfl
  exact walk A0 c0 l0 W hB0 hc0 hm0

/-- The statement. -/
theorem proved : Rows.WireOneSaid :=
  OpenClaim.holds_of_wide 8 Try.f8 rfl rfl rfl rfl rfl rfl rfl ⟨rfl, rfl, rfl, rfl, rfl⟩ rfl rfl rfl rfl rfl (by kernel_rfl) Try.func8 (by kernel_rfl)
    (of_decide_eq_true (by kernel_rfl)) (by unfold Func.isWrapper; first | (rw [if_pos (by decide +kernel)]; kernel_rfl) | (rw [if_neg (by decide +kernel)]; exact ⟨rfl, rfl⟩))
    (fun os started H enc _ => lifted os started H enc)

end Go.Proofs.Ytlgpkfjofgppeaa.lawWireOne
