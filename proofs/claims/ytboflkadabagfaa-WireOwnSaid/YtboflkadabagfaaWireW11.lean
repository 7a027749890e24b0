/- May it be a message, and its bytes: the package's calls of layer 6. -/
import Derived.Test.YtboflkadabagfaaWireV1
import Derived.Test.YtboflkadabagfaaWireV2
import Derived.Test.YtboflkadabagfaaWireV3
import Derived.Test.YtboflkadabagfaaWireV4
import Derived.Test.YtboflkadabagfaaWireV5
namespace Go.Proofs.Ytboflkadabagfaa
open Go.RowKit
open Oct (BytesAt u8s)
open WM (Msg)
set_option linter.unusedVariables false
set_option maxRecDepth 100000
attribute [local go_sem] run_store_func run_store_nilFunc
theorem valid_kind {m : Msg} (h : ¬ (1 ≤ m.kind ∧ m.kind ≤ 5)) : WM.valid m = false := valid_may (by
  cases hm : WM.may m with
  | false => rfl
  | true => exact absurd (by have := WM.may_kind hm; omega) h)
set_option maxHeartbeats 4000000 in
theorem WValid_no (A : Option Addr) (c : Nat) (m : Msg) (w : World) (h : Fit w A c m) (hk : ¬ (1 ≤ m.kind ∧ m.kind ≤ 5)) :
    Calls Try.prog 11 #[.agg (cellsM m (.slice A m.stamp.length c))] w fun e w' => e = .returned (.bool false) ∧ Below w.heap.size w w' := by
  have HK := Lib.hid (Whole.new w 28 (cellsM m (.slice A m.stamp.length c)))
  have HX := Lib.hid ((Below.refl _ w).alloc (Nat.le_refl _) (.cells (cellsM m (.slice A m.stamp.length c)) 28))
  have c0 : (w.alloc (.cells (cellsM m (.slice A m.stamp.length c)) 28)).cell? ⟨w.heap.size, 0, none⟩ = some (.int .i64 m.kind) := HK.out.cell 0
  have HN := Lib.hid hk
  clear h hk
  go_enter Try.func11, Try.ntmps11
  go_wp2_with fail
  clear c0
  generalize w.alloc (.cells (cellsM m (.slice A m.stamp.length c)) 28) = w0 at HK HX ⊢
  refine (layout_no m.kind w0 HN.out).mono ?_
  rintro e w1 ⟨rfl, hb1⟩
  have HB1 := Lib.hid (show Below w0.heap.size w0 (w1.alloc (.cells #[.nilFunc, .nilFunc, .nilFunc] 53)) from hb1.trans ((Below.refl _ w1).alloc hb1.size _))
  have HX1 := Lib.hid (below_on HX.out HB1.out)
  clear hb1 HB1
  go_wp2_with fail
  go_ret
  exact ⟨rfl, HX1.out⟩
theorem WValid_any (A : Option Addr) (c : Nat) (m : Msg) (w : World) (h : Fit w A c m) :
    Calls Try.prog 11 #[.agg (cellsM m (.slice A m.stamp.length c))] w fun e w' => e = .returned (.bool (WM.valid m)) ∧ Below w.heap.size w w' := by
  by_cases h1 : m.kind = 1
  · exact WValid_ask A c m w h h1
  by_cases h2 : m.kind = 2
  · exact WValid_reply A c m w h h2
  by_cases h3 : m.kind = 3
  · exact WValid_recall A c m w h h3
  by_cases h4 : m.kind = 4
  · exact WValid_done A c m w h h4
  by_cases h5 : m.kind = 5
  · exact WValid_op A c m w h h5
  rw [valid_kind (by omega)]
  exact WValid_no A c m w h (by omega)
/-- A message's bytes. -/
def enc (m : Msg) : List UInt8 := WM.body m ++ Oct.four (OM.sum (WM.body m))
theorem four_len (x : Nat) : (Oct.four x).length = 4 := rfl
theorem enc_len {m : Msg} (h : WM.valid m = true) : (enc m).length ≤ 154 := by
  have hm : WM.may m = true := by
    cases hm : WM.may m with
    | true => rfl
    | false => rw [valid_may hm] at h; cases h
  have := WM.body_len hm
  unfold enc
  rw [List.length_append, four_len]
  omega
theorem valid_is {m : Msg} (h : WM.valid m = true) : WM.may m = true := by
  cases hm : WM.may m with
  | true => rfl
  | false => rw [valid_may hm] at h; cases h
theorem app_bytes {w w1 : World} {ops : Array Oper} {rest : List Oper} {o : Oper} {a : Act} {Q : Exit → Act → World → Prop} (hgd : o.guard = none) (s x : Operand)
    (ho : o.op = .call { callee := .builtin .append, args := #[s, x], argTypes := #[30, 30] })
    (v : Value) (pre post : List UInt8) (hG : Oct.Grew w pre v w1) (hs : a.eval s = v) (ad : Addr) (n c : Nat) (hn : n = post.length) (hx : a.eval x = .slice (some ad) n c) (hP : BytesAt w1 (some ad) post) (hl : pre.length + post.length ≤ 140737488355328)
    (h : ∀ v' w2, Oct.Grew w (pre ++ post) v' w2 → wpList Try.prog ops Q rest (a.put o.dst v') w2) : wpList Try.prog ops Q (o :: rest) a w1 := by
  obtain ⟨i0, hi, hz0, hz1, hz2⟩ := info_parts Oct.info_u8
  subst hn
  refine wpList_append_own_at _ hgd s x 30 ho w.heap.size 5 i0 (.int .u8 0) 1 1 Try.underlying30 hi hz0 hz1 hz2 rfl (by decide) v pre.length (u8s pre) hs hG.1 ad post.length c (u8s post) hx (by rw [Oct.u8s_len, Nat.mul_one])
    hP.cells Oct.one_u8 (by unfold maxLen; omega) (by omega) hG.2.size ?_
  intro v' w2 hown hgrow _ _
  exact h v' w2 ⟨by rw [List.length_append, Oct.u8s_append]; exact hown, hG.2.grown hgrow hG.2.size (fun k hk => (hG.1.lt k hk).1)⟩
set_option maxHeartbeats 4000000 in
theorem WEncode_yes (A : Option Addr) (c : Nat) (m : Msg) (w : World) (h : Fit w A c m) (hv : WM.valid m = true) :
    Calls Try.prog 8 #[.agg (cellsM m (.slice A m.stamp.length c))] w fun e w' => ∃ v, e = .returned (.tuple #[v, .int .i64 0]) ∧ Hid (Oct.Grew w (enc m) v w') := by
  have HF := Lib.hid (h.below ((Below.refl _ w).alloc (Nat.le_refl _) (.cells (cellsM m (.slice A m.stamp.length c)) 28)))
  have HK := Lib.hid (Whole.new w 28 (cellsM m (.slice A m.stamp.length c)))
  have HX := Lib.hid ((Below.refl _ w).alloc (Nat.le_refl _) (.cells (cellsM m (.slice A m.stamp.length c)) 28))
  have HM := Lib.hid (valid_is hv)
  have HV := Lib.hid hv
  obtain ⟨c0, c1, c2, c3, c4, c5, c6, c7, c8, c9, c10, c11, c12, c13, c14, c15⟩ := msg_cells HK.out
  clear h hv
  go_enter Try.func8, Try.ntmps8
  go_wp2_with fail
  clear c0 c1 c2 c3 c4 c5 c6 c7 c8 c9 c10 c11 c12 c13 c14 c15
  generalize w.alloc (.cells (cellsM m (.slice A m.stamp.length c)) 28) = w0 at HF HK HX ⊢
  refine (WValid_any A c m w0 HF.out).mono ?_
  rw [HV.out]
  rintro e w1 ⟨rfl, hb1⟩
  have HK1 := Lib.hid (blk_below HK.out hb1)
  have HF1 := Lib.hid (HF.out.below hb1)
  have HX1 := Lib.hid (below_on HX.out hb1)
  clear hb1 HK HF HX
  obtain ⟨c0, c1, c2, c3, c4, c5, c6, c7, c8, c9, c10, c11, c12, c13, c14, c15⟩ := msg_cells HK1.out
  go_wp2_with fail
  clear c0 c1 c2 c3 c4 c5 c6 c7 c8 c9 c10 c11 c12 c13 c14 c15
  refine (laid_may A c m w1 HF1.out HM.out).mono ?_
  rintro e w2 ⟨v, rfl, hown, hb2⟩
  have HO := Lib.hid (own_base8 hown HX1.out.size)
  have HX2 := Lib.hid (below_on HX1.out hb2)
  obtain ⟨A5, n5, hv5, hl5, hc5⟩ := Oct.own_shape hown
  subst hv5
  have HBA := Lib.hid (Oct.BytesAt.own hown)
  have HL := Lib.hid (WM.body_len HM.out)
  clear hown hb2
  have hl150 := HL.out
  go_wp2_with fail
  refine (Oct.Sum_any A5 n5 (WM.body m) w2 HBA.out (by omega)).mono ?_
  rintro e w3 ⟨rfl, rfl⟩
  have hs32 : OM.sum (WM.body m) < 4294967296 := OM.sum_lt _
  have HS32 := Lib.hid hs32
  clear hs32
  go_wp2_with fail
  refine (Oct.Four_any (OM.sum (WM.body m)) w2 HS32.out).mono ?_
  rintro e w3 ⟨v3, rfl, hown3, hb3⟩
  have HO3 := Lib.hid ((Mod.of_below hb3 []).own HO.out (by simp))
  have HX3 := Lib.hid (below_on HX2.out hb3)
  obtain ⟨A6, n6, hv6, hl6, hc6⟩ := Oct.own_shape hown3
  subst hv6
  have HP3 := Lib.hid (Oct.BytesAt.own hown3)
  clear hown3 hb3
  cases A6 with
  | none =>
    obtain ⟨b, o, e, _⟩ := HP3.out (by rw [four_len]; omega)
    cases e
  | some ad =>
    have HG := Lib.hid (show Oct.Grew w (WM.body m) (.slice A5 (WM.body m).length n5) w3 from ⟨HO3.out, HX3.out⟩)
    go_wp2_with (at_builtin; refine app_bytes rfl (.tmp 10) (.tmp 13) rfl _ _ (Oct.four (OM.sum (WM.body m))) HG.out rfl ad _ n6 rfl rfl HP3.out (by have := HL.out; rw [four_len]; omega) ?_; intro v2 w4 hg2; have HG2 := Lib.hid hg2; clear hg2)
    go_ret2
    exact ⟨v2, rfl, HG2⟩
set_option maxHeartbeats 4000000 in
theorem WEncode_no (A : Option Addr) (c : Nat) (m : Msg) (w : World) (h : Fit w A c m) (hv : WM.valid m = false) :
    Calls Try.prog 8 #[.agg (cellsM m (.slice A m.stamp.length c))] w fun e w' => e = .returned (.tuple #[.slice none 0 0, .int .i64 22]) ∧ Below w.heap.size w w' := by
  have HF := Lib.hid (h.below ((Below.refl _ w).alloc (Nat.le_refl _) (.cells (cellsM m (.slice A m.stamp.length c)) 28)))
  have HK := Lib.hid (Whole.new w 28 (cellsM m (.slice A m.stamp.length c)))
  have HX := Lib.hid ((Below.refl _ w).alloc (Nat.le_refl _) (.cells (cellsM m (.slice A m.stamp.length c)) 28))
  have HV := Lib.hid hv
  obtain ⟨c0, c1, c2, c3, c4, c5, c6, c7, c8, c9, c10, c11, c12, c13, c14, c15⟩ := msg_cells HK.out
  clear h hv
  go_enter Try.func8, Try.ntmps8
  go_wp2_with fail
  clear c0 c1 c2 c3 c4 c5 c6 c7 c8 c9 c10 c11 c12 c13 c14 c15
  generalize w.alloc (.cells (cellsM m (.slice A m.stamp.length c)) 28) = w0 at HF HK HX ⊢
  refine (WValid_any A c m w0 HF.out).mono ?_
  rw [HV.out]
  rintro e w1 ⟨rfl, hb1⟩
  have HX1 := Lib.hid (below_on HX.out hb1)
  clear hb1
  go_wp2_with fail
  go_ret2
  exact ⟨rfl, HX1.out⟩
end Go.Proofs.Ytboflkadabagfaa
