/- The statements' own helpers of layer 6: a message with a list of its own, the document's example, and the questions that open each statement. -/
import Derived.Test.YtboflkadabagfaaWireLM
import Derived.Test.YtboflkadabagfaaWireArg
namespace Go.Proofs.Ytboflkadabagfaa
open Go.RowKit
open Oct (BytesAt u8s)
open WM (Msg)
set_option linter.unusedVariables false
set_option linter.unusedSimpArgs false
set_option maxRecDepth 100000
attribute [local go_sem] run_store_func run_store_nilFunc
def small : Msg := ⟨1, 1, 0, 1, 2, 1, 1, ⟨#[97, 47, 98]⟩, 2, 300, 0, false, 0, [], 0, 0⟩
def six : Msg := { WM.zero with kind := 6, frm := 1 }
set_option maxHeartbeats 1000000 in
theorem small_any (w : World) : Calls Try.prog 18 #[] w fun e w' => e = .returned (.agg (cellsM small (.slice none 0 0))) ∧ Below w.heap.size w w' := by
  have HX := Lib.hid ((Below.refl _ w).alloc (Nat.le_refl _) (.cells (cellsM small (.slice none 0 0)) 28))
  go_enter Try.func18, Try.ntmps18
  go_wp2_with fail
  change bodyPost Try.prog _ _ Exit.ret _ _
  refine bodyPost_ret (v := .agg (cellsM small (.slice none 0 0))) (by simp [results, Try.results18, go_sem, small, cellsM]) rfl ?_
  exact ⟨rfl, HX.out⟩
set_option maxHeartbeats 2000000 in
theorem own_any (A : Option Addr) (c : Nat) (m : Msg) (w : World) (hI : IntsAt w A m.stamp) (hl : m.stamp.length * 8 ≤ 140737488355328) :
    Calls Try.prog 9 #[.agg (cellsM m (.slice A m.stamp.length c))] w fun e w' => ∃ A' c', e = .returned (.agg (cellsM m (.slice A' m.stamp.length c'))) ∧ Hid (w'.ownsRow w.heap.size 3 1 (.slice A' m.stamp.length c') m.stamp.length (i64s m.stamp)) ∧ Below w.heap.size w w' := by
  have HX := Lib.hid (((Below.refl _ w).alloc (Nat.le_refl _) (.cells (cellsM m (.slice A m.stamp.length c)) 28)).alloc (by simp) (.cells #[.int .i64 0, .int .i64 0, .int .i64 0, .int .i64 0, .int .i64 0, .int .i64 0, .int .i64 0, .string ⟨#[]⟩, .int .i64 0, .int .i64 0, .int .i64 0, .bool false, .int .i64 0, .slice none 0 0, .int .i64 0, .int .i64 0] 28))
  have HK := Lib.hid (show Whole ((w.alloc (.cells (cellsM m (.slice A m.stamp.length c)) 28)).alloc (.cells #[.int .i64 0, .int .i64 0, .int .i64 0, .int .i64 0, .int .i64 0, .int .i64 0, .int .i64 0, .string ⟨#[]⟩, .int .i64 0, .int .i64 0, .int .i64 0, .bool false, .int .i64 0, .slice none 0 0, .int .i64 0, .int .i64 0] 28)) w.heap.size 28 (cellsM m (.slice A m.stamp.length c)) from (Whole.new w 28 (cellsM m (.slice A m.stamp.length c))).alloc _)
  have HR := Lib.hid (show Whole ((w.alloc (.cells (cellsM m (.slice A m.stamp.length c)) 28)).alloc (.cells #[.int .i64 0, .int .i64 0, .int .i64 0, .int .i64 0, .int .i64 0, .int .i64 0, .int .i64 0, .string ⟨#[]⟩, .int .i64 0, .int .i64 0, .int .i64 0, .bool false, .int .i64 0, .slice none 0 0, .int .i64 0, .int .i64 0] 28)) (w.heap.size + 1) 28 #[.int .i64 0, .int .i64 0, .int .i64 0, .int .i64 0, .int .i64 0, .int .i64 0, .int .i64 0, .string ⟨#[]⟩, .int .i64 0, .int .i64 0, .int .i64 0, .bool false, .int .i64 0, .slice none 0 0, .int .i64 0, .int .i64 0] by
    have h := Whole.new (w.alloc (.cells (cellsM m (.slice A m.stamp.length c)) 28)) 28 #[.int .i64 0, .int .i64 0, .int .i64 0, .int .i64 0, .int .i64 0, .int .i64 0, .int .i64 0, .string ⟨#[]⟩, .int .i64 0, .int .i64 0, .int .i64 0, .bool false, .int .i64 0, .slice none 0 0, .int .i64 0, .int .i64 0]
    simpa using h)
  have HI := Lib.hid (hI.below HX.out)
  have HS := Lib.hid (show ((w.alloc (.cells (cellsM m (.slice A m.stamp.length c)) 28)).alloc (.cells #[.int .i64 0, .int .i64 0, .int .i64 0, .int .i64 0, .int .i64 0, .int .i64 0, .int .i64 0, .string ⟨#[]⟩, .int .i64 0, .int .i64 0, .int .i64 0, .bool false, .int .i64 0, .slice none 0 0, .int .i64 0, .int .i64 0] 28)).heap.size = w.heap.size + 2 by simp)
  have HL := Lib.hid hl
  clear hI hl
  go_enter Try.func9, Try.ntmps9
  go_upto_region 1 with (fail)
  generalize (w.alloc (.cells (cellsM m (.slice A m.stamp.length c)) 28)).alloc _ = w1 at HX HK HR HI HS ⊢
  have c13 : (w1.alloc (.cells #[] 3)).cell? ⟨w.heap.size, 13, none⟩ = some (.slice A m.stamp.length c) := (HK.out.alloc (.cells #[] 3)).cell 13
  have hl := HL.out
  go_wp2_with (first
    | (at_builtin; refine app_all rfl (.tmp 3) (.tmp 5) rfl A c m.stamp.length m.stamp rfl HI.out w1.heap.size rfl rfl rfl hl ?_; intro A' n' c' w2 hm
       clear c13
       have HM := Lib.hid hm; clear hm
       have e := HM.out.1.out
       subst e
       have HK2 := Lib.hid ((Mod.of_below HM.out.2.2.2.1.out []).whole HK.out (by simp))
       have HR2 := Lib.hid ((Mod.of_below HM.out.2.2.2.1.out []).whole HR.out (by simp))
       have c13 := HK2.out.cell 13
       have f13 := HK2.out.frozen 13
       have HK3 := Lib.hid (show Whole (w2.setCell ⟨w.heap.size, 13, none⟩ (.slice A' m.stamp.length c')) w.heap.size 28 (cellsM m (.slice A' m.stamp.length c')) from HK2.out.store 13 _)
       have HR3 := Lib.hid (show Whole (w2.setCell ⟨w.heap.size, 13, none⟩ (.slice A' m.stamp.length c')) (w.heap.size + 1) 28 #[.int .i64 0, .int .i64 0, .int .i64 0, .int .i64 0, .int .i64 0, .int .i64 0, .int .i64 0, .string ⟨#[]⟩, .int .i64 0, .int .i64 0, .int .i64 0, .bool false, .int .i64 0, .slice none 0 0, .int .i64 0, .int .i64 0] from ((Mod.refl [w.heap.size] w2).store (p := ⟨w.heap.size, 13, none⟩) (.inl (by simp)) (.slice A' m.stamp.length c')).whole HR2.out (by simp))
       have HLD := Lib.hid (msg_range HK3.out)
       have HX3 := Lib.hid ((below_on HX.out HM.out.2.2.2.1.out).setCell (p := ⟨w.heap.size, 13, none⟩) (Nat.le_refl _) (.slice A' m.stamp.length c')))
    | (refine wpList_load_mid rfl 28 (.tmp 1) rfl w.heap.size 0 rfl (cellsM m (.slice A' m.stamp.length c')).toList _ HLD.out Try.underlying28 rfl (by kernel_rfl) ?_)
    | (refine wpList_store_row rfl 28 (.tmp 2) (.tmp 8) rfl (w.heap.size + 1) (cellsM m (.slice A' m.stamp.length c')) rfl rfl 28 _ HR3.out (by kernel_rfl) rfl (by simp [cellsM, Value.oneCell']) ?_))
  obtain ⟨hK, hM⟩ := row16 (m0 := WM.zero) (sv0 := .slice none 0 0) HR3.out m (.slice A' m.stamp.length c')
  have HX4 := Lib.hid (HX3.out.trans (hM.below HX3.out.size (by simp)))
  have ho2 := HM.out.2.2.1.out
  have hlt : ∀ k, (Value.slice A' m.stamp.length c').ownBlock = some k → w.heap.size + 1 < k := fun k hk => by
    have h1 := (ho2.lt k hk).1
    have h2 := HS.out
    omega
  have ho3 := ((Mod.refl [w.heap.size] w2).store (p := ⟨w.heap.size, 13, none⟩) (.inl (by simp)) (.slice A' m.stamp.length c')).own ho2 (fun k hk => by have := hlt k hk; simp; omega)
  have HO := Lib.hid (own_base (hM.own ho3 (fun k hk => by have := hlt k hk; simp; omega)) (show w.heap.size ≤ w1.heap.size by have := HS.out; omega))
  have HK5 := Lib.hid hK
  clear hK hM ho2 hlt ho3
  generalize (World.setRow _ _ _) = w6 at HX4 HK5 HO ⊢
  obtain ⟨c0, c1', c2, c3, c4, c5, c6, c7, c8, c9, c10, c11, c12, c13', c14, c15⟩ := msg_cells HK5.out
  refine bodyPost_ret (v := .agg (cellsM m (.slice A' m.stamp.length c'))) (by simp [results, Try.results9, go_sem, c0, c1', c2, c3, c4, c5, c6, c7, c8, c9, c10, c11, c12, c13', c14, c15, cellsM]) rfl ?_
  exact ⟨A', c', rfl, HO, HX4.out⟩
/-- What own gives may be handed on. -/
theorem own_fit {A : Option Addr} {c : Nat} {m : Msg} {w : World} {b : Nat} (hw : Wide m) (h : w.ownsRow b 3 1 (.slice A m.stamp.length c) m.stamp.length (i64s m.stamp)) : Fit w A c m := by
  obtain ⟨A1, c1, hv, hl, hc⟩ := own_shape h
  injection hv with e1 e2 e3
  subst e1 e3
  exact ⟨hw, IntsAt.own h, fun ad e => by subst e; exact (h.lt _ rfl).2, hl, hc⟩
theorem own_of (A : Option Addr) (c : Nat) (m : Msg) (w : World) (h : Came w A c m) :
    Calls Try.prog 9 #[.agg (cellsM m (.slice A m.stamp.length c))] w fun e w' => ∃ A' c', e = .returned (.agg (cellsM m (.slice A' m.stamp.length c'))) ∧ Hid (Fit w' A' c' m) ∧ Below w.heap.size w w' :=
  (own_any A c m w h.ints (by have := h.le; have := h.cap; omega)).mono fun e w' ⟨A', c', he, ho, hb⟩ => ⟨A', c', he, Lib.hid (own_fit h.wide ho.out), hb⟩
end Go.Proofs.Ytboflkadabagfaa
