/- Texts that belong together: WireR2, WireR3. -/
import Derived.Test.YtboflkadabagfaaWireW8
import Derived.Test.YtboflkadabagfaaWireRA
namespace Go.Proofs.Ytboflkadabagfaa
open Go.RowKit
open Oct (BytesAt u8s)
open WM (Msg)
set_option linter.unusedVariables false
set_option linter.unusedSimpArgs false
set_option maxRecDepth 100000
/-- Where the stamp of what is used lies. -/
def ua (m : Msg) (A : Option Addr) : Option Addr := if m.kind = 5 ∨ (m.kind = 2 ∧ m.code = 0) then A else none
def uc (m : Msg) (c : Nat) : Nat := if m.kind = 5 ∨ (m.kind = 2 ∧ m.code = 0) then c else 0
/-- What the document's used answers: the message under what its kind uses. -/
def Used6 (w : World) (A : Option Addr) (c : Nat) (m : Msg) (e : Ending) (w' : World) : Prop :=
  e = .returned (.agg (cellsM (WM.used m) (.slice (ua m A) (WM.used m).stamp.length (uc m c)))) ∧ Below w.heap.size w w'
/-- The three boxes of the call: the message, the answer, the message under way. -/
structure UsSt (w0 : World) (m q : Msg) (v u : Value) (w : World) : Prop where
  kr : MsgBlk w w0.heap.size m v
  kz : MsgBlk w (w0.heap.size + 1) WM.zero (.slice none 0 0)
  ko : MsgBlk w (w0.heap.size + 1 + 1) q u
  below : Below w0.heap.size w0 w
section
variable {w0 w : World} {m q q' : Msg} {v u u' : Value}
theorem UsSt.store (h : UsSt w0 m q v u w) {i : Nat} {x : Value} (he : (cellsM q u).setIfInBounds i x = cellsM q' u') : UsSt w0 m q' v u' (w.setCell ⟨w0.heap.size + 1 + 1, i, none⟩ x) := by
  have hM : Mod [w0.heap.size + 1 + 1] w (w.setCell ⟨w0.heap.size + 1 + 1, i, none⟩ x) := (Mod.refl _ w).store (p := ⟨w0.heap.size + 1 + 1, i, none⟩) (.inl (by simp)) x
  refine ⟨hM.whole h.kr (by simp; omega), hM.whole h.kz (by simp), ?_, h.below.trans (hM.below h.below.size (by intro x hx; simp at hx; omega))⟩
  have := h.ko.store i x
  rwa [he] at this
end
theorem UsSt.start {w0 wa : World} {m : Msg} {v : Value} (hS : wa.heap.size = w0.heap.size + 1 + 1) (hX : Below w0.heap.size w0 wa) (hK : MsgBlk wa w0.heap.size m v) (hZ : MsgBlk wa (w0.heap.size + 1) WM.zero (.slice none 0 0)) (q : Msg) (u : Value) :
    UsSt w0 m q v u ((wa.alloc (.cells (cellsM WM.zero (.slice none 0 0)) 28)).setRow (w0.heap.size + 1 + 1) (cellsM q u)) := by
  have hN : MsgBlk (wa.alloc (.cells (cellsM WM.zero (.slice none 0 0)) 28)) wa.heap.size WM.zero (.slice none 0 0) := Whole.new wa _ _
  rw [hS] at hN
  obtain ⟨hW, hM⟩ := row16 hN q u
  exact ⟨hM.whole (hK.alloc _) (by simp; omega), hM.whole (hZ.alloc _) (by simp), hW, (hX.alloc (by omega) _).trans (hM.below (by simp; omega) (by intro x hx; simp at hx; omega))⟩
/-- The answer's box is written. -/
theorem UsSt.done {w0 w : World} {m q : Msg} {v : Value} {A A' : Option Addr} {c c' : Nat} (hF : Fit6 w0 A c m) (h : UsSt w0 m q v (.slice A' q.stamp.length c') w) (hq : WM.used m = q) (hu : ua m A = A' ∧ uc m c = c') :
    MsgBlk (w.setRow (w0.heap.size + 1) (cellsM q (.slice A' q.stamp.length c'))) (w0.heap.size + 1) q (.slice A' q.stamp.length c') ∧ Used6 w0 A c m (.returned (.agg (cellsM q (.slice A' q.stamp.length c')))) (w.setRow (w0.heap.size + 1) (cellsM q (.slice A' q.stamp.length c'))) := by
  obtain ⟨hK, hM⟩ := row16 h.kz q (.slice A' q.stamp.length c')
  have hb := h.below.trans (hM.below h.below.size (by intro x hx; simp at hx; omega))
  subst hq
  obtain ⟨rfl, rfl⟩ := hu
  exact ⟨hK, rfl, hb⟩
set_option maxHeartbeats 8000000 in
theorem us6_1a (A : Option Addr) (c : Nat) (m : Msg) (w : World) (hf : Fit6 w A c m) (hk : m.kind = 1) (hv : m.verb = 1) :
    Calls Try.prog 28 #[.agg (cellsM m (.slice A m.stamp.length c))] w (Used6 w A c m) := by
  have HF := Lib.hid hf
  clear hf
  have HHK := Lib.hid hk
  clear hk
  have HHV := Lib.hid hv
  clear hv
  have HX := Lib.hid (((Below.refl _ w).alloc (Nat.le_refl _) (.cells (cellsM m (.slice A m.stamp.length c)) 28)).alloc (by simp) (.cells #[.int .i64 0, .int .i64 0, .int .i64 0, .int .i64 0, .int .i64 0, .int .i64 0, .int .i64 0, .string ⟨#[]⟩, .int .i64 0, .int .i64 0, .int .i64 0, .bool false, .int .i64 0, .slice none 0 0, .int .i64 0, .int .i64 0] 28))
  have HK := Lib.hid (show MsgBlk ((w.alloc (.cells (cellsM m (.slice A m.stamp.length c)) 28)).alloc (.cells #[.int .i64 0, .int .i64 0, .int .i64 0, .int .i64 0, .int .i64 0, .int .i64 0, .int .i64 0, .string ⟨#[]⟩, .int .i64 0, .int .i64 0, .int .i64 0, .bool false, .int .i64 0, .slice none 0 0, .int .i64 0, .int .i64 0] 28)) w.heap.size m (.slice A m.stamp.length c) from (Whole.new w 28 (cellsM m (.slice A m.stamp.length c))).alloc (.cells #[.int .i64 0, .int .i64 0, .int .i64 0, .int .i64 0, .int .i64 0, .int .i64 0, .int .i64 0, .string ⟨#[]⟩, .int .i64 0, .int .i64 0, .int .i64 0, .bool false, .int .i64 0, .slice none 0 0, .int .i64 0, .int .i64 0] 28))
  have HZ := Lib.hid (show MsgBlk ((w.alloc (.cells (cellsM m (.slice A m.stamp.length c)) 28)).alloc (.cells #[.int .i64 0, .int .i64 0, .int .i64 0, .int .i64 0, .int .i64 0, .int .i64 0, .int .i64 0, .string ⟨#[]⟩, .int .i64 0, .int .i64 0, .int .i64 0, .bool false, .int .i64 0, .slice none 0 0, .int .i64 0, .int .i64 0] 28)) (w.heap.size + 1) WM.zero (.slice none 0 0) from by have h := Whole.new (w.alloc (.cells (cellsM m (.slice A m.stamp.length c)) 28)) 28 (cellsM WM.zero (.slice none 0 0)); have e : (w.alloc (.cells (cellsM m (.slice A m.stamp.length c)) 28)).heap.size = w.heap.size + 1 := (by simp); rw [e] at h; exact h)
  have HS := Lib.hid (show ((w.alloc (.cells (cellsM m (.slice A m.stamp.length c)) 28)).alloc (.cells #[.int .i64 0, .int .i64 0, .int .i64 0, .int .i64 0, .int .i64 0, .int .i64 0, .int .i64 0, .string ⟨#[]⟩, .int .i64 0, .int .i64 0, .int .i64 0, .bool false, .int .i64 0, .slice none 0 0, .int .i64 0, .int .i64 0] 28)).heap.size = w.heap.size + 1 + 1 by simp)
  go_enter Try.func28, Try.ntmps28
  go_upto_region 1 with (fail)
  generalize (w.alloc (.cells (cellsM m (.slice A m.stamp.length c)) 28)).alloc (.cells #[.int .i64 0, .int .i64 0, .int .i64 0, .int .i64 0, .int .i64 0, .int .i64 0, .int .i64 0, .string ⟨#[]⟩, .int .i64 0, .int .i64 0, .int .i64 0, .bool false, .int .i64 0, .slice none 0 0, .int .i64 0, .int .i64 0] 28) = wa at HX HK HZ HS ⊢
  obtain ⟨c0, c1, c2', c3, c4, c5, c6, c7, c8, c9, c10, c11, c12, c13, c14, c15⟩ := msg_cells HK.out
  have HNW := Lib.hid (show MsgBlk (wa.alloc (.cells (cellsM WM.zero (.slice none 0 0)) 28)) wa.heap.size WM.zero (.slice none 0 0) from Whole.new wa _ _)
  have HT := Lib.hid (UsSt.start HS.out HX.out HK.out HZ.out { WM.zero with kind := m.kind, frm := m.frm, dst := m.dst } (.slice none 0 0))
  unfold cellsM WM.zero at HNW
  rw [show cellsM WM.zero (.slice none 0 0) = #[.int .i64 0, .int .i64 0, .int .i64 0, .int .i64 0, .int .i64 0, .int .i64 0, .int .i64 0, .string ⟨#[]⟩, .int .i64 0, .int .i64 0, .int .i64 0, .bool false, .int .i64 0, .slice none 0 0, .int .i64 0, .int .i64 0] from rfl, ← HS.out] at HT
  rw [show cellsM { WM.zero with kind := m.kind, frm := m.frm, dst := m.dst } (.slice none 0 0) = #[.int .i64 m.kind, .int .i64 m.frm, .int .i64 m.dst, .int .i64 0, .int .i64 0, .int .i64 0, .int .i64 0, .string ⟨#[]⟩, .int .i64 0, .int .i64 0, .int .i64 0, .bool false, .int .i64 0, .slice none 0 0, .int .i64 0, .int .i64 0] from rfl] at HT
  clear HX HK HZ
  go_upto_region 2 with (refine wpList_store_row rfl 28 (.tmp 3) (.tmp 10) rfl wa.heap.size #[.int .i64 m.kind, .int .i64 m.frm, .int .i64 m.dst, .int .i64 0, .int .i64 0, .int .i64 0, .int .i64 0, .string ⟨#[]⟩, .int .i64 0, .int .i64 0, .int .i64 0, .bool false, .int .i64 0, .slice none 0 0, .int .i64 0, .int .i64 0] rfl rfl 28 _ HNW.out (by kernel_rfl) rfl (by simp [Value.oneCell']) ?_)
  generalize World.setRow _ _ _ = w3 at HT ⊢
  rw [HS.out]
  clear HNW HS c0 c1 c2' c3 c4 c5 c6 c7 c8 c9 c10 c11 c12 c13 c14 c15
  obtain ⟨c0, c1, c2', c3, c4, c5, c6, c7, c8, c9, c10, c11, c12, c13, c14, c15⟩ := msg_cells HT.out.kr
  have hk := HHK.out
  have hv := HHV.out
  have HU := Lib.hid (show WM.used m = { WM.zero with kind := m.kind, frm := m.frm, dst := m.dst, boot := m.boot, seq := m.seq, low := m.low, verb := 1, path := m.path, mode := m.mode, term := m.term } by unfold WM.used; simp [hk, hv])
  have HUA := Lib.hid (show ua m A = none ∧ uc m c = 0 by unfold ua uc; simp [hk, hv])
  rw [hk] at c0
  clear hk
  rw [hv] at c6
  clear hv
  obtain ⟨o0, o1, o2, o3, o4, o5, o6, o7, o8, o9, o10, o11, o12, o13, o14, o15⟩ := msg_cells HT.out.ko
  have f3 := HT.out.ko.frozen 3
  have f4 := HT.out.ko.frozen 4
  have f5 := HT.out.ko.frozen 5
  have f6 := HT.out.ko.frozen 6
  have f7 := HT.out.ko.frozen 7
  have f8 := HT.out.ko.frozen 8
  have f9 := HT.out.ko.frozen 9
  go_upto_region 35 with (fail)
  have HT2 := Lib.hid (UsSt.store (i := 9) (q' := { WM.zero with kind := m.kind, frm := m.frm, dst := m.dst, boot := m.boot, seq := m.seq, low := m.low, verb := 1, path := m.path, mode := m.mode, term := m.term }) (u' := (.slice none 0 0)) (UsSt.store (i := 8) (q' := { WM.zero with kind := m.kind, frm := m.frm, dst := m.dst, boot := m.boot, seq := m.seq, low := m.low, verb := 1, path := m.path, mode := m.mode }) (u' := (.slice none 0 0)) (UsSt.store (i := 7) (q' := { WM.zero with kind := m.kind, frm := m.frm, dst := m.dst, boot := m.boot, seq := m.seq, low := m.low, verb := 1, path := m.path }) (u' := (.slice none 0 0)) (UsSt.store (i := 6) (q' := { WM.zero with kind := m.kind, frm := m.frm, dst := m.dst, boot := m.boot, seq := m.seq, low := m.low, verb := 1 }) (u' := (.slice none 0 0)) (UsSt.store (i := 5) (q' := { WM.zero with kind := m.kind, frm := m.frm, dst := m.dst, boot := m.boot, seq := m.seq, low := m.low }) (u' := (.slice none 0 0)) (UsSt.store (i := 4) (q' := { WM.zero with kind := m.kind, frm := m.frm, dst := m.dst, boot := m.boot, seq := m.seq }) (u' := (.slice none 0 0)) (UsSt.store (i := 3) (q' := { WM.zero with kind := m.kind, frm := m.frm, dst := m.dst, boot := m.boot }) (u' := (.slice none 0 0)) HT.out rfl) rfl) rfl) rfl) rfl) rfl) rfl)
  clear HT c0 c1 c2' c3 c4 c5 c6 c7 c8 c9 c10 c11 c12 c13 c14 c15 o0 o1 o2 o3 o4 o5 o6 o7 o8 o9 o10 o11 o12 o13 o14 o15 f3 f4 f5 f6 f7 f8 f9
  generalize (((((((w3.setCell ⟨w.heap.size + 1 + 1, 3, none⟩ (.int .i64 m.boot)).setCell ⟨w.heap.size + 1 + 1, 4, none⟩ (.int .i64 m.seq)).setCell ⟨w.heap.size + 1 + 1, 5, none⟩ (.int .i64 m.low)).setCell ⟨w.heap.size + 1 + 1, 6, none⟩ (.int .i64 1)).setCell ⟨w.heap.size + 1 + 1, 7, none⟩ (.string m.path)).setCell ⟨w.heap.size + 1 + 1, 8, none⟩ (.int .i64 m.mode)).setCell ⟨w.heap.size + 1 + 1, 9, none⟩ (.int .i64 m.term)) = w4 at HT2 ⊢
  have HD := Lib.hid (show MsgBlk (w4.setRow (w.heap.size + 1) (cellsM { WM.zero with kind := m.kind, frm := m.frm, dst := m.dst, boot := m.boot, seq := m.seq, low := m.low, verb := 1, path := m.path, mode := m.mode, term := m.term } (.slice none 0 0))) (w.heap.size + 1) { WM.zero with kind := m.kind, frm := m.frm, dst := m.dst, boot := m.boot, seq := m.seq, low := m.low, verb := 1, path := m.path, mode := m.mode, term := m.term } (.slice none 0 0) ∧ Used6 w A c m (.returned (.agg (cellsM { WM.zero with kind := m.kind, frm := m.frm, dst := m.dst, boot := m.boot, seq := m.seq, low := m.low, verb := 1, path := m.path, mode := m.mode, term := m.term } (.slice none 0 0)))) (w4.setRow (w.heap.size + 1) (cellsM { WM.zero with kind := m.kind, frm := m.frm, dst := m.dst, boot := m.boot, seq := m.seq, low := m.low, verb := 1, path := m.path, mode := m.mode, term := m.term } (.slice none 0 0))) from UsSt.done (A' := none) (c' := 0) HF.out HT2.out HU.out HUA.out)
  have HLD := Lib.hid (msg_range HT2.out.ko)
  have HKZ := Lib.hid HT2.out.kz
  skip
  go_wp2_with (first | (refine wpList_load_mid rfl 28 (.tmp 3) rfl (w.heap.size + 1 + 1) 0 rfl (cellsM { WM.zero with kind := m.kind, frm := m.frm, dst := m.dst, boot := m.boot, seq := m.seq, low := m.low, verb := 1, path := m.path, mode := m.mode, term := m.term } (.slice none 0 0)).toList _ HLD.out Try.underlying28 rfl (by kernel_rfl) ?_) | (refine wpList_store_row rfl 28 (.tmp 2) (.tmp 103) rfl (w.heap.size + 1) (cellsM { WM.zero with kind := m.kind, frm := m.frm, dst := m.dst, boot := m.boot, seq := m.seq, low := m.low, verb := 1, path := m.path, mode := m.mode, term := m.term } (.slice none 0 0)) rfl rfl 28 _ HKZ.out (by kernel_rfl) rfl (by simp [cellsM, Value.oneCell']) ?_))
  generalize World.setRow _ _ _ = w6 at HD ⊢
  obtain ⟨c0, c1, c2', c3, c4, c5, c6, c7, c8, c9, c10, c11, c12, c13, c14, c15⟩ := msg_cells HD.out.1
  change bodyPost Try.prog _ _ Exit.ret _ _
  refine bodyPost_ret (v := .agg (cellsM { WM.zero with kind := m.kind, frm := m.frm, dst := m.dst, boot := m.boot, seq := m.seq, low := m.low, verb := 1, path := m.path, mode := m.mode, term := m.term } (.slice none 0 0))) (by simp [results, Try.results28, go_sem, c0, c1, c2', c3, c4, c5, c6, c7, c8, c9, c10, c11, c12, c13, c14, c15, cellsM]) rfl ?_
  exact HD.out.2
set_option maxHeartbeats 8000000 in
theorem us6_1b (A : Option Addr) (c : Nat) (m : Msg) (w : World) (hf : Fit6 w A c m) (hk : m.kind = 1) (hv : m.verb = 2) :
    Calls Try.prog 28 #[.agg (cellsM m (.slice A m.stamp.length c))] w (Used6 w A c m) := by
  have HF := Lib.hid hf
  clear hf
  have HHK := Lib.hid hk
  clear hk
  have HHV := Lib.hid hv
  clear hv
  have HX := Lib.hid (((Below.refl _ w).alloc (Nat.le_refl _) (.cells (cellsM m (.slice A m.stamp.length c)) 28)).alloc (by simp) (.cells #[.int .i64 0, .int .i64 0, .int .i64 0, .int .i64 0, .int .i64 0, .int .i64 0, .int .i64 0, .string ⟨#[]⟩, .int .i64 0, .int .i64 0, .int .i64 0, .bool false, .int .i64 0, .slice none 0 0, .int .i64 0, .int .i64 0] 28))
  have HK := Lib.hid (show MsgBlk ((w.alloc (.cells (cellsM m (.slice A m.stamp.length c)) 28)).alloc (.cells #[.int .i64 0, .int .i64 0, .int .i64 0, .int .i64 0, .int .i64 0, .int .i64 0, .int .i64 0, .string ⟨#[]⟩, .int .i64 0, .int .i64 0, .int .i64 0, .bool false, .int .i64 0, .slice none 0 0, .int .i64 0, .int .i64 0] 28)) w.heap.size m (.slice A m.stamp.length c) from (Whole.new w 28 (cellsM m (.slice A m.stamp.length c))).alloc (.cells #[.int .i64 0, .int .i64 0, .int .i64 0, .int .i64 0, .int .i64 0, .int .i64 0, .int .i64 0, .string ⟨#[]⟩, .int .i64 0, .int .i64 0, .int .i64 0, .bool false, .int .i64 0, .slice none 0 0, .int .i64 0, .int .i64 0] 28))
  have HZ := Lib.hid (show MsgBlk ((w.alloc (.cells (cellsM m (.slice A m.stamp.length c)) 28)).alloc (.cells #[.int .i64 0, .int .i64 0, .int .i64 0, .int .i64 0, .int .i64 0, .int .i64 0, .int .i64 0, .string ⟨#[]⟩, .int .i64 0, .int .i64 0, .int .i64 0, .bool false, .int .i64 0, .slice none 0 0, .int .i64 0, .int .i64 0] 28)) (w.heap.size + 1) WM.zero (.slice none 0 0) from by have h := Whole.new (w.alloc (.cells (cellsM m (.slice A m.stamp.length c)) 28)) 28 (cellsM WM.zero (.slice none 0 0)); have e : (w.alloc (.cells (cellsM m (.slice A m.stamp.length c)) 28)).heap.size = w.heap.size + 1 := (by simp); rw [e] at h; exact h)
  have HS := Lib.hid (show ((w.alloc (.cells (cellsM m (.slice A m.stamp.length c)) 28)).alloc (.cells #[.int .i64 0, .int .i64 0, .int .i64 0, .int .i64 0, .int .i64 0, .int .i64 0, .int .i64 0, .string ⟨#[]⟩, .int .i64 0, .int .i64 0, .int .i64 0, .bool false, .int .i64 0, .slice none 0 0, .int .i64 0, .int .i64 0] 28)).heap.size = w.heap.size + 1 + 1 by simp)
  go_enter Try.func28, Try.ntmps28
  go_upto_region 1 with (fail)
  generalize (w.alloc (.cells (cellsM m (.slice A m.stamp.length c)) 28)).alloc (.cells #[.int .i64 0, .int .i64 0, .int .i64 0, .int .i64 0, .int .i64 0, .int .i64 0, .int .i64 0, .string ⟨#[]⟩, .int .i64 0, .int .i64 0, .int .i64 0, .bool false, .int .i64 0, .slice none 0 0, .int .i64 0, .int .i64 0] 28) = wa at HX HK HZ HS ⊢
  obtain ⟨c0, c1, c2', c3, c4, c5, c6, c7, c8, c9, c10, c11, c12, c13, c14, c15⟩ := msg_cells HK.out
  have HNW := Lib.hid (show MsgBlk (wa.alloc (.cells (cellsM WM.zero (.slice none 0 0)) 28)) wa.heap.size WM.zero (.slice none 0 0) from Whole.new wa _ _)
  have HT := Lib.hid (UsSt.start HS.out HX.out HK.out HZ.out { WM.zero with kind := m.kind, frm := m.frm, dst := m.dst } (.slice none 0 0))
  unfold cellsM WM.zero at HNW
  rw [show cellsM WM.zero (.slice none 0 0) = #[.int .i64 0, .int .i64 0, .int .i64 0, .int .i64 0, .int .i64 0, .int .i64 0, .int .i64 0, .string ⟨#[]⟩, .int .i64 0, .int .i64 0, .int .i64 0, .bool false, .int .i64 0, .slice none 0 0, .int .i64 0, .int .i64 0] from rfl, ← HS.out] at HT
  rw [show cellsM { WM.zero with kind := m.kind, frm := m.frm, dst := m.dst } (.slice none 0 0) = #[.int .i64 m.kind, .int .i64 m.frm, .int .i64 m.dst, .int .i64 0, .int .i64 0, .int .i64 0, .int .i64 0, .string ⟨#[]⟩, .int .i64 0, .int .i64 0, .int .i64 0, .bool false, .int .i64 0, .slice none 0 0, .int .i64 0, .int .i64 0] from rfl] at HT
  clear HX HK HZ
  go_upto_region 2 with (refine wpList_store_row rfl 28 (.tmp 3) (.tmp 10) rfl wa.heap.size #[.int .i64 m.kind, .int .i64 m.frm, .int .i64 m.dst, .int .i64 0, .int .i64 0, .int .i64 0, .int .i64 0, .string ⟨#[]⟩, .int .i64 0, .int .i64 0, .int .i64 0, .bool false, .int .i64 0, .slice none 0 0, .int .i64 0, .int .i64 0] rfl rfl 28 _ HNW.out (by kernel_rfl) rfl (by simp [Value.oneCell']) ?_)
  generalize World.setRow _ _ _ = w3 at HT ⊢
  rw [HS.out]
  clear HNW HS c0 c1 c2' c3 c4 c5 c6 c7 c8 c9 c10 c11 c12 c13 c14 c15
  obtain ⟨c0, c1, c2', c3, c4, c5, c6, c7, c8, c9, c10, c11, c12, c13, c14, c15⟩ := msg_cells HT.out.kr
  have hk := HHK.out
  have hv := HHV.out
  have HU := Lib.hid (show WM.used m = { WM.zero with kind := m.kind, frm := m.frm, dst := m.dst, boot := m.boot, seq := m.seq, low := m.low, verb := 2, id := m.id, term := m.term, fresh := m.fresh } by unfold WM.used; simp [hk, hv])
  have HUA := Lib.hid (show ua m A = none ∧ uc m c = 0 by unfold ua uc; simp [hk, hv])
  rw [hk] at c0
  clear hk
  rw [hv] at c6
  clear hv
  obtain ⟨o0, o1, o2, o3, o4, o5, o6, o7, o8, o9, o10, o11, o12, o13, o14, o15⟩ := msg_cells HT.out.ko
  have f3 := HT.out.ko.frozen 3
  have f4 := HT.out.ko.frozen 4
  have f5 := HT.out.ko.frozen 5
  have f6 := HT.out.ko.frozen 6
  have f10 := HT.out.ko.frozen 10
  have f9 := HT.out.ko.frozen 9
  have f11 := HT.out.ko.frozen 11
  go_upto_region 35 with (fail)
  have HT2 := Lib.hid (UsSt.store (i := 11) (q' := { WM.zero with kind := m.kind, frm := m.frm, dst := m.dst, boot := m.boot, seq := m.seq, low := m.low, verb := 2, id := m.id, term := m.term, fresh := m.fresh }) (u' := (.slice none 0 0)) (UsSt.store (i := 9) (q' := { WM.zero with kind := m.kind, frm := m.frm, dst := m.dst, boot := m.boot, seq := m.seq, low := m.low, verb := 2, id := m.id, term := m.term }) (u' := (.slice none 0 0)) (UsSt.store (i := 10) (q' := { WM.zero with kind := m.kind, frm := m.frm, dst := m.dst, boot := m.boot, seq := m.seq, low := m.low, verb := 2, id := m.id }) (u' := (.slice none 0 0)) (UsSt.store (i := 6) (q' := { WM.zero with kind := m.kind, frm := m.frm, dst := m.dst, boot := m.boot, seq := m.seq, low := m.low, verb := 2 }) (u' := (.slice none 0 0)) (UsSt.store (i := 5) (q' := { WM.zero with kind := m.kind, frm := m.frm, dst := m.dst, boot := m.boot, seq := m.seq, low := m.low }) (u' := (.slice none 0 0)) (UsSt.store (i := 4) (q' := { WM.zero with kind := m.kind, frm := m.frm, dst := m.dst, boot := m.boot, seq := m.seq }) (u' := (.slice none 0 0)) (UsSt.store (i := 3) (q' := { WM.zero with kind := m.kind, frm := m.frm, dst := m.dst, boot := m.boot }) (u' := (.slice none 0 0)) HT.out rfl) rfl) rfl) rfl) rfl) rfl) rfl)
  clear HT c0 c1 c2' c3 c4 c5 c6 c7 c8 c9 c10 c11 c12 c13 c14 c15 o0 o1 o2 o3 o4 o5 o6 o7 o8 o9 o10 o11 o12 o13 o14 o15 f3 f4 f5 f6 f10 f9 f11
  generalize (((((((w3.setCell ⟨w.heap.size + 1 + 1, 3, none⟩ (.int .i64 m.boot)).setCell ⟨w.heap.size + 1 + 1, 4, none⟩ (.int .i64 m.seq)).setCell ⟨w.heap.size + 1 + 1, 5, none⟩ (.int .i64 m.low)).setCell ⟨w.heap.size + 1 + 1, 6, none⟩ (.int .i64 2)).setCell ⟨w.heap.size + 1 + 1, 10, none⟩ (.int .i64 m.id)).setCell ⟨w.heap.size + 1 + 1, 9, none⟩ (.int .i64 m.term)).setCell ⟨w.heap.size + 1 + 1, 11, none⟩ (.bool m.fresh)) = w4 at HT2 ⊢
  have HD := Lib.hid (show MsgBlk (w4.setRow (w.heap.size + 1) (cellsM { WM.zero with kind := m.kind, frm := m.frm, dst := m.dst, boot := m.boot, seq := m.seq, low := m.low, verb := 2, id := m.id, term := m.term, fresh := m.fresh } (.slice none 0 0))) (w.heap.size + 1) { WM.zero with kind := m.kind, frm := m.frm, dst := m.dst, boot := m.boot, seq := m.seq, low := m.low, verb := 2, id := m.id, term := m.term, fresh := m.fresh } (.slice none 0 0) ∧ Used6 w A c m (.returned (.agg (cellsM { WM.zero with kind := m.kind, frm := m.frm, dst := m.dst, boot := m.boot, seq := m.seq, low := m.low, verb := 2, id := m.id, term := m.term, fresh := m.fresh } (.slice none 0 0)))) (w4.setRow (w.heap.size + 1) (cellsM { WM.zero with kind := m.kind, frm := m.frm, dst := m.dst, boot := m.boot, seq := m.seq, low := m.low, verb := 2, id := m.id, term := m.term, fresh := m.fresh } (.slice none 0 0))) from UsSt.done (A' := none) (c' := 0) HF.out HT2.out HU.out HUA.out)
  have HLD := Lib.hid (msg_range HT2.out.ko)
  have HKZ := Lib.hid HT2.out.kz
  skip
  go_wp2_with (first | (refine wpList_load_mid rfl 28 (.tmp 3) rfl (w.heap.size + 1 + 1) 0 rfl (cellsM { WM.zero with kind := m.kind, frm := m.frm, dst := m.dst, boot := m.boot, seq := m.seq, low := m.low, verb := 2, id := m.id, term := m.term, fresh := m.fresh } (.slice none 0 0)).toList _ HLD.out Try.underlying28 rfl (by kernel_rfl) ?_) | (refine wpList_store_row rfl 28 (.tmp 2) (.tmp 103) rfl (w.heap.size + 1) (cellsM { WM.zero with kind := m.kind, frm := m.frm, dst := m.dst, boot := m.boot, seq := m.seq, low := m.low, verb := 2, id := m.id, term := m.term, fresh := m.fresh } (.slice none 0 0)) rfl rfl 28 _ HKZ.out (by kernel_rfl) rfl (by simp [cellsM, Value.oneCell']) ?_))
  generalize World.setRow _ _ _ = w6 at HD ⊢
  obtain ⟨c0, c1, c2', c3, c4, c5, c6, c7, c8, c9, c10, c11, c12, c13, c14, c15⟩ := msg_cells HD.out.1
  change bodyPost Try.prog _ _ Exit.ret _ _
  refine bodyPost_ret (v := .agg (cellsM { WM.zero with kind := m.kind, frm := m.frm, dst := m.dst, boot := m.boot, seq := m.seq, low := m.low, verb := 2, id := m.id, term := m.term, fresh := m.fresh } (.slice none 0 0))) (by simp [results, Try.results28, go_sem, c0, c1, c2', c3, c4, c5, c6, c7, c8, c9, c10, c11, c12, c13, c14, c15, cellsM]) rfl ?_
  exact HD.out.2
set_option maxHeartbeats 8000000 in
theorem us6_1c (A : Option Addr) (c : Nat) (m : Msg) (w : World) (hf : Fit6 w A c m) (hk : m.kind = 1) (hv : m.verb = 3) :
    Calls Try.prog 28 #[.agg (cellsM m (.slice A m.stamp.length c))] w (Used6 w A c m) := by
  have HF := Lib.hid hf
  clear hf
  have HHK := Lib.hid hk
  clear hk
  have HHV := Lib.hid hv
  clear hv
  have HX := Lib.hid (((Below.refl _ w).alloc (Nat.le_refl _) (.cells (cellsM m (.slice A m.stamp.length c)) 28)).alloc (by simp) (.cells #[.int .i64 0, .int .i64 0, .int .i64 0, .int .i64 0, .int .i64 0, .int .i64 0, .int .i64 0, .string ⟨#[]⟩, .int .i64 0, .int .i64 0, .int .i64 0, .bool false, .int .i64 0, .slice none 0 0, .int .i64 0, .int .i64 0] 28))
  have HK := Lib.hid (show MsgBlk ((w.alloc (.cells (cellsM m (.slice A m.stamp.length c)) 28)).alloc (.cells #[.int .i64 0, .int .i64 0, .int .i64 0, .int .i64 0, .int .i64 0, .int .i64 0, .int .i64 0, .string ⟨#[]⟩, .int .i64 0, .int .i64 0, .int .i64 0, .bool false, .int .i64 0, .slice none 0 0, .int .i64 0, .int .i64 0] 28)) w.heap.size m (.slice A m.stamp.length c) from (Whole.new w 28 (cellsM m (.slice A m.stamp.length c))).alloc (.cells #[.int .i64 0, .int .i64 0, .int .i64 0, .int .i64 0, .int .i64 0, .int .i64 0, .int .i64 0, .string ⟨#[]⟩, .int .i64 0, .int .i64 0, .int .i64 0, .bool false, .int .i64 0, .slice none 0 0, .int .i64 0, .int .i64 0] 28))
  have HZ := Lib.hid (show MsgBlk ((w.alloc (.cells (cellsM m (.slice A m.stamp.length c)) 28)).alloc (.cells #[.int .i64 0, .int .i64 0, .int .i64 0, .int .i64 0, .int .i64 0, .int .i64 0, .int .i64 0, .string ⟨#[]⟩, .int .i64 0, .int .i64 0, .int .i64 0, .bool false, .int .i64 0, .slice none 0 0, .int .i64 0, .int .i64 0] 28)) (w.heap.size + 1) WM.zero (.slice none 0 0) from by have h := Whole.new (w.alloc (.cells (cellsM m (.slice A m.stamp.length c)) 28)) 28 (cellsM WM.zero (.slice none 0 0)); have e : (w.alloc (.cells (cellsM m (.slice A m.stamp.length c)) 28)).heap.size = w.heap.size + 1 := (by simp); rw [e] at h; exact h)
  have HS := Lib.hid (show ((w.alloc (.cells (cellsM m (.slice A m.stamp.length c)) 28)).alloc (.cells #[.int .i64 0, .int .i64 0, .int .i64 0, .int .i64 0, .int .i64 0, .int .i64 0, .int .i64 0, .string ⟨#[]⟩, .int .i64 0, .int .i64 0, .int .i64 0, .bool false, .int .i64 0, .slice none 0 0, .int .i64 0, .int .i64 0] 28)).heap.size = w.heap.size + 1 + 1 by simp)
  go_enter Try.func28, Try.ntmps28
  go_upto_region 1 with (fail)
  generalize (w.alloc (.cells (cellsM m (.slice A m.stamp.length c)) 28)).alloc (.cells #[.int .i64 0, .int .i64 0, .int .i64 0, .int .i64 0, .int .i64 0, .int .i64 0, .int .i64 0, .string ⟨#[]⟩, .int .i64 0, .int .i64 0, .int .i64 0, .bool false, .int .i64 0, .slice none 0 0, .int .i64 0, .int .i64 0] 28) = wa at HX HK HZ HS ⊢
  obtain ⟨c0, c1, c2', c3, c4, c5, c6, c7, c8, c9, c10, c11, c12, c13, c14, c15⟩ := msg_cells HK.out
  have HNW := Lib.hid (show MsgBlk (wa.alloc (.cells (cellsM WM.zero (.slice none 0 0)) 28)) wa.heap.size WM.zero (.slice none 0 0) from Whole.new wa _ _)
  have HT := Lib.hid (UsSt.start HS.out HX.out HK.out HZ.out { WM.zero with kind := m.kind, frm := m.frm, dst := m.dst } (.slice none 0 0))
  unfold cellsM WM.zero at HNW
  rw [show cellsM WM.zero (.slice none 0 0) = #[.int .i64 0, .int .i64 0, .int .i64 0, .int .i64 0, .int .i64 0, .int .i64 0, .int .i64 0, .string ⟨#[]⟩, .int .i64 0, .int .i64 0, .int .i64 0, .bool false, .int .i64 0, .slice none 0 0, .int .i64 0, .int .i64 0] from rfl, ← HS.out] at HT
  rw [show cellsM { WM.zero with kind := m.kind, frm := m.frm, dst := m.dst } (.slice none 0 0) = #[.int .i64 m.kind, .int .i64 m.frm, .int .i64 m.dst, .int .i64 0, .int .i64 0, .int .i64 0, .int .i64 0, .string ⟨#[]⟩, .int .i64 0, .int .i64 0, .int .i64 0, .bool false, .int .i64 0, .slice none 0 0, .int .i64 0, .int .i64 0] from rfl] at HT
  clear HX HK HZ
  go_upto_region 2 with (refine wpList_store_row rfl 28 (.tmp 3) (.tmp 10) rfl wa.heap.size #[.int .i64 m.kind, .int .i64 m.frm, .int .i64 m.dst, .int .i64 0, .int .i64 0, .int .i64 0, .int .i64 0, .string ⟨#[]⟩, .int .i64 0, .int .i64 0, .int .i64 0, .bool false, .int .i64 0, .slice none 0 0, .int .i64 0, .int .i64 0] rfl rfl 28 _ HNW.out (by kernel_rfl) rfl (by simp [Value.oneCell']) ?_)
  generalize World.setRow _ _ _ = w3 at HT ⊢
  rw [HS.out]
  clear HNW HS c0 c1 c2' c3 c4 c5 c6 c7 c8 c9 c10 c11 c12 c13 c14 c15
  obtain ⟨c0, c1, c2', c3, c4, c5, c6, c7, c8, c9, c10, c11, c12, c13, c14, c15⟩ := msg_cells HT.out.kr
  have hk := HHK.out
  have hv := HHV.out
  have HU := Lib.hid (show WM.used m = { WM.zero with kind := m.kind, frm := m.frm, dst := m.dst, boot := m.boot, seq := m.seq, low := m.low, verb := 3, id := m.id } by unfold WM.used; simp [hk, hv])
  have HUA := Lib.hid (show ua m A = none ∧ uc m c = 0 by unfold ua uc; simp [hk, hv])
  rw [hk] at c0
  clear hk
  rw [hv] at c6
  clear hv
  obtain ⟨o0, o1, o2, o3, o4, o5, o6, o7, o8, o9, o10, o11, o12, o13, o14, o15⟩ := msg_cells HT.out.ko
  have f3 := HT.out.ko.frozen 3
  have f4 := HT.out.ko.frozen 4
  have f5 := HT.out.ko.frozen 5
  have f6 := HT.out.ko.frozen 6
  have f10 := HT.out.ko.frozen 10
  go_upto_region 35 with (fail)
  have HT2 := Lib.hid (UsSt.store (i := 10) (q' := { WM.zero with kind := m.kind, frm := m.frm, dst := m.dst, boot := m.boot, seq := m.seq, low := m.low, verb := 3, id := m.id }) (u' := (.slice none 0 0)) (UsSt.store (i := 6) (q' := { WM.zero with kind := m.kind, frm := m.frm, dst := m.dst, boot := m.boot, seq := m.seq, low := m.low, verb := 3 }) (u' := (.slice none 0 0)) (UsSt.store (i := 5) (q' := { WM.zero with kind := m.kind, frm := m.frm, dst := m.dst, boot := m.boot, seq := m.seq, low := m.low }) (u' := (.slice none 0 0)) (UsSt.store (i := 4) (q' := { WM.zero with kind := m.kind, frm := m.frm, dst := m.dst, boot := m.boot, seq := m.seq }) (u' := (.slice none 0 0)) (UsSt.store (i := 3) (q' := { WM.zero with kind := m.kind, frm := m.frm, dst := m.dst, boot := m.boot }) (u' := (.slice none 0 0)) HT.out rfl) rfl) rfl) rfl) rfl)
  clear HT c0 c1 c2' c3 c4 c5 c6 c7 c8 c9 c10 c11 c12 c13 c14 c15 o0 o1 o2 o3 o4 o5 o6 o7 o8 o9 o10 o11 o12 o13 o14 o15 f3 f4 f5 f6 f10
  generalize (((((w3.setCell ⟨w.heap.size + 1 + 1, 3, none⟩ (.int .i64 m.boot)).setCell ⟨w.heap.size + 1 + 1, 4, none⟩ (.int .i64 m.seq)).setCell ⟨w.heap.size + 1 + 1, 5, none⟩ (.int .i64 m.low)).setCell ⟨w.heap.size + 1 + 1, 6, none⟩ (.int .i64 3)).setCell ⟨w.heap.size + 1 + 1, 10, none⟩ (.int .i64 m.id)) = w4 at HT2 ⊢
  have HD := Lib.hid (show MsgBlk (w4.setRow (w.heap.size + 1) (cellsM { WM.zero with kind := m.kind, frm := m.frm, dst := m.dst, boot := m.boot, seq := m.seq, low := m.low, verb := 3, id := m.id } (.slice none 0 0))) (w.heap.size + 1) { WM.zero with kind := m.kind, frm := m.frm, dst := m.dst, boot := m.boot, seq := m.seq, low := m.low, verb := 3, id := m.id } (.slice none 0 0) ∧ Used6 w A c m (.returned (.agg (cellsM { WM.zero with kind := m.kind, frm := m.frm, dst := m.dst, boot := m.boot, seq := m.seq, low := m.low, verb := 3, id := m.id } (.slice none 0 0)))) (w4.setRow (w.heap.size + 1) (cellsM { WM.zero with kind := m.kind, frm := m.frm, dst := m.dst, boot := m.boot, seq := m.seq, low := m.low, verb := 3, id := m.id } (.slice none 0 0))) from UsSt.done (A' := none) (c' := 0) HF.out HT2.out HU.out HUA.out)
  have HLD := Lib.hid (msg_range HT2.out.ko)
  have HKZ := Lib.hid HT2.out.kz
  skip
  go_wp2_with (first | (refine wpList_load_mid rfl 28 (.tmp 3) rfl (w.heap.size + 1 + 1) 0 rfl (cellsM { WM.zero with kind := m.kind, frm := m.frm, dst := m.dst, boot := m.boot, seq := m.seq, low := m.low, verb := 3, id := m.id } (.slice none 0 0)).toList _ HLD.out Try.underlying28 rfl (by kernel_rfl) ?_) | (refine wpList_store_row rfl 28 (.tmp 2) (.tmp 103) rfl (w.heap.size + 1) (cellsM { WM.zero with kind := m.kind, frm := m.frm, dst := m.dst, boot := m.boot, seq := m.seq, low := m.low, verb := 3, id := m.id } (.slice none 0 0)) rfl rfl 28 _ HKZ.out (by kernel_rfl) rfl (by simp [cellsM, Value.oneCell']) ?_))
  generalize World.setRow _ _ _ = w6 at HD ⊢
  obtain ⟨c0, c1, c2', c3, c4, c5, c6, c7, c8, c9, c10, c11, c12, c13, c14, c15⟩ := msg_cells HD.out.1
  change bodyPost Try.prog _ _ Exit.ret _ _
  refine bodyPost_ret (v := .agg (cellsM { WM.zero with kind := m.kind, frm := m.frm, dst := m.dst, boot := m.boot, seq := m.seq, low := m.low, verb := 3, id := m.id } (.slice none 0 0))) (by simp [results, Try.results28, go_sem, c0, c1, c2', c3, c4, c5, c6, c7, c8, c9, c10, c11, c12, c13, c14, c15, cellsM]) rfl ?_
  exact HD.out.2
set_option maxHeartbeats 8000000 in
theorem us6_1d (A : Option Addr) (c : Nat) (m : Msg) (w : World) (hf : Fit6 w A c m) (hk : m.kind = 1) (hv : m.verb ≠ 1 ∧ m.verb ≠ 2 ∧ m.verb ≠ 3) :
    Calls Try.prog 28 #[.agg (cellsM m (.slice A m.stamp.length c))] w (Used6 w A c m) := by
  have HF := Lib.hid hf
  clear hf
  have HHK := Lib.hid hk
  clear hk
  have HHV := Lib.hid hv
  clear hv
  have HX := Lib.hid (((Below.refl _ w).alloc (Nat.le_refl _) (.cells (cellsM m (.slice A m.stamp.length c)) 28)).alloc (by simp) (.cells #[.int .i64 0, .int .i64 0, .int .i64 0, .int .i64 0, .int .i64 0, .int .i64 0, .int .i64 0, .string ⟨#[]⟩, .int .i64 0, .int .i64 0, .int .i64 0, .bool false, .int .i64 0, .slice none 0 0, .int .i64 0, .int .i64 0] 28))
  have HK := Lib.hid (show MsgBlk ((w.alloc (.cells (cellsM m (.slice A m.stamp.length c)) 28)).alloc (.cells #[.int .i64 0, .int .i64 0, .int .i64 0, .int .i64 0, .int .i64 0, .int .i64 0, .int .i64 0, .string ⟨#[]⟩, .int .i64 0, .int .i64 0, .int .i64 0, .bool false, .int .i64 0, .slice none 0 0, .int .i64 0, .int .i64 0] 28)) w.heap.size m (.slice A m.stamp.length c) from (Whole.new w 28 (cellsM m (.slice A m.stamp.length c))).alloc (.cells #[.int .i64 0, .int .i64 0, .int .i64 0, .int .i64 0, .int .i64 0, .int .i64 0, .int .i64 0, .string ⟨#[]⟩, .int .i64 0, .int .i64 0, .int .i64 0, .bool false, .int .i64 0, .slice none 0 0, .int .i64 0, .int .i64 0] 28))
  have HZ := Lib.hid (show MsgBlk ((w.alloc (.cells (cellsM m (.slice A m.stamp.length c)) 28)).alloc (.cells #[.int .i64 0, .int .i64 0, .int .i64 0, .int .i64 0, .int .i64 0, .int .i64 0, .int .i64 0, .string ⟨#[]⟩, .int .i64 0, .int .i64 0, .int .i64 0, .bool false, .int .i64 0, .slice none 0 0, .int .i64 0, .int .i64 0] 28)) (w.heap.size + 1) WM.zero (.slice none 0 0) from by have h := Whole.new (w.alloc (.cells (cellsM m (.slice A m.stamp.length c)) 28)) 28 (cellsM WM.zero (.slice none 0 0)); have e : (w.alloc (.cells (cellsM m (.slice A m.stamp.length c)) 28)).heap.size = w.heap.size + 1 := (by simp); rw [e] at h; exact h)
  have HS := Lib.hid (show ((w.alloc (.cells (cellsM m (.slice A m.stamp.length c)) 28)).alloc (.cells #[.int .i64 0, .int .i64 0, .int .i64 0, .int .i64 0, .int .i64 0, .int .i64 0, .int .i64 0, .string ⟨#[]⟩, .int .i64 0, .int .i64 0, .int .i64 0, .bool false, .int .i64 0, .slice none 0 0, .int .i64 0, .int .i64 0] 28)).heap.size = w.heap.size + 1 + 1 by simp)
  go_enter Try.func28, Try.ntmps28
  go_upto_region 1 with (fail)
  generalize (w.alloc (.cells (cellsM m (.slice A m.stamp.length c)) 28)).alloc (.cells #[.int .i64 0, .int .i64 0, .int .i64 0, .int .i64 0, .int .i64 0, .int .i64 0, .int .i64 0, .string ⟨#[]⟩, .int .i64 0, .int .i64 0, .int .i64 0, .bool false, .int .i64 0, .slice none 0 0, .int .i64 0, .int .i64 0] 28) = wa at HX HK HZ HS ⊢
  obtain ⟨c0, c1, c2', c3, c4, c5, c6, c7, c8, c9, c10, c11, c12, c13, c14, c15⟩ := msg_cells HK.out
  have HNW := Lib.hid (show MsgBlk (wa.alloc (.cells (cellsM WM.zero (.slice none 0 0)) 28)) wa.heap.size WM.zero (.slice none 0 0) from Whole.new wa _ _)
  have HT := Lib.hid (UsSt.start HS.out HX.out HK.out HZ.out { WM.zero with kind := m.kind, frm := m.frm, dst := m.dst } (.slice none 0 0))
  unfold cellsM WM.zero at HNW
  rw [show cellsM WM.zero (.slice none 0 0) = #[.int .i64 0, .int .i64 0, .int .i64 0, .int .i64 0, .int .i64 0, .int .i64 0, .int .i64 0, .string ⟨#[]⟩, .int .i64 0, .int .i64 0, .int .i64 0, .bool false, .int .i64 0, .slice none 0 0, .int .i64 0, .int .i64 0] from rfl, ← HS.out] at HT
  rw [show cellsM { WM.zero with kind := m.kind, frm := m.frm, dst := m.dst } (.slice none 0 0) = #[.int .i64 m.kind, .int .i64 m.frm, .int .i64 m.dst, .int .i64 0, .int .i64 0, .int .i64 0, .int .i64 0, .string ⟨#[]⟩, .int .i64 0, .int .i64 0, .int .i64 0, .bool false, .int .i64 0, .slice none 0 0, .int .i64 0, .int .i64 0] from rfl] at HT
  clear HX HK HZ
  go_upto_region 2 with (refine wpList_store_row rfl 28 (.tmp 3) (.tmp 10) rfl wa.heap.size #[.int .i64 m.kind, .int .i64 m.frm, .int .i64 m.dst, .int .i64 0, .int .i64 0, .int .i64 0, .int .i64 0, .string ⟨#[]⟩, .int .i64 0, .int .i64 0, .int .i64 0, .bool false, .int .i64 0, .slice none 0 0, .int .i64 0, .int .i64 0] rfl rfl 28 _ HNW.out (by kernel_rfl) rfl (by simp [Value.oneCell']) ?_)
  generalize World.setRow _ _ _ = w3 at HT ⊢
  rw [HS.out]
  clear HNW HS c0 c1 c2' c3 c4 c5 c6 c7 c8 c9 c10 c11 c12 c13 c14 c15
  obtain ⟨c0, c1, c2', c3, c4, c5, c6, c7, c8, c9, c10, c11, c12, c13, c14, c15⟩ := msg_cells HT.out.kr
  have hk := HHK.out
  have hv := HHV.out
  have HU := Lib.hid (show WM.used m = { WM.zero with kind := m.kind, frm := m.frm, dst := m.dst, boot := m.boot, seq := m.seq, low := m.low, verb := m.verb, id := m.id, term := m.term } by unfold WM.used; simp [hk, hv])
  have HUA := Lib.hid (show ua m A = none ∧ uc m c = 0 by unfold ua uc; simp [hk, hv])
  rw [hk] at c0
  clear hk
  obtain ⟨h1, h2, h3⟩ := hv
  have v1 : (m.verb == 1) = false := by simpa using h1
  have v2 : (m.verb == 2) = false := by simpa using h2
  have v3 : (m.verb != 3) = true := by simpa using h3
  clear h1 h2 h3
  obtain ⟨o0, o1, o2, o3, o4, o5, o6, o7, o8, o9, o10, o11, o12, o13, o14, o15⟩ := msg_cells HT.out.ko
  have f3 := HT.out.ko.frozen 3
  have f4 := HT.out.ko.frozen 4
  have f5 := HT.out.ko.frozen 5
  have f6 := HT.out.ko.frozen 6
  have f10 := HT.out.ko.frozen 10
  have f9 := HT.out.ko.frozen 9
  go_upto_region 35 with (fail)
  have HT2 := Lib.hid (UsSt.store (i := 9) (q' := { WM.zero with kind := m.kind, frm := m.frm, dst := m.dst, boot := m.boot, seq := m.seq, low := m.low, verb := m.verb, id := m.id, term := m.term }) (u' := (.slice none 0 0)) (UsSt.store (i := 10) (q' := { WM.zero with kind := m.kind, frm := m.frm, dst := m.dst, boot := m.boot, seq := m.seq, low := m.low, verb := m.verb, id := m.id }) (u' := (.slice none 0 0)) (UsSt.store (i := 6) (q' := { WM.zero with kind := m.kind, frm := m.frm, dst := m.dst, boot := m.boot, seq := m.seq, low := m.low, verb := m.verb }) (u' := (.slice none 0 0)) (UsSt.store (i := 5) (q' := { WM.zero with kind := m.kind, frm := m.frm, dst := m.dst, boot := m.boot, seq := m.seq, low := m.low }) (u' := (.slice none 0 0)) (UsSt.store (i := 4) (q' := { WM.zero with kind := m.kind, frm := m.frm, dst := m.dst, boot := m.boot, seq := m.seq }) (u' := (.slice none 0 0)) (UsSt.store (i := 3) (q' := { WM.zero with kind := m.kind, frm := m.frm, dst := m.dst, boot := m.boot }) (u' := (.slice none 0 0)) HT.out rfl) rfl) rfl) rfl) rfl) rfl)
  clear HT c0 c1 c2' c3 c4 c5 c6 c7 c8 c9 c10 c11 c12 c13 c14 c15 o0 o1 o2 o3 o4 o5 o6 o7 o8 o9 o10 o11 o12 o13 o14 o15 f3 f4 f5 f6 f10 f9
  generalize ((((((w3.setCell ⟨w.heap.size + 1 + 1, 3, none⟩ (.int .i64 m.boot)).setCell ⟨w.heap.size + 1 + 1, 4, none⟩ (.int .i64 m.seq)).setCell ⟨w.heap.size + 1 + 1, 5, none⟩ (.int .i64 m.low)).setCell ⟨w.heap.size + 1 + 1, 6, none⟩ (.int .i64 m.verb)).setCell ⟨w.heap.size + 1 + 1, 10, none⟩ (.int .i64 m.id)).setCell ⟨w.heap.size + 1 + 1, 9, none⟩ (.int .i64 m.term)) = w4 at HT2 ⊢
  have HD := Lib.hid (show MsgBlk (w4.setRow (w.heap.size + 1) (cellsM { WM.zero with kind := m.kind, frm := m.frm, dst := m.dst, boot := m.boot, seq := m.seq, low := m.low, verb := m.verb, id := m.id, term := m.term } (.slice none 0 0))) (w.heap.size + 1) { WM.zero with kind := m.kind, frm := m.frm, dst := m.dst, boot := m.boot, seq := m.seq, low := m.low, verb := m.verb, id := m.id, term := m.term } (.slice none 0 0) ∧ Used6 w A c m (.returned (.agg (cellsM { WM.zero with kind := m.kind, frm := m.frm, dst := m.dst, boot := m.boot, seq := m.seq, low := m.low, verb := m.verb, id := m.id, term := m.term } (.slice none 0 0)))) (w4.setRow (w.heap.size + 1) (cellsM { WM.zero with kind := m.kind, frm := m.frm, dst := m.dst, boot := m.boot, seq := m.seq, low := m.low, verb := m.verb, id := m.id, term := m.term } (.slice none 0 0))) from UsSt.done (A' := none) (c' := 0) HF.out HT2.out HU.out HUA.out)
  have HLD := Lib.hid (msg_range HT2.out.ko)
  have HKZ := Lib.hid HT2.out.kz
  skip
  go_wp2_with (first | (refine wpList_load_mid rfl 28 (.tmp 3) rfl (w.heap.size + 1 + 1) 0 rfl (cellsM { WM.zero with kind := m.kind, frm := m.frm, dst := m.dst, boot := m.boot, seq := m.seq, low := m.low, verb := m.verb, id := m.id, term := m.term } (.slice none 0 0)).toList _ HLD.out Try.underlying28 rfl (by kernel_rfl) ?_) | (refine wpList_store_row rfl 28 (.tmp 2) (.tmp 103) rfl (w.heap.size + 1) (cellsM { WM.zero with kind := m.kind, frm := m.frm, dst := m.dst, boot := m.boot, seq := m.seq, low := m.low, verb := m.verb, id := m.id, term := m.term } (.slice none 0 0)) rfl rfl 28 _ HKZ.out (by kernel_rfl) rfl (by simp [cellsM, Value.oneCell']) ?_))
  generalize World.setRow _ _ _ = w6 at HD ⊢
  obtain ⟨c0, c1, c2', c3, c4, c5, c6, c7, c8, c9, c10, c11, c12, c13, c14, c15⟩ := msg_cells HD.out.1
  change bodyPost Try.prog _ _ Exit.ret _ _
  refine bodyPost_ret (v := .agg (cellsM { WM.zero with kind := m.kind, frm := m.frm, dst := m.dst, boot := m.boot, seq := m.seq, low := m.low, verb := m.verb, id := m.id, term := m.term } (.slice none 0 0))) (by simp [results, Try.results28, go_sem, c0, c1, c2', c3, c4, c5, c6, c7, c8, c9, c10, c11, c12, c13, c14, c15, cellsM]) rfl ?_
  exact HD.out.2
set_option maxHeartbeats 8000000 in
theorem us6_2a (A : Option Addr) (c : Nat) (m : Msg) (w : World) (hf : Fit6 w A c m) (hk : m.kind = 2) (hv : m.code = 0) :
    Calls Try.prog 28 #[.agg (cellsM m (.slice A m.stamp.length c))] w (Used6 w A c m) := by
  have HF := Lib.hid hf
  clear hf
  have HHK := Lib.hid hk
  clear hk
  have HHV := Lib.hid hv
  clear hv
  have HX := Lib.hid (((Below.refl _ w).alloc (Nat.le_refl _) (.cells (cellsM m (.slice A m.stamp.length c)) 28)).alloc (by simp) (.cells #[.int .i64 0, .int .i64 0, .int .i64 0, .int .i64 0, .int .i64 0, .int .i64 0, .int .i64 0, .string ⟨#[]⟩, .int .i64 0, .int .i64 0, .int .i64 0, .bool false, .int .i64 0, .slice none 0 0, .int .i64 0, .int .i64 0] 28))
  have HK := Lib.hid (show MsgBlk ((w.alloc (.cells (cellsM m (.slice A m.stamp.length c)) 28)).alloc (.cells #[.int .i64 0, .int .i64 0, .int .i64 0, .int .i64 0, .int .i64 0, .int .i64 0, .int .i64 0, .string ⟨#[]⟩, .int .i64 0, .int .i64 0, .int .i64 0, .bool false, .int .i64 0, .slice none 0 0, .int .i64 0, .int .i64 0] 28)) w.heap.size m (.slice A m.stamp.length c) from (Whole.new w 28 (cellsM m (.slice A m.stamp.length c))).alloc (.cells #[.int .i64 0, .int .i64 0, .int .i64 0, .int .i64 0, .int .i64 0, .int .i64 0, .int .i64 0, .string ⟨#[]⟩, .int .i64 0, .int .i64 0, .int .i64 0, .bool false, .int .i64 0, .slice none 0 0, .int .i64 0, .int .i64 0] 28))
  have HZ := Lib.hid (show MsgBlk ((w.alloc (.cells (cellsM m (.slice A m.stamp.length c)) 28)).alloc (.cells #[.int .i64 0, .int .i64 0, .int .i64 0, .int .i64 0, .int .i64 0, .int .i64 0, .int .i64 0, .string ⟨#[]⟩, .int .i64 0, .int .i64 0, .int .i64 0, .bool false, .int .i64 0, .slice none 0 0, .int .i64 0, .int .i64 0] 28)) (w.heap.size + 1) WM.zero (.slice none 0 0) from by have h := Whole.new (w.alloc (.cells (cellsM m (.slice A m.stamp.length c)) 28)) 28 (cellsM WM.zero (.slice none 0 0)); have e : (w.alloc (.cells (cellsM m (.slice A m.stamp.length c)) 28)).heap.size = w.heap.size + 1 := (by simp); rw [e] at h; exact h)
  have HS := Lib.hid (show ((w.alloc (.cells (cellsM m (.slice A m.stamp.length c)) 28)).alloc (.cells #[.int .i64 0, .int .i64 0, .int .i64 0, .int .i64 0, .int .i64 0, .int .i64 0, .int .i64 0, .string ⟨#[]⟩, .int .i64 0, .int .i64 0, .int .i64 0, .bool false, .int .i64 0, .slice none 0 0, .int .i64 0, .int .i64 0] 28)).heap.size = w.heap.size + 1 + 1 by simp)
  go_enter Try.func28, Try.ntmps28
  go_upto_region 1 with (fail)
  generalize (w.alloc (.cells (cellsM m (.slice A m.stamp.length c)) 28)).alloc (.cells #[.int .i64 0, .int .i64 0, .int .i64 0, .int .i64 0, .int .i64 0, .int .i64 0, .int .i64 0, .string ⟨#[]⟩, .int .i64 0, .int .i64 0, .int .i64 0, .bool false, .int .i64 0, .slice none 0 0, .int .i64 0, .int .i64 0] 28) = wa at HX HK HZ HS ⊢
  obtain ⟨c0, c1, c2', c3, c4, c5, c6, c7, c8, c9, c10, c11, c12, c13, c14, c15⟩ := msg_cells HK.out
  have HNW := Lib.hid (show MsgBlk (wa.alloc (.cells (cellsM WM.zero (.slice none 0 0)) 28)) wa.heap.size WM.zero (.slice none 0 0) from Whole.new wa _ _)
  have HT := Lib.hid (UsSt.start HS.out HX.out HK.out HZ.out { WM.zero with kind := m.kind, frm := m.frm, dst := m.dst } (.slice none 0 0))
  unfold cellsM WM.zero at HNW
  rw [show cellsM WM.zero (.slice none 0 0) = #[.int .i64 0, .int .i64 0, .int .i64 0, .int .i64 0, .int .i64 0, .int .i64 0, .int .i64 0, .string ⟨#[]⟩, .int .i64 0, .int .i64 0, .int .i64 0, .bool false, .int .i64 0, .slice none 0 0, .int .i64 0, .int .i64 0] from rfl, ← HS.out] at HT
  rw [show cellsM { WM.zero with kind := m.kind, frm := m.frm, dst := m.dst } (.slice none 0 0) = #[.int .i64 m.kind, .int .i64 m.frm, .int .i64 m.dst, .int .i64 0, .int .i64 0, .int .i64 0, .int .i64 0, .string ⟨#[]⟩, .int .i64 0, .int .i64 0, .int .i64 0, .bool false, .int .i64 0, .slice none 0 0, .int .i64 0, .int .i64 0] from rfl] at HT
  clear HX HK HZ
  go_upto_region 2 with (refine wpList_store_row rfl 28 (.tmp 3) (.tmp 10) rfl wa.heap.size #[.int .i64 m.kind, .int .i64 m.frm, .int .i64 m.dst, .int .i64 0, .int .i64 0, .int .i64 0, .int .i64 0, .string ⟨#[]⟩, .int .i64 0, .int .i64 0, .int .i64 0, .bool false, .int .i64 0, .slice none 0 0, .int .i64 0, .int .i64 0] rfl rfl 28 _ HNW.out (by kernel_rfl) rfl (by simp [Value.oneCell']) ?_)
  generalize World.setRow _ _ _ = w3 at HT ⊢
  rw [HS.out]
  clear HNW HS c0 c1 c2' c3 c4 c5 c6 c7 c8 c9 c10 c11 c12 c13 c14 c15
  obtain ⟨c0, c1, c2', c3, c4, c5, c6, c7, c8, c9, c10, c11, c12, c13, c14, c15⟩ := msg_cells HT.out.kr
  have hk := HHK.out
  have hv := HHV.out
  have HU := Lib.hid (show WM.used m = { WM.zero with kind := m.kind, frm := m.frm, dst := m.dst, boot := m.boot, seq := m.seq, code := 0, id := m.id, term := m.term, stamp := m.stamp } by unfold WM.used; simp [hk, hv])
  have HUA := Lib.hid (show ua m A = A ∧ uc m c = c by unfold ua uc; simp [hk, hv])
  rw [hk] at c0
  clear hk
  rw [hv] at c12
  clear hv
  obtain ⟨o0, o1, o2, o3, o4, o5, o6, o7, o8, o9, o10, o11, o12, o13, o14, o15⟩ := msg_cells HT.out.ko
  have f3 := HT.out.ko.frozen 3
  have f4 := HT.out.ko.frozen 4
  have f12 := HT.out.ko.frozen 12
  have f10 := HT.out.ko.frozen 10
  have f9 := HT.out.ko.frozen 9
  have f13 := HT.out.ko.frozen 13
  go_upto_region 35 with (fail)
  have HT2 := Lib.hid (UsSt.store (i := 13) (q' := { WM.zero with kind := m.kind, frm := m.frm, dst := m.dst, boot := m.boot, seq := m.seq, code := 0, id := m.id, term := m.term, stamp := m.stamp }) (u' := (.slice A m.stamp.length c)) (UsSt.store (i := 9) (q' := { WM.zero with kind := m.kind, frm := m.frm, dst := m.dst, boot := m.boot, seq := m.seq, code := 0, id := m.id, term := m.term }) (u' := (.slice none 0 0)) (UsSt.store (i := 10) (q' := { WM.zero with kind := m.kind, frm := m.frm, dst := m.dst, boot := m.boot, seq := m.seq, code := 0, id := m.id }) (u' := (.slice none 0 0)) (UsSt.store (i := 12) (q' := { WM.zero with kind := m.kind, frm := m.frm, dst := m.dst, boot := m.boot, seq := m.seq, code := 0 }) (u' := (.slice none 0 0)) (UsSt.store (i := 4) (q' := { WM.zero with kind := m.kind, frm := m.frm, dst := m.dst, boot := m.boot, seq := m.seq }) (u' := (.slice none 0 0)) (UsSt.store (i := 3) (q' := { WM.zero with kind := m.kind, frm := m.frm, dst := m.dst, boot := m.boot }) (u' := (.slice none 0 0)) HT.out rfl) rfl) rfl) rfl) rfl) rfl)
  clear HT c0 c1 c2' c3 c4 c5 c6 c7 c8 c9 c10 c11 c12 c13 c14 c15 o0 o1 o2 o3 o4 o5 o6 o7 o8 o9 o10 o11 o12 o13 o14 o15 f3 f4 f12 f10 f9 f13
  generalize ((((((w3.setCell ⟨w.heap.size + 1 + 1, 3, none⟩ (.int .i64 m.boot)).setCell ⟨w.heap.size + 1 + 1, 4, none⟩ (.int .i64 m.seq)).setCell ⟨w.heap.size + 1 + 1, 12, none⟩ (.int .i64 0)).setCell ⟨w.heap.size + 1 + 1, 10, none⟩ (.int .i64 m.id)).setCell ⟨w.heap.size + 1 + 1, 9, none⟩ (.int .i64 m.term)).setCell ⟨w.heap.size + 1 + 1, 13, none⟩ (.slice A m.stamp.length c)) = w4 at HT2 ⊢
  have HD := Lib.hid (show MsgBlk (w4.setRow (w.heap.size + 1) (cellsM { WM.zero with kind := m.kind, frm := m.frm, dst := m.dst, boot := m.boot, seq := m.seq, code := 0, id := m.id, term := m.term, stamp := m.stamp } (.slice A m.stamp.length c))) (w.heap.size + 1) { WM.zero with kind := m.kind, frm := m.frm, dst := m.dst, boot := m.boot, seq := m.seq, code := 0, id := m.id, term := m.term, stamp := m.stamp } (.slice A m.stamp.length c) ∧ Used6 w A c m (.returned (.agg (cellsM { WM.zero with kind := m.kind, frm := m.frm, dst := m.dst, boot := m.boot, seq := m.seq, code := 0, id := m.id, term := m.term, stamp := m.stamp } (.slice A m.stamp.length c)))) (w4.setRow (w.heap.size + 1) (cellsM { WM.zero with kind := m.kind, frm := m.frm, dst := m.dst, boot := m.boot, seq := m.seq, code := 0, id := m.id, term := m.term, stamp := m.stamp } (.slice A m.stamp.length c))) from UsSt.done (A' := A) (c' := c) HF.out HT2.out HU.out HUA.out)
  have HLD := Lib.hid (msg_range HT2.out.ko)
  have HKZ := Lib.hid HT2.out.kz
  skip
  go_wp2_with (first | (refine wpList_load_mid rfl 28 (.tmp 3) rfl (w.heap.size + 1 + 1) 0 rfl (cellsM { WM.zero with kind := m.kind, frm := m.frm, dst := m.dst, boot := m.boot, seq := m.seq, code := 0, id := m.id, term := m.term, stamp := m.stamp } (.slice A m.stamp.length c)).toList _ HLD.out Try.underlying28 rfl (by kernel_rfl) ?_) | (refine wpList_store_row rfl 28 (.tmp 2) (.tmp 103) rfl (w.heap.size + 1) (cellsM { WM.zero with kind := m.kind, frm := m.frm, dst := m.dst, boot := m.boot, seq := m.seq, code := 0, id := m.id, term := m.term, stamp := m.stamp } (.slice A m.stamp.length c)) rfl rfl 28 _ HKZ.out (by kernel_rfl) rfl (by simp [cellsM, Value.oneCell']) ?_))
  generalize World.setRow _ _ _ = w6 at HD ⊢
  obtain ⟨c0, c1, c2', c3, c4, c5, c6, c7, c8, c9, c10, c11, c12, c13, c14, c15⟩ := msg_cells HD.out.1
  change bodyPost Try.prog _ _ Exit.ret _ _
  refine bodyPost_ret (v := .agg (cellsM { WM.zero with kind := m.kind, frm := m.frm, dst := m.dst, boot := m.boot, seq := m.seq, code := 0, id := m.id, term := m.term, stamp := m.stamp } (.slice A m.stamp.length c))) (by simp [results, Try.results28, go_sem, c0, c1, c2', c3, c4, c5, c6, c7, c8, c9, c10, c11, c12, c13, c14, c15, cellsM]) rfl ?_
  exact HD.out.2
end Go.Proofs.Ytboflkadabagfaa
namespace Go.Proofs.Ytboflkadabagfaa
open Go.RowKit
open Oct (BytesAt u8s)
open WM (Msg)
set_option linter.unusedVariables false
set_option linter.unusedSimpArgs false
set_option maxRecDepth 100000
set_option maxHeartbeats 8000000 in
theorem us6_2b (A : Option Addr) (c : Nat) (m : Msg) (w : World) (hf : Fit6 w A c m) (hk : m.kind = 2) (hv : m.code ≠ 0) :
    Calls Try.prog 28 #[.agg (cellsM m (.slice A m.stamp.length c))] w (Used6 w A c m) := by
  have HF := Lib.hid hf
  clear hf
  have HHK := Lib.hid hk
  clear hk
  have HHV := Lib.hid hv
  clear hv
  have HX := Lib.hid (((Below.refl _ w).alloc (Nat.le_refl _) (.cells (cellsM m (.slice A m.stamp.length c)) 28)).alloc (by simp) (.cells #[.int .i64 0, .int .i64 0, .int .i64 0, .int .i64 0, .int .i64 0, .int .i64 0, .int .i64 0, .string ⟨#[]⟩, .int .i64 0, .int .i64 0, .int .i64 0, .bool false, .int .i64 0, .slice none 0 0, .int .i64 0, .int .i64 0] 28))
  have HK := Lib.hid (show MsgBlk ((w.alloc (.cells (cellsM m (.slice A m.stamp.length c)) 28)).alloc (.cells #[.int .i64 0, .int .i64 0, .int .i64 0, .int .i64 0, .int .i64 0, .int .i64 0, .int .i64 0, .string ⟨#[]⟩, .int .i64 0, .int .i64 0, .int .i64 0, .bool false, .int .i64 0, .slice none 0 0, .int .i64 0, .int .i64 0] 28)) w.heap.size m (.slice A m.stamp.length c) from (Whole.new w 28 (cellsM m (.slice A m.stamp.length c))).alloc (.cells #[.int .i64 0, .int .i64 0, .int .i64 0, .int .i64 0, .int .i64 0, .int .i64 0, .int .i64 0, .string ⟨#[]⟩, .int .i64 0, .int .i64 0, .int .i64 0, .bool false, .int .i64 0, .slice none 0 0, .int .i64 0, .int .i64 0] 28))
  have HZ := Lib.hid (show MsgBlk ((w.alloc (.cells (cellsM m (.slice A m.stamp.length c)) 28)).alloc (.cells #[.int .i64 0, .int .i64 0, .int .i64 0, .int .i64 0, .int .i64 0, .int .i64 0, .int .i64 0, .string ⟨#[]⟩, .int .i64 0, .int .i64 0, .int .i64 0, .bool false, .int .i64 0, .slice none 0 0, .int .i64 0, .int .i64 0] 28)) (w.heap.size + 1) WM.zero (.slice none 0 0) from by have h := Whole.new (w.alloc (.cells (cellsM m (.slice A m.stamp.length c)) 28)) 28 (cellsM WM.zero (.slice none 0 0)); have e : (w.alloc (.cells (cellsM m (.slice A m.stamp.length c)) 28)).heap.size = w.heap.size + 1 := (by simp); rw [e] at h; exact h)
  have HS := Lib.hid (show ((w.alloc (.cells (cellsM m (.slice A m.stamp.length c)) 28)).alloc (.cells #[.int .i64 0, .int .i64 0, .int .i64 0, .int .i64 0, .int .i64 0, .int .i64 0, .int .i64 0, .string ⟨#[]⟩, .int .i64 0, .int .i64 0, .int .i64 0, .bool false, .int .i64 0, .slice none 0 0, .int .i64 0, .int .i64 0] 28)).heap.size = w.heap.size + 1 + 1 by simp)
  go_enter Try.func28, Try.ntmps28
  go_upto_region 1 with (fail)
  generalize (w.alloc (.cells (cellsM m (.slice A m.stamp.length c)) 28)).alloc (.cells #[.int .i64 0, .int .i64 0, .int .i64 0, .int .i64 0, .int .i64 0, .int .i64 0, .int .i64 0, .string ⟨#[]⟩, .int .i64 0, .int .i64 0, .int .i64 0, .bool false, .int .i64 0, .slice none 0 0, .int .i64 0, .int .i64 0] 28) = wa at HX HK HZ HS ⊢
  obtain ⟨c0, c1, c2', c3, c4, c5, c6, c7, c8, c9, c10, c11, c12, c13, c14, c15⟩ := msg_cells HK.out
  have HNW := Lib.hid (show MsgBlk (wa.alloc (.cells (cellsM WM.zero (.slice none 0 0)) 28)) wa.heap.size WM.zero (.slice none 0 0) from Whole.new wa _ _)
  have HT := Lib.hid (UsSt.start HS.out HX.out HK.out HZ.out { WM.zero with kind := m.kind, frm := m.frm, dst := m.dst } (.slice none 0 0))
  unfold cellsM WM.zero at HNW
  rw [show cellsM WM.zero (.slice none 0 0) = #[.int .i64 0, .int .i64 0, .int .i64 0, .int .i64 0, .int .i64 0, .int .i64 0, .int .i64 0, .string ⟨#[]⟩, .int .i64 0, .int .i64 0, .int .i64 0, .bool false, .int .i64 0, .slice none 0 0, .int .i64 0, .int .i64 0] from rfl, ← HS.out] at HT
  rw [show cellsM { WM.zero with kind := m.kind, frm := m.frm, dst := m.dst } (.slice none 0 0) = #[.int .i64 m.kind, .int .i64 m.frm, .int .i64 m.dst, .int .i64 0, .int .i64 0, .int .i64 0, .int .i64 0, .string ⟨#[]⟩, .int .i64 0, .int .i64 0, .int .i64 0, .bool false, .int .i64 0, .slice none 0 0, .int .i64 0, .int .i64 0] from rfl] at HT
  clear HX HK HZ
  go_upto_region 2 with (refine wpList_store_row rfl 28 (.tmp 3) (.tmp 10) rfl wa.heap.size #[.int .i64 m.kind, .int .i64 m.frm, .int .i64 m.dst, .int .i64 0, .int .i64 0, .int .i64 0, .int .i64 0, .string ⟨#[]⟩, .int .i64 0, .int .i64 0, .int .i64 0, .bool false, .int .i64 0, .slice none 0 0, .int .i64 0, .int .i64 0] rfl rfl 28 _ HNW.out (by kernel_rfl) rfl (by simp [Value.oneCell']) ?_)
  generalize World.setRow _ _ _ = w3 at HT ⊢
  rw [HS.out]
  clear HNW HS c0 c1 c2' c3 c4 c5 c6 c7 c8 c9 c10 c11 c12 c13 c14 c15
  obtain ⟨c0, c1, c2', c3, c4, c5, c6, c7, c8, c9, c10, c11, c12, c13, c14, c15⟩ := msg_cells HT.out.kr
  have hk := HHK.out
  have hv := HHV.out
  have HU := Lib.hid (show WM.used m = { WM.zero with kind := m.kind, frm := m.frm, dst := m.dst, boot := m.boot, seq := m.seq, code := m.code } by unfold WM.used; simp [hk, hv])
  have HUA := Lib.hid (show ua m A = none ∧ uc m c = 0 by unfold ua uc; simp [hk, hv])
  rw [hk] at c0
  clear hk
  have v1 : (m.code == 0) = false := by simpa using hv
  clear hv
  obtain ⟨o0, o1, o2, o3, o4, o5, o6, o7, o8, o9, o10, o11, o12, o13, o14, o15⟩ := msg_cells HT.out.ko
  have f3 := HT.out.ko.frozen 3
  have f4 := HT.out.ko.frozen 4
  have f12 := HT.out.ko.frozen 12
  go_upto_region 35 with (fail)
  have HT2 := Lib.hid (UsSt.store (i := 12) (q' := { WM.zero with kind := m.kind, frm := m.frm, dst := m.dst, boot := m.boot, seq := m.seq, code := m.code }) (u' := (.slice none 0 0)) (UsSt.store (i := 4) (q' := { WM.zero with kind := m.kind, frm := m.frm, dst := m.dst, boot := m.boot, seq := m.seq }) (u' := (.slice none 0 0)) (UsSt.store (i := 3) (q' := { WM.zero with kind := m.kind, frm := m.frm, dst := m.dst, boot := m.boot }) (u' := (.slice none 0 0)) HT.out rfl) rfl) rfl)
  clear HT c0 c1 c2' c3 c4 c5 c6 c7 c8 c9 c10 c11 c12 c13 c14 c15 o0 o1 o2 o3 o4 o5 o6 o7 o8 o9 o10 o11 o12 o13 o14 o15 f3 f4 f12
  generalize (((w3.setCell ⟨w.heap.size + 1 + 1, 3, none⟩ (.int .i64 m.boot)).setCell ⟨w.heap.size + 1 + 1, 4, none⟩ (.int .i64 m.seq)).setCell ⟨w.heap.size + 1 + 1, 12, none⟩ (.int .i64 m.code)) = w4 at HT2 ⊢
  have HD := Lib.hid (show MsgBlk (w4.setRow (w.heap.size + 1) (cellsM { WM.zero with kind := m.kind, frm := m.frm, dst := m.dst, boot := m.boot, seq := m.seq, code := m.code } (.slice none 0 0))) (w.heap.size + 1) { WM.zero with kind := m.kind, frm := m.frm, dst := m.dst, boot := m.boot, seq := m.seq, code := m.code } (.slice none 0 0) ∧ Used6 w A c m (.returned (.agg (cellsM { WM.zero with kind := m.kind, frm := m.frm, dst := m.dst, boot := m.boot, seq := m.seq, code := m.code } (.slice none 0 0)))) (w4.setRow (w.heap.size + 1) (cellsM { WM.zero with kind := m.kind, frm := m.frm, dst := m.dst, boot := m.boot, seq := m.seq, code := m.code } (.slice none 0 0))) from UsSt.done (A' := none) (c' := 0) HF.out HT2.out HU.out HUA.out)
  have HLD := Lib.hid (msg_range HT2.out.ko)
  have HKZ := Lib.hid HT2.out.kz
  skip
  go_wp2_with (first | (refine wpList_load_mid rfl 28 (.tmp 3) rfl (w.heap.size + 1 + 1) 0 rfl (cellsM { WM.zero with kind := m.kind, frm := m.frm, dst := m.dst, boot := m.boot, seq := m.seq, code := m.code } (.slice none 0 0)).toList _ HLD.out Try.underlying28 rfl (by kernel_rfl) ?_) | (refine wpList_store_row rfl 28 (.tmp 2) (.tmp 103) rfl (w.heap.size + 1) (cellsM { WM.zero with kind := m.kind, frm := m.frm, dst := m.dst, boot := m.boot, seq := m.seq, code := m.code } (.slice none 0 0)) rfl rfl 28 _ HKZ.out (by kernel_rfl) rfl (by simp [cellsM, Value.oneCell']) ?_))
  generalize World.setRow _ _ _ = w6 at HD ⊢
  obtain ⟨c0, c1, c2', c3, c4, c5, c6, c7, c8, c9, c10, c11, c12, c13, c14, c15⟩ := msg_cells HD.out.1
  change bodyPost Try.prog _ _ Exit.ret _ _
  refine bodyPost_ret (v := .agg (cellsM { WM.zero with kind := m.kind, frm := m.frm, dst := m.dst, boot := m.boot, seq := m.seq, code := m.code } (.slice none 0 0))) (by simp [results, Try.results28, go_sem, c0, c1, c2', c3, c4, c5, c6, c7, c8, c9, c10, c11, c12, c13, c14, c15, cellsM]) rfl ?_
  exact HD.out.2
set_option maxHeartbeats 8000000 in
theorem us6_3 (A : Option Addr) (c : Nat) (m : Msg) (w : World) (hf : Fit6 w A c m) (hk : m.kind = 3) :
    Calls Try.prog 28 #[.agg (cellsM m (.slice A m.stamp.length c))] w (Used6 w A c m) := by
  have HF := Lib.hid hf
  clear hf
  have HHK := Lib.hid hk
  clear hk
  have HX := Lib.hid (((Below.refl _ w).alloc (Nat.le_refl _) (.cells (cellsM m (.slice A m.stamp.length c)) 28)).alloc (by simp) (.cells #[.int .i64 0, .int .i64 0, .int .i64 0, .int .i64 0, .int .i64 0, .int .i64 0, .int .i64 0, .string ⟨#[]⟩, .int .i64 0, .int .i64 0, .int .i64 0, .bool false, .int .i64 0, .slice none 0 0, .int .i64 0, .int .i64 0] 28))
  have HK := Lib.hid (show MsgBlk ((w.alloc (.cells (cellsM m (.slice A m.stamp.length c)) 28)).alloc (.cells #[.int .i64 0, .int .i64 0, .int .i64 0, .int .i64 0, .int .i64 0, .int .i64 0, .int .i64 0, .string ⟨#[]⟩, .int .i64 0, .int .i64 0, .int .i64 0, .bool false, .int .i64 0, .slice none 0 0, .int .i64 0, .int .i64 0] 28)) w.heap.size m (.slice A m.stamp.length c) from (Whole.new w 28 (cellsM m (.slice A m.stamp.length c))).alloc (.cells #[.int .i64 0, .int .i64 0, .int .i64 0, .int .i64 0, .int .i64 0, .int .i64 0, .int .i64 0, .string ⟨#[]⟩, .int .i64 0, .int .i64 0, .int .i64 0, .bool false, .int .i64 0, .slice none 0 0, .int .i64 0, .int .i64 0] 28))
  have HZ := Lib.hid (show MsgBlk ((w.alloc (.cells (cellsM m (.slice A m.stamp.length c)) 28)).alloc (.cells #[.int .i64 0, .int .i64 0, .int .i64 0, .int .i64 0, .int .i64 0, .int .i64 0, .int .i64 0, .string ⟨#[]⟩, .int .i64 0, .int .i64 0, .int .i64 0, .bool false, .int .i64 0, .slice none 0 0, .int .i64 0, .int .i64 0] 28)) (w.heap.size + 1) WM.zero (.slice none 0 0) from by have h := Whole.new (w.alloc (.cells (cellsM m (.slice A m.stamp.length c)) 28)) 28 (cellsM WM.zero (.slice none 0 0)); have e : (w.alloc (.cells (cellsM m (.slice A m.stamp.length c)) 28)).heap.size = w.heap.size + 1 := (by simp); rw [e] at h; exact h)
  have HS := Lib.hid (show ((w.alloc (.cells (cellsM m (.slice A m.stamp.length c)) 28)).alloc (.cells #[.int .i64 0, .int .i64 0, .int .i64 0, .int .i64 0, .int .i64 0, .int .i64 0, .int .i64 0, .string ⟨#[]⟩, .int .i64 0, .int .i64 0, .int .i64 0, .bool false, .int .i64 0, .slice none 0 0, .int .i64 0, .int .i64 0] 28)).heap.size = w.heap.size + 1 + 1 by simp)
  go_enter Try.func28, Try.ntmps28
  go_upto_region 1 with (fail)
  generalize (w.alloc (.cells (cellsM m (.slice A m.stamp.length c)) 28)).alloc (.cells #[.int .i64 0, .int .i64 0, .int .i64 0, .int .i64 0, .int .i64 0, .int .i64 0, .int .i64 0, .string ⟨#[]⟩, .int .i64 0, .int .i64 0, .int .i64 0, .bool false, .int .i64 0, .slice none 0 0, .int .i64 0, .int .i64 0] 28) = wa at HX HK HZ HS ⊢
  obtain ⟨c0, c1, c2', c3, c4, c5, c6, c7, c8, c9, c10, c11, c12, c13, c14, c15⟩ := msg_cells HK.out
  have HNW := Lib.hid (show MsgBlk (wa.alloc (.cells (cellsM WM.zero (.slice none 0 0)) 28)) wa.heap.size WM.zero (.slice none 0 0) from Whole.new wa _ _)
  have HT := Lib.hid (UsSt.start HS.out HX.out HK.out HZ.out { WM.zero with kind := m.kind, frm := m.frm, dst := m.dst } (.slice none 0 0))
  unfold cellsM WM.zero at HNW
  rw [show cellsM WM.zero (.slice none 0 0) = #[.int .i64 0, .int .i64 0, .int .i64 0, .int .i64 0, .int .i64 0, .int .i64 0, .int .i64 0, .string ⟨#[]⟩, .int .i64 0, .int .i64 0, .int .i64 0, .bool false, .int .i64 0, .slice none 0 0, .int .i64 0, .int .i64 0] from rfl, ← HS.out] at HT
  rw [show cellsM { WM.zero with kind := m.kind, frm := m.frm, dst := m.dst } (.slice none 0 0) = #[.int .i64 m.kind, .int .i64 m.frm, .int .i64 m.dst, .int .i64 0, .int .i64 0, .int .i64 0, .int .i64 0, .string ⟨#[]⟩, .int .i64 0, .int .i64 0, .int .i64 0, .bool false, .int .i64 0, .slice none 0 0, .int .i64 0, .int .i64 0] from rfl] at HT
  clear HX HK HZ
  go_upto_region 2 with (refine wpList_store_row rfl 28 (.tmp 3) (.tmp 10) rfl wa.heap.size #[.int .i64 m.kind, .int .i64 m.frm, .int .i64 m.dst, .int .i64 0, .int .i64 0, .int .i64 0, .int .i64 0, .string ⟨#[]⟩, .int .i64 0, .int .i64 0, .int .i64 0, .bool false, .int .i64 0, .slice none 0 0, .int .i64 0, .int .i64 0] rfl rfl 28 _ HNW.out (by kernel_rfl) rfl (by simp [Value.oneCell']) ?_)
  generalize World.setRow _ _ _ = w3 at HT ⊢
  rw [HS.out]
  clear HNW HS c0 c1 c2' c3 c4 c5 c6 c7 c8 c9 c10 c11 c12 c13 c14 c15
  obtain ⟨c0, c1, c2', c3, c4, c5, c6, c7, c8, c9, c10, c11, c12, c13, c14, c15⟩ := msg_cells HT.out.kr
  have hk := HHK.out
  have HU := Lib.hid (show WM.used m = { WM.zero with kind := m.kind, frm := m.frm, dst := m.dst, id := m.id, origin := m.origin, number := m.number, path := m.path } by unfold WM.used; simp [hk])
  have HUA := Lib.hid (show ua m A = none ∧ uc m c = 0 by unfold ua uc; simp [hk])
  rw [hk] at c0
  clear hk
  obtain ⟨o0, o1, o2, o3, o4, o5, o6, o7, o8, o9, o10, o11, o12, o13, o14, o15⟩ := msg_cells HT.out.ko
  have f10 := HT.out.ko.frozen 10
  have f14 := HT.out.ko.frozen 14
  have f15 := HT.out.ko.frozen 15
  have f7 := HT.out.ko.frozen 7
  go_upto_region 35 with (fail)
  have HT2 := Lib.hid (UsSt.store (i := 7) (q' := { WM.zero with kind := m.kind, frm := m.frm, dst := m.dst, id := m.id, origin := m.origin, number := m.number, path := m.path }) (u' := (.slice none 0 0)) (UsSt.store (i := 15) (q' := { WM.zero with kind := m.kind, frm := m.frm, dst := m.dst, id := m.id, origin := m.origin, number := m.number }) (u' := (.slice none 0 0)) (UsSt.store (i := 14) (q' := { WM.zero with kind := m.kind, frm := m.frm, dst := m.dst, id := m.id, origin := m.origin }) (u' := (.slice none 0 0)) (UsSt.store (i := 10) (q' := { WM.zero with kind := m.kind, frm := m.frm, dst := m.dst, id := m.id }) (u' := (.slice none 0 0)) HT.out rfl) rfl) rfl) rfl)
  clear HT c0 c1 c2' c3 c4 c5 c6 c7 c8 c9 c10 c11 c12 c13 c14 c15 o0 o1 o2 o3 o4 o5 o6 o7 o8 o9 o10 o11 o12 o13 o14 o15 f10 f14 f15 f7
  generalize ((((w3.setCell ⟨w.heap.size + 1 + 1, 10, none⟩ (.int .i64 m.id)).setCell ⟨w.heap.size + 1 + 1, 14, none⟩ (.int .i64 m.origin)).setCell ⟨w.heap.size + 1 + 1, 15, none⟩ (.int .i64 m.number)).setCell ⟨w.heap.size + 1 + 1, 7, none⟩ (.string m.path)) = w4 at HT2 ⊢
  have HD := Lib.hid (show MsgBlk (w4.setRow (w.heap.size + 1) (cellsM { WM.zero with kind := m.kind, frm := m.frm, dst := m.dst, id := m.id, origin := m.origin, number := m.number, path := m.path } (.slice none 0 0))) (w.heap.size + 1) { WM.zero with kind := m.kind, frm := m.frm, dst := m.dst, id := m.id, origin := m.origin, number := m.number, path := m.path } (.slice none 0 0) ∧ Used6 w A c m (.returned (.agg (cellsM { WM.zero with kind := m.kind, frm := m.frm, dst := m.dst, id := m.id, origin := m.origin, number := m.number, path := m.path } (.slice none 0 0)))) (w4.setRow (w.heap.size + 1) (cellsM { WM.zero with kind := m.kind, frm := m.frm, dst := m.dst, id := m.id, origin := m.origin, number := m.number, path := m.path } (.slice none 0 0))) from UsSt.done (A' := none) (c' := 0) HF.out HT2.out HU.out HUA.out)
  have HLD := Lib.hid (msg_range HT2.out.ko)
  have HKZ := Lib.hid HT2.out.kz
  skip
  go_wp2_with (first | (refine wpList_load_mid rfl 28 (.tmp 3) rfl (w.heap.size + 1 + 1) 0 rfl (cellsM { WM.zero with kind := m.kind, frm := m.frm, dst := m.dst, id := m.id, origin := m.origin, number := m.number, path := m.path } (.slice none 0 0)).toList _ HLD.out Try.underlying28 rfl (by kernel_rfl) ?_) | (refine wpList_store_row rfl 28 (.tmp 2) (.tmp 103) rfl (w.heap.size + 1) (cellsM { WM.zero with kind := m.kind, frm := m.frm, dst := m.dst, id := m.id, origin := m.origin, number := m.number, path := m.path } (.slice none 0 0)) rfl rfl 28 _ HKZ.out (by kernel_rfl) rfl (by simp [cellsM, Value.oneCell']) ?_))
  generalize World.setRow _ _ _ = w6 at HD ⊢
  obtain ⟨c0, c1, c2', c3, c4, c5, c6, c7, c8, c9, c10, c11, c12, c13, c14, c15⟩ := msg_cells HD.out.1
  change bodyPost Try.prog _ _ Exit.ret _ _
  refine bodyPost_ret (v := .agg (cellsM { WM.zero with kind := m.kind, frm := m.frm, dst := m.dst, id := m.id, origin := m.origin, number := m.number, path := m.path } (.slice none 0 0))) (by simp [results, Try.results28, go_sem, c0, c1, c2', c3, c4, c5, c6, c7, c8, c9, c10, c11, c12, c13, c14, c15, cellsM]) rfl ?_
  exact HD.out.2
set_option maxHeartbeats 8000000 in
theorem us6_4 (A : Option Addr) (c : Nat) (m : Msg) (w : World) (hf : Fit6 w A c m) (hk : m.kind = 4) :
    Calls Try.prog 28 #[.agg (cellsM m (.slice A m.stamp.length c))] w (Used6 w A c m) := by
  have HF := Lib.hid hf
  clear hf
  have HHK := Lib.hid hk
  clear hk
  have HX := Lib.hid (((Below.refl _ w).alloc (Nat.le_refl _) (.cells (cellsM m (.slice A m.stamp.length c)) 28)).alloc (by simp) (.cells #[.int .i64 0, .int .i64 0, .int .i64 0, .int .i64 0, .int .i64 0, .int .i64 0, .int .i64 0, .string ⟨#[]⟩, .int .i64 0, .int .i64 0, .int .i64 0, .bool false, .int .i64 0, .slice none 0 0, .int .i64 0, .int .i64 0] 28))
  have HK := Lib.hid (show MsgBlk ((w.alloc (.cells (cellsM m (.slice A m.stamp.length c)) 28)).alloc (.cells #[.int .i64 0, .int .i64 0, .int .i64 0, .int .i64 0, .int .i64 0, .int .i64 0, .int .i64 0, .string ⟨#[]⟩, .int .i64 0, .int .i64 0, .int .i64 0, .bool false, .int .i64 0, .slice none 0 0, .int .i64 0, .int .i64 0] 28)) w.heap.size m (.slice A m.stamp.length c) from (Whole.new w 28 (cellsM m (.slice A m.stamp.length c))).alloc (.cells #[.int .i64 0, .int .i64 0, .int .i64 0, .int .i64 0, .int .i64 0, .int .i64 0, .int .i64 0, .string ⟨#[]⟩, .int .i64 0, .int .i64 0, .int .i64 0, .bool false, .int .i64 0, .slice none 0 0, .int .i64 0, .int .i64 0] 28))
  have HZ := Lib.hid (show MsgBlk ((w.alloc (.cells (cellsM m (.slice A m.stamp.length c)) 28)).alloc (.cells #[.int .i64 0, .int .i64 0, .int .i64 0, .int .i64 0, .int .i64 0, .int .i64 0, .int .i64 0, .string ⟨#[]⟩, .int .i64 0, .int .i64 0, .int .i64 0, .bool false, .int .i64 0, .slice none 0 0, .int .i64 0, .int .i64 0] 28)) (w.heap.size + 1) WM.zero (.slice none 0 0) from by have h := Whole.new (w.alloc (.cells (cellsM m (.slice A m.stamp.length c)) 28)) 28 (cellsM WM.zero (.slice none 0 0)); have e : (w.alloc (.cells (cellsM m (.slice A m.stamp.length c)) 28)).heap.size = w.heap.size + 1 := (by simp); rw [e] at h; exact h)
  have HS := Lib.hid (show ((w.alloc (.cells (cellsM m (.slice A m.stamp.length c)) 28)).alloc (.cells #[.int .i64 0, .int .i64 0, .int .i64 0, .int .i64 0, .int .i64 0, .int .i64 0, .int .i64 0, .string ⟨#[]⟩, .int .i64 0, .int .i64 0, .int .i64 0, .bool false, .int .i64 0, .slice none 0 0, .int .i64 0, .int .i64 0] 28)).heap.size = w.heap.size + 1 + 1 by simp)
  go_enter Try.func28, Try.ntmps28
  go_upto_region 1 with (fail)
  generalize (w.alloc (.cells (cellsM m (.slice A m.stamp.length c)) 28)).alloc (.cells #[.int .i64 0, .int .i64 0, .int .i64 0, .int .i64 0, .int .i64 0, .int .i64 0, .int .i64 0, .string ⟨#[]⟩, .int .i64 0, .int .i64 0, .int .i64 0, .bool false, .int .i64 0, .slice none 0 0, .int .i64 0, .int .i64 0] 28) = wa at HX HK HZ HS ⊢
  obtain ⟨c0, c1, c2', c3, c4, c5, c6, c7, c8, c9, c10, c11, c12, c13, c14, c15⟩ := msg_cells HK.out
  have HNW := Lib.hid (show MsgBlk (wa.alloc (.cells (cellsM WM.zero (.slice none 0 0)) 28)) wa.heap.size WM.zero (.slice none 0 0) from Whole.new wa _ _)
  have HT := Lib.hid (UsSt.start HS.out HX.out HK.out HZ.out { WM.zero with kind := m.kind, frm := m.frm, dst := m.dst } (.slice none 0 0))
  unfold cellsM WM.zero at HNW
  rw [show cellsM WM.zero (.slice none 0 0) = #[.int .i64 0, .int .i64 0, .int .i64 0, .int .i64 0, .int .i64 0, .int .i64 0, .int .i64 0, .string ⟨#[]⟩, .int .i64 0, .int .i64 0, .int .i64 0, .bool false, .int .i64 0, .slice none 0 0, .int .i64 0, .int .i64 0] from rfl, ← HS.out] at HT
  rw [show cellsM { WM.zero with kind := m.kind, frm := m.frm, dst := m.dst } (.slice none 0 0) = #[.int .i64 m.kind, .int .i64 m.frm, .int .i64 m.dst, .int .i64 0, .int .i64 0, .int .i64 0, .int .i64 0, .string ⟨#[]⟩, .int .i64 0, .int .i64 0, .int .i64 0, .bool false, .int .i64 0, .slice none 0 0, .int .i64 0, .int .i64 0] from rfl] at HT
  clear HX HK HZ
  go_upto_region 2 with (refine wpList_store_row rfl 28 (.tmp 3) (.tmp 10) rfl wa.heap.size #[.int .i64 m.kind, .int .i64 m.frm, .int .i64 m.dst, .int .i64 0, .int .i64 0, .int .i64 0, .int .i64 0, .string ⟨#[]⟩, .int .i64 0, .int .i64 0, .int .i64 0, .bool false, .int .i64 0, .slice none 0 0, .int .i64 0, .int .i64 0] rfl rfl 28 _ HNW.out (by kernel_rfl) rfl (by simp [Value.oneCell']) ?_)
  generalize World.setRow _ _ _ = w3 at HT ⊢
  rw [HS.out]
  clear HNW HS c0 c1 c2' c3 c4 c5 c6 c7 c8 c9 c10 c11 c12 c13 c14 c15
  obtain ⟨c0, c1, c2', c3, c4, c5, c6, c7, c8, c9, c10, c11, c12, c13, c14, c15⟩ := msg_cells HT.out.kr
  have hk := HHK.out
  have HU := Lib.hid (show WM.used m = { WM.zero with kind := m.kind, frm := m.frm, dst := m.dst, id := m.id, origin := m.origin, number := m.number } by unfold WM.used; simp [hk])
  have HUA := Lib.hid (show ua m A = none ∧ uc m c = 0 by unfold ua uc; simp [hk])
  rw [hk] at c0
  clear hk
  obtain ⟨o0, o1, o2, o3, o4, o5, o6, o7, o8, o9, o10, o11, o12, o13, o14, o15⟩ := msg_cells HT.out.ko
  have f10 := HT.out.ko.frozen 10
  have f14 := HT.out.ko.frozen 14
  have f15 := HT.out.ko.frozen 15
  go_upto_region 35 with (fail)
  have HT2 := Lib.hid (UsSt.store (i := 15) (q' := { WM.zero with kind := m.kind, frm := m.frm, dst := m.dst, id := m.id, origin := m.origin, number := m.number }) (u' := (.slice none 0 0)) (UsSt.store (i := 14) (q' := { WM.zero with kind := m.kind, frm := m.frm, dst := m.dst, id := m.id, origin := m.origin }) (u' := (.slice none 0 0)) (UsSt.store (i := 10) (q' := { WM.zero with kind := m.kind, frm := m.frm, dst := m.dst, id := m.id }) (u' := (.slice none 0 0)) HT.out rfl) rfl) rfl)
  clear HT c0 c1 c2' c3 c4 c5 c6 c7 c8 c9 c10 c11 c12 c13 c14 c15 o0 o1 o2 o3 o4 o5 o6 o7 o8 o9 o10 o11 o12 o13 o14 o15 f10 f14 f15
  generalize (((w3.setCell ⟨w.heap.size + 1 + 1, 10, none⟩ (.int .i64 m.id)).setCell ⟨w.heap.size + 1 + 1, 14, none⟩ (.int .i64 m.origin)).setCell ⟨w.heap.size + 1 + 1, 15, none⟩ (.int .i64 m.number)) = w4 at HT2 ⊢
  have HD := Lib.hid (show MsgBlk (w4.setRow (w.heap.size + 1) (cellsM { WM.zero with kind := m.kind, frm := m.frm, dst := m.dst, id := m.id, origin := m.origin, number := m.number } (.slice none 0 0))) (w.heap.size + 1) { WM.zero with kind := m.kind, frm := m.frm, dst := m.dst, id := m.id, origin := m.origin, number := m.number } (.slice none 0 0) ∧ Used6 w A c m (.returned (.agg (cellsM { WM.zero with kind := m.kind, frm := m.frm, dst := m.dst, id := m.id, origin := m.origin, number := m.number } (.slice none 0 0)))) (w4.setRow (w.heap.size + 1) (cellsM { WM.zero with kind := m.kind, frm := m.frm, dst := m.dst, id := m.id, origin := m.origin, number := m.number } (.slice none 0 0))) from UsSt.done (A' := none) (c' := 0) HF.out HT2.out HU.out HUA.out)
  have HLD := Lib.hid (msg_range HT2.out.ko)
  have HKZ := Lib.hid HT2.out.kz
  skip
  go_wp2_with (first | (refine wpList_load_mid rfl 28 (.tmp 3) rfl (w.heap.size + 1 + 1) 0 rfl (cellsM { WM.zero with kind := m.kind, frm := m.frm, dst := m.dst, id := m.id, origin := m.origin, number := m.number } (.slice none 0 0)).toList _ HLD.out Try.underlying28 rfl (by kernel_rfl) ?_) | (refine wpList_store_row rfl 28 (.tmp 2) (.tmp 103) rfl (w.heap.size + 1) (cellsM { WM.zero with kind := m.kind, frm := m.frm, dst := m.dst, id := m.id, origin := m.origin, number := m.number } (.slice none 0 0)) rfl rfl 28 _ HKZ.out (by kernel_rfl) rfl (by simp [cellsM, Value.oneCell']) ?_))
  generalize World.setRow _ _ _ = w6 at HD ⊢
  obtain ⟨c0, c1, c2', c3, c4, c5, c6, c7, c8, c9, c10, c11, c12, c13, c14, c15⟩ := msg_cells HD.out.1
  change bodyPost Try.prog _ _ Exit.ret _ _
  refine bodyPost_ret (v := .agg (cellsM { WM.zero with kind := m.kind, frm := m.frm, dst := m.dst, id := m.id, origin := m.origin, number := m.number } (.slice none 0 0))) (by simp [results, Try.results28, go_sem, c0, c1, c2', c3, c4, c5, c6, c7, c8, c9, c10, c11, c12, c13, c14, c15, cellsM]) rfl ?_
  exact HD.out.2
set_option maxHeartbeats 8000000 in
theorem us6_5 (A : Option Addr) (c : Nat) (m : Msg) (w : World) (hf : Fit6 w A c m) (hk : m.kind = 5) :
    Calls Try.prog 28 #[.agg (cellsM m (.slice A m.stamp.length c))] w (Used6 w A c m) := by
  have HF := Lib.hid hf
  clear hf
  have HHK := Lib.hid hk
  clear hk
  have HX := Lib.hid (((Below.refl _ w).alloc (Nat.le_refl _) (.cells (cellsM m (.slice A m.stamp.length c)) 28)).alloc (by simp) (.cells #[.int .i64 0, .int .i64 0, .int .i64 0, .int .i64 0, .int .i64 0, .int .i64 0, .int .i64 0, .string ⟨#[]⟩, .int .i64 0, .int .i64 0, .int .i64 0, .bool false, .int .i64 0, .slice none 0 0, .int .i64 0, .int .i64 0] 28))
  have HK := Lib.hid (show MsgBlk ((w.alloc (.cells (cellsM m (.slice A m.stamp.length c)) 28)).alloc (.cells #[.int .i64 0, .int .i64 0, .int .i64 0, .int .i64 0, .int .i64 0, .int .i64 0, .int .i64 0, .string ⟨#[]⟩, .int .i64 0, .int .i64 0, .int .i64 0, .bool false, .int .i64 0, .slice none 0 0, .int .i64 0, .int .i64 0] 28)) w.heap.size m (.slice A m.stamp.length c) from (Whole.new w 28 (cellsM m (.slice A m.stamp.length c))).alloc (.cells #[.int .i64 0, .int .i64 0, .int .i64 0, .int .i64 0, .int .i64 0, .int .i64 0, .int .i64 0, .string ⟨#[]⟩, .int .i64 0, .int .i64 0, .int .i64 0, .bool false, .int .i64 0, .slice none 0 0, .int .i64 0, .int .i64 0] 28))
  have HZ := Lib.hid (show MsgBlk ((w.alloc (.cells (cellsM m (.slice A m.stamp.length c)) 28)).alloc (.cells #[.int .i64 0, .int .i64 0, .int .i64 0, .int .i64 0, .int .i64 0, .int .i64 0, .int .i64 0, .string ⟨#[]⟩, .int .i64 0, .int .i64 0, .int .i64 0, .bool false, .int .i64 0, .slice none 0 0, .int .i64 0, .int .i64 0] 28)) (w.heap.size + 1) WM.zero (.slice none 0 0) from by have h := Whole.new (w.alloc (.cells (cellsM m (.slice A m.stamp.length c)) 28)) 28 (cellsM WM.zero (.slice none 0 0)); have e : (w.alloc (.cells (cellsM m (.slice A m.stamp.length c)) 28)).heap.size = w.heap.size + 1 := (by simp); rw [e] at h; exact h)
  have HS := Lib.hid (show ((w.alloc (.cells (cellsM m (.slice A m.stamp.length c)) 28)).alloc (.cells #[.int .i64 0, .int .i64 0, .int .i64 0, .int .i64 0, .int .i64 0, .int .i64 0, .int .i64 0, .string ⟨#[]⟩, .int .i64 0, .int .i64 0, .int .i64 0, .bool false, .int .i64 0, .slice none 0 0, .int .i64 0, .int .i64 0] 28)).heap.size = w.heap.size + 1 + 1 by simp)
  go_enter Try.func28, Try.ntmps28
  go_upto_region 1 with (fail)
  generalize (w.alloc (.cells (cellsM m (.slice A m.stamp.length c)) 28)).alloc (.cells #[.int .i64 0, .int .i64 0, .int .i64 0, .int .i64 0, .int .i64 0, .int .i64 0, .int .i64 0, .string ⟨#[]⟩, .int .i64 0, .int .i64 0, .int .i64 0, .bool false, .int .i64 0, .slice none 0 0, .int .i64 0, .int .i64 0] 28) = wa at HX HK HZ HS ⊢
  obtain ⟨c0, c1, c2', c3, c4, c5, c6, c7, c8, c9, c10, c11, c12, c13, c14, c15⟩ := msg_cells HK.out
  have HNW := Lib.hid (show MsgBlk (wa.alloc (.cells (cellsM WM.zero (.slice none 0 0)) 28)) wa.heap.size WM.zero (.slice none 0 0) from Whole.new wa _ _)
  have HT := Lib.hid (UsSt.start HS.out HX.out HK.out HZ.out { WM.zero with kind := m.kind, frm := m.frm, dst := m.dst } (.slice none 0 0))
  unfold cellsM WM.zero at HNW
  rw [show cellsM WM.zero (.slice none 0 0) = #[.int .i64 0, .int .i64 0, .int .i64 0, .int .i64 0, .int .i64 0, .int .i64 0, .int .i64 0, .string ⟨#[]⟩, .int .i64 0, .int .i64 0, .int .i64 0, .bool false, .int .i64 0, .slice none 0 0, .int .i64 0, .int .i64 0] from rfl, ← HS.out] at HT
  rw [show cellsM { WM.zero with kind := m.kind, frm := m.frm, dst := m.dst } (.slice none 0 0) = #[.int .i64 m.kind, .int .i64 m.frm, .int .i64 m.dst, .int .i64 0, .int .i64 0, .int .i64 0, .int .i64 0, .string ⟨#[]⟩, .int .i64 0, .int .i64 0, .int .i64 0, .bool false, .int .i64 0, .slice none 0 0, .int .i64 0, .int .i64 0] from rfl] at HT
  clear HX HK HZ
  go_upto_region 2 with (refine wpList_store_row rfl 28 (.tmp 3) (.tmp 10) rfl wa.heap.size #[.int .i64 m.kind, .int .i64 m.frm, .int .i64 m.dst, .int .i64 0, .int .i64 0, .int .i64 0, .int .i64 0, .string ⟨#[]⟩, .int .i64 0, .int .i64 0, .int .i64 0, .bool false, .int .i64 0, .slice none 0 0, .int .i64 0, .int .i64 0] rfl rfl 28 _ HNW.out (by kernel_rfl) rfl (by simp [Value.oneCell']) ?_)
  generalize World.setRow _ _ _ = w3 at HT ⊢
  rw [HS.out]
  clear HNW HS c0 c1 c2' c3 c4 c5 c6 c7 c8 c9 c10 c11 c12 c13 c14 c15
  obtain ⟨c0, c1, c2', c3, c4, c5, c6, c7, c8, c9, c10, c11, c12, c13, c14, c15⟩ := msg_cells HT.out.kr
  have hk := HHK.out
  have HU := Lib.hid (show WM.used m = { WM.zero with kind := m.kind, frm := m.frm, dst := m.dst, path := m.path, mode := m.mode, stamp := m.stamp } by unfold WM.used; simp [hk])
  have HUA := Lib.hid (show ua m A = A ∧ uc m c = c by unfold ua uc; simp [hk])
  rw [hk] at c0
  clear hk
  obtain ⟨o0, o1, o2, o3, o4, o5, o6, o7, o8, o9, o10, o11, o12, o13, o14, o15⟩ := msg_cells HT.out.ko
  have f7 := HT.out.ko.frozen 7
  have f8 := HT.out.ko.frozen 8
  have f13 := HT.out.ko.frozen 13
  go_upto_region 35 with (fail)
  have HT2 := Lib.hid (UsSt.store (i := 13) (q' := { WM.zero with kind := m.kind, frm := m.frm, dst := m.dst, path := m.path, mode := m.mode, stamp := m.stamp }) (u' := (.slice A m.stamp.length c)) (UsSt.store (i := 8) (q' := { WM.zero with kind := m.kind, frm := m.frm, dst := m.dst, path := m.path, mode := m.mode }) (u' := (.slice none 0 0)) (UsSt.store (i := 7) (q' := { WM.zero with kind := m.kind, frm := m.frm, dst := m.dst, path := m.path }) (u' := (.slice none 0 0)) HT.out rfl) rfl) rfl)
  clear HT c0 c1 c2' c3 c4 c5 c6 c7 c8 c9 c10 c11 c12 c13 c14 c15 o0 o1 o2 o3 o4 o5 o6 o7 o8 o9 o10 o11 o12 o13 o14 o15 f7 f8 f13
  generalize (((w3.setCell ⟨w.heap.size + 1 + 1, 7, none⟩ (.string m.path)).setCell ⟨w.heap.size + 1 + 1, 8, none⟩ (.int .i64 m.mode)).setCell ⟨w.heap.size + 1 + 1, 13, none⟩ (.slice A m.stamp.length c)) = w4 at HT2 ⊢
  have HD := Lib.hid (show MsgBlk (w4.setRow (w.heap.size + 1) (cellsM { WM.zero with kind := m.kind, frm := m.frm, dst := m.dst, path := m.path, mode := m.mode, stamp := m.stamp } (.slice A m.stamp.length c))) (w.heap.size + 1) { WM.zero with kind := m.kind, frm := m.frm, dst := m.dst, path := m.path, mode := m.mode, stamp := m.stamp } (.slice A m.stamp.length c) ∧ Used6 w A c m (.returned (.agg (cellsM { WM.zero with kind := m.kind, frm := m.frm, dst := m.dst, path := m.path, mode := m.mode, stamp := m.stamp } (.slice A m.stamp.length c)))) (w4.setRow (w.heap.size + 1) (cellsM { WM.zero with kind := m.kind, frm := m.frm, dst := m.dst, path := m.path, mode := m.mode, stamp := m.stamp } (.slice A m.stamp.length c))) from UsSt.done (A' := A) (c' := c) HF.out HT2.out HU.out HUA.out)
  have HLD := Lib.hid (msg_range HT2.out.ko)
  have HKZ := Lib.hid HT2.out.kz
  skip
  go_wp2_with (first | (refine wpList_load_mid rfl 28 (.tmp 3) rfl (w.heap.size + 1 + 1) 0 rfl (cellsM { WM.zero with kind := m.kind, frm := m.frm, dst := m.dst, path := m.path, mode := m.mode, stamp := m.stamp } (.slice A m.stamp.length c)).toList _ HLD.out Try.underlying28 rfl (by kernel_rfl) ?_) | (refine wpList_store_row rfl 28 (.tmp 2) (.tmp 103) rfl (w.heap.size + 1) (cellsM { WM.zero with kind := m.kind, frm := m.frm, dst := m.dst, path := m.path, mode := m.mode, stamp := m.stamp } (.slice A m.stamp.length c)) rfl rfl 28 _ HKZ.out (by kernel_rfl) rfl (by simp [cellsM, Value.oneCell']) ?_))
  generalize World.setRow _ _ _ = w6 at HD ⊢
  obtain ⟨c0, c1, c2', c3, c4, c5, c6, c7, c8, c9, c10, c11, c12, c13, c14, c15⟩ := msg_cells HD.out.1
  change bodyPost Try.prog _ _ Exit.ret _ _
  refine bodyPost_ret (v := .agg (cellsM { WM.zero with kind := m.kind, frm := m.frm, dst := m.dst, path := m.path, mode := m.mode, stamp := m.stamp } (.slice A m.stamp.length c))) (by simp [results, Try.results28, go_sem, c0, c1, c2', c3, c4, c5, c6, c7, c8, c9, c10, c11, c12, c13, c14, c15, cellsM]) rfl ?_
  exact HD.out.2
set_option maxHeartbeats 8000000 in
theorem us6_0 (A : Option Addr) (c : Nat) (m : Msg) (w : World) (hf : Fit6 w A c m) (hk : m.kind ≠ 1 ∧ m.kind ≠ 2 ∧ m.kind ≠ 3 ∧ m.kind ≠ 4 ∧ m.kind ≠ 5) :
    Calls Try.prog 28 #[.agg (cellsM m (.slice A m.stamp.length c))] w (Used6 w A c m) := by
  have HF := Lib.hid hf
  clear hf
  have HHK := Lib.hid hk
  clear hk
  have HX := Lib.hid (((Below.refl _ w).alloc (Nat.le_refl _) (.cells (cellsM m (.slice A m.stamp.length c)) 28)).alloc (by simp) (.cells #[.int .i64 0, .int .i64 0, .int .i64 0, .int .i64 0, .int .i64 0, .int .i64 0, .int .i64 0, .string ⟨#[]⟩, .int .i64 0, .int .i64 0, .int .i64 0, .bool false, .int .i64 0, .slice none 0 0, .int .i64 0, .int .i64 0] 28))
  have HK := Lib.hid (show MsgBlk ((w.alloc (.cells (cellsM m (.slice A m.stamp.length c)) 28)).alloc (.cells #[.int .i64 0, .int .i64 0, .int .i64 0, .int .i64 0, .int .i64 0, .int .i64 0, .int .i64 0, .string ⟨#[]⟩, .int .i64 0, .int .i64 0, .int .i64 0, .bool false, .int .i64 0, .slice none 0 0, .int .i64 0, .int .i64 0] 28)) w.heap.size m (.slice A m.stamp.length c) from (Whole.new w 28 (cellsM m (.slice A m.stamp.length c))).alloc (.cells #[.int .i64 0, .int .i64 0, .int .i64 0, .int .i64 0, .int .i64 0, .int .i64 0, .int .i64 0, .string ⟨#[]⟩, .int .i64 0, .int .i64 0, .int .i64 0, .bool false, .int .i64 0, .slice none 0 0, .int .i64 0, .int .i64 0] 28))
  have HZ := Lib.hid (show MsgBlk ((w.alloc (.cells (cellsM m (.slice A m.stamp.length c)) 28)).alloc (.cells #[.int .i64 0, .int .i64 0, .int .i64 0, .int .i64 0, .int .i64 0, .int .i64 0, .int .i64 0, .string ⟨#[]⟩, .int .i64 0, .int .i64 0, .int .i64 0, .bool false, .int .i64 0, .slice none 0 0, .int .i64 0, .int .i64 0] 28)) (w.heap.size + 1) WM.zero (.slice none 0 0) from by have h := Whole.new (w.alloc (.cells (cellsM m (.slice A m.stamp.length c)) 28)) 28 (cellsM WM.zero (.slice none 0 0)); have e : (w.alloc (.cells (cellsM m (.slice A m.stamp.length c)) 28)).heap.size = w.heap.size + 1 := (by simp); rw [e] at h; exact h)
  have HS := Lib.hid (show ((w.alloc (.cells (cellsM m (.slice A m.stamp.length c)) 28)).alloc (.cells #[.int .i64 0, .int .i64 0, .int .i64 0, .int .i64 0, .int .i64 0, .int .i64 0, .int .i64 0, .string ⟨#[]⟩, .int .i64 0, .int .i64 0, .int .i64 0, .bool false, .int .i64 0, .slice none 0 0, .int .i64 0, .int .i64 0] 28)).heap.size = w.heap.size + 1 + 1 by simp)
  go_enter Try.func28, Try.ntmps28
  go_upto_region 1 with (fail)
  generalize (w.alloc (.cells (cellsM m (.slice A m.stamp.length c)) 28)).alloc (.cells #[.int .i64 0, .int .i64 0, .int .i64 0, .int .i64 0, .int .i64 0, .int .i64 0, .int .i64 0, .string ⟨#[]⟩, .int .i64 0, .int .i64 0, .int .i64 0, .bool false, .int .i64 0, .slice none 0 0, .int .i64 0, .int .i64 0] 28) = wa at HX HK HZ HS ⊢
  obtain ⟨c0, c1, c2', c3, c4, c5, c6, c7, c8, c9, c10, c11, c12, c13, c14, c15⟩ := msg_cells HK.out
  have HNW := Lib.hid (show MsgBlk (wa.alloc (.cells (cellsM WM.zero (.slice none 0 0)) 28)) wa.heap.size WM.zero (.slice none 0 0) from Whole.new wa _ _)
  have HT := Lib.hid (UsSt.start HS.out HX.out HK.out HZ.out { WM.zero with kind := m.kind, frm := m.frm, dst := m.dst } (.slice none 0 0))
  unfold cellsM WM.zero at HNW
  rw [show cellsM WM.zero (.slice none 0 0) = #[.int .i64 0, .int .i64 0, .int .i64 0, .int .i64 0, .int .i64 0, .int .i64 0, .int .i64 0, .string ⟨#[]⟩, .int .i64 0, .int .i64 0, .int .i64 0, .bool false, .int .i64 0, .slice none 0 0, .int .i64 0, .int .i64 0] from rfl, ← HS.out] at HT
  rw [show cellsM { WM.zero with kind := m.kind, frm := m.frm, dst := m.dst } (.slice none 0 0) = #[.int .i64 m.kind, .int .i64 m.frm, .int .i64 m.dst, .int .i64 0, .int .i64 0, .int .i64 0, .int .i64 0, .string ⟨#[]⟩, .int .i64 0, .int .i64 0, .int .i64 0, .bool false, .int .i64 0, .slice none 0 0, .int .i64 0, .int .i64 0] from rfl] at HT
  clear HX HK HZ
  go_upto_region 2 with (refine wpList_store_row rfl 28 (.tmp 3) (.tmp 10) rfl wa.heap.size #[.int .i64 m.kind, .int .i64 m.frm, .int .i64 m.dst, .int .i64 0, .int .i64 0, .int .i64 0, .int .i64 0, .string ⟨#[]⟩, .int .i64 0, .int .i64 0, .int .i64 0, .bool false, .int .i64 0, .slice none 0 0, .int .i64 0, .int .i64 0] rfl rfl 28 _ HNW.out (by kernel_rfl) rfl (by simp [Value.oneCell']) ?_)
  generalize World.setRow _ _ _ = w3 at HT ⊢
  rw [HS.out]
  clear HNW HS c0 c1 c2' c3 c4 c5 c6 c7 c8 c9 c10 c11 c12 c13 c14 c15
  obtain ⟨c0, c1, c2', c3, c4, c5, c6, c7, c8, c9, c10, c11, c12, c13, c14, c15⟩ := msg_cells HT.out.kr
  have hk := HHK.out
  have HU := Lib.hid (show WM.used m = { WM.zero with kind := m.kind, frm := m.frm, dst := m.dst } by unfold WM.used; simp [hk])
  have HUA := Lib.hid (show ua m A = none ∧ uc m c = 0 by unfold ua uc; simp [hk])
  obtain ⟨h1, h2, h3, h4, h5⟩ := hk
  have k1 : (m.kind == 1) = false := by simpa using h1
  have k2 : (m.kind == 2) = false := by simpa using h2
  have k3 : (m.kind == 3) = false := by simpa using h3
  have k4 : (m.kind == 4) = false := by simpa using h4
  have k5 : (m.kind == 5) = false := by simpa using h5
  clear h1 h2 h3 h4 h5
  obtain ⟨o0, o1, o2, o3, o4, o5, o6, o7, o8, o9, o10, o11, o12, o13, o14, o15⟩ := msg_cells HT.out.ko
  go_upto_region 35 with (fail)
  have HT2 := Lib.hid HT.out
  clear HT c0 c1 c2' c3 c4 c5 c6 c7 c8 c9 c10 c11 c12 c13 c14 c15 o0 o1 o2 o3 o4 o5 o6 o7 o8 o9 o10 o11 o12 o13 o14 o15
  have HT2 := HT2
  have HD := Lib.hid (show MsgBlk (w3.setRow (w.heap.size + 1) (cellsM { WM.zero with kind := m.kind, frm := m.frm, dst := m.dst } (.slice none 0 0))) (w.heap.size + 1) { WM.zero with kind := m.kind, frm := m.frm, dst := m.dst } (.slice none 0 0) ∧ Used6 w A c m (.returned (.agg (cellsM { WM.zero with kind := m.kind, frm := m.frm, dst := m.dst } (.slice none 0 0)))) (w3.setRow (w.heap.size + 1) (cellsM { WM.zero with kind := m.kind, frm := m.frm, dst := m.dst } (.slice none 0 0))) from UsSt.done (A' := none) (c' := 0) HF.out HT2.out HU.out HUA.out)
  have HLD := Lib.hid (msg_range HT2.out.ko)
  have HKZ := Lib.hid HT2.out.kz
  skip
  go_wp2_with (first | (refine wpList_load_mid rfl 28 (.tmp 3) rfl (w.heap.size + 1 + 1) 0 rfl (cellsM { WM.zero with kind := m.kind, frm := m.frm, dst := m.dst } (.slice none 0 0)).toList _ HLD.out Try.underlying28 rfl (by kernel_rfl) ?_) | (refine wpList_store_row rfl 28 (.tmp 2) (.tmp 103) rfl (w.heap.size + 1) (cellsM { WM.zero with kind := m.kind, frm := m.frm, dst := m.dst } (.slice none 0 0)) rfl rfl 28 _ HKZ.out (by kernel_rfl) rfl (by simp [cellsM, Value.oneCell']) ?_))
  generalize World.setRow _ _ _ = w6 at HD ⊢
  obtain ⟨c0, c1, c2', c3, c4, c5, c6, c7, c8, c9, c10, c11, c12, c13, c14, c15⟩ := msg_cells HD.out.1
  change bodyPost Try.prog _ _ Exit.ret _ _
  refine bodyPost_ret (v := .agg (cellsM { WM.zero with kind := m.kind, frm := m.frm, dst := m.dst } (.slice none 0 0))) (by simp [results, Try.results28, go_sem, c0, c1, c2', c3, c4, c5, c6, c7, c8, c9, c10, c11, c12, c13, c14, c15, cellsM]) rfl ?_
  exact HD.out.2
/-- What is used may be handed on. -/
theorem used_fit {w w' : World} {A : Option Addr} {c : Nat} {m : Msg} (hF : Fit6 w A c m) (hb : Below w.heap.size w w') : IntsAt w' (ua m A) (WM.used m).stamp ∧ (WM.used m).stamp.length ≤ uc m c ∧ uc m c ≤ 9223372036854775807 := by
  by_cases h : m.kind = 5 ∨ (m.kind = 2 ∧ m.code = 0)
  · have e : (WM.used m).stamp = m.stamp := by
      unfold WM.used
      rcases h with h | ⟨h, h'⟩ <;> simp [h, *]
    unfold ua uc
    rw [if_pos h, if_pos h, e]
    exact ⟨hF.ints.below hb, hF.le, hF.cap⟩
  · have e : (WM.used m).stamp = [] := by
      unfold WM.used
      by_cases h1 : m.kind = 1
      · simp only [h1, if_true, WM.zero]
        split <;> split <;> split <;> rfl
      · by_cases h2 : m.kind = 2
        · have : ¬ m.code = 0 := fun e => h (.inr ⟨h2, e⟩)
          simp [h1, h2, this, WM.zero]
        · have h5 : ¬ m.kind = 5 := fun e => h (.inl e)
          by_cases h3 : m.kind = 3
          · simp [h3, WM.zero]
          · by_cases h4 : m.kind = 4
            · simp [h4, WM.zero]
            · simp [h1, h2, h3, h4, h5, WM.zero]
    unfold ua uc
    rw [if_neg h, if_neg h, e]
    exact ⟨IntsAt.nil _ _, Nat.le_refl _, by omega⟩
theorem r6_used (A : Option Addr) (c : Nat) (m : Msg) (w : World) (hf : Fit6 w A c m) :
    Calls Try.prog 28 #[.agg (cellsM m (.slice A m.stamp.length c))] w (Used6 w A c m) := by
  by_cases h1 : m.kind = 1
  · by_cases v1 : m.verb = 1
    · exact us6_1a A c m w hf h1 v1
    by_cases v2 : m.verb = 2
    · exact us6_1b A c m w hf h1 v2
    by_cases v3 : m.verb = 3
    · exact us6_1c A c m w hf h1 v3
    exact us6_1d A c m w hf h1 ⟨v1, v2, v3⟩
  by_cases h2 : m.kind = 2
  · by_cases v1 : m.code = 0
    · exact us6_2a A c m w hf h2 v1
    exact us6_2b A c m w hf h2 v1
  by_cases h3 : m.kind = 3
  · exact us6_3 A c m w hf h3
  by_cases h4 : m.kind = 4
  · exact us6_4 A c m w hf h4
  by_cases h5 : m.kind = 5
  · exact us6_5 A c m w hf h5
  exact us6_0 A c m w hf ⟨h1, h2, h3, h4, h5⟩
end Go.Proofs.Ytboflkadabagfaa
