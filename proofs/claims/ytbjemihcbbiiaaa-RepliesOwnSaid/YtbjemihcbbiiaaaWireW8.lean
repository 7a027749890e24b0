/- What bytes would be, if they are a message's: the package's call of layer 6. -/
import Derived.Test.YtbjemihcbbiiaaaWireW3
import Derived.Test.YtbjemihcbbiiaaaWireG
import Derived.Deep.MidRow
import Derived.Laws.Tables
namespace Go.Proofs.Ytbjemihcbbiiaaa
open Go.RowKit
open Oct (RAt BytesAt)
open WM (Msg)
set_option linter.unusedVariables false
set_option maxRecDepth 100000
attribute [local go_sem] run_store_func run_store_nilFunc
theorem rd_below {w w' : World} {q r b : Nat} {s : WM.St} (h : RdAt w q r b s) (hb : Below w.heap.size w w') : RdAt w' q r b s := by
  obtain ⟨A, c, h1, h2, h3, h4, h5⟩ := h.rd
  have hm : Mod [] w w' := Mod.of_below hb []
  exact ⟨hm.whole h.at_ (by simp), ⟨A, c, hm.whole h1 (by simp), h2.below hb, h3, h4, h5⟩, h.ne⟩
theorem Both6.below {w0 w w' : World} {q r b g : Nat} {s : WM.St} {m : Msg} {sv : Value} (h : Both6 w0 w q r b g s m sv) (hb : Below w.heap.size w w') : Both6 w0 w' q r b g s m sv := by
  have hm : Mod [] w w' := Mod.of_below hb []
  exact ⟨rd_below h.rd hb, hm.whole h.blk (by simp), h.gq, h.gr, h.gb, h.mod.trans hm (by simp), h.old, hm.own h.own (by simp)⟩
/-- The first three numbers. -/
def headM (xs : List UInt8) : Msg := (WM.headT (xs, 0)).1
def headS (xs : List UInt8) : WM.St := (WM.headT (xs, 0)).2
theorem taken_part (xs : List UInt8) : WM.taken 4 xs = (WM.partT 4 (headM xs) (headS xs)).1 := rfl
theorem RdAt.alloc {w : World} {q r b : Nat} {s : WM.St} (h : RdAt w q r b s) (o : Obj) : RdAt (w.alloc o) q r b s := rd_below h ((Below.refl _ w).alloc (Nat.le_refl _) o)
theorem far_cell {w : World} {g q i : Nat} (h : q < g) (v : Value) : (w.setCell ⟨g, i, none⟩ v).cell? ⟨q, 0, none⟩ = w.cell? ⟨q, 0, none⟩ :=
  World.cell?_of_block (w := w) (Below.heap_setCell w ⟨g, i, none⟩ v q (Nat.ne_of_lt h))
theorem alloc_cell {w : World} {q : Nat} {o : Obj} {v : Value} (h : w.cell? ⟨q, 0, none⟩ = some v) : (w.alloc o).cell? ⟨q, 0, none⟩ = some v :=
  (World.cell?_of_block (w := w) (Below.heap_alloc w o q (World.block_lt_of_cell? _ _ h))).trans h
/-- The message's block, made just now. -/
structure GB (w1 w : World) (q r b g : Nat) : Prop where
  blk : MsgBlk w g WM.zero (.slice none 0 0)
  new : w1.heap.size < g
theorem GB.took {w1 w w' : World} {q r b g : Nat} (h : GB w1 w q r b g) (hm : Mod [r] w w') (hr : r < w1.heap.size) : GB w1 w' q r b g := ⟨hm.whole h.blk (by have := h.new; simp; omega), h.new⟩
theorem num_alloc (w1 w : World) (q r b : Nat) (s : WM.St) (h : RdAt w q r b s) (g : Nat) (hg : g = w.heap.size) (hr : r < w1.heap.size) (hz : w1.heap.size < w.heap.size) :
    Calls Try.prog 65 #[.pointer (some ⟨r, 0, none⟩)] (w.alloc (.cells (cellsM WM.zero (.slice none 0 0)) 32)) fun e w' => e = .returned (.int .i64 (WM.tnum s).1) ∧ RdAt w' q r b (WM.tnum s).2 ∧ Mod [r] w w' ∧ GB w1 w' q r b g := by
  subst hg
  exact (num_tnum _ q r b s (h.alloc _)).mono fun e w' k => ⟨k.1, k.2.1, (((Mod.refl [r] w).alloc _).trans k.2.2 (fun x hx => .inl hx)), ⟨k.2.2.whole (Whole.new w _ _) (by simp; omega), hz⟩⟩
set_option maxHeartbeats 2000000 in
theorem put16 {w : World} {g : Nat} {m0 : Msg} {sv0 : Value} (h : MsgBlk w g m0 sv0) (m : Msg) (sv : Value) : MsgBlk ((((((((((((((((w.setCell ⟨g, 0, none⟩ (.int .i64 m.kind)).setCell ⟨g, 1, none⟩ (.int .i64 m.frm)).setCell ⟨g, 2, none⟩ (.int .i64 m.dst)).setCell ⟨g, 3, none⟩ (.int .i64 m.boot)).setCell ⟨g, 4, none⟩ (.int .i64 m.seq)).setCell ⟨g, 5, none⟩ (.int .i64 m.low)).setCell ⟨g, 6, none⟩ (.int .i64 m.verb)).setCell ⟨g, 7, none⟩ (.string m.path)).setCell ⟨g, 8, none⟩ (.int .i64 m.mode)).setCell ⟨g, 9, none⟩ (.int .i64 m.term)).setCell ⟨g, 10, none⟩ (.int .i64 m.id)).setCell ⟨g, 11, none⟩ (.bool m.fresh)).setCell ⟨g, 12, none⟩ (.int .i64 m.code)).setCell ⟨g, 13, none⟩ sv).setCell ⟨g, 14, none⟩ (.int .i64 m.origin)).setCell ⟨g, 15, none⟩ (.int .i64 m.number)) g m sv ∧ Mod [g] w ((((((((((((((((w.setCell ⟨g, 0, none⟩ (.int .i64 m.kind)).setCell ⟨g, 1, none⟩ (.int .i64 m.frm)).setCell ⟨g, 2, none⟩ (.int .i64 m.dst)).setCell ⟨g, 3, none⟩ (.int .i64 m.boot)).setCell ⟨g, 4, none⟩ (.int .i64 m.seq)).setCell ⟨g, 5, none⟩ (.int .i64 m.low)).setCell ⟨g, 6, none⟩ (.int .i64 m.verb)).setCell ⟨g, 7, none⟩ (.string m.path)).setCell ⟨g, 8, none⟩ (.int .i64 m.mode)).setCell ⟨g, 9, none⟩ (.int .i64 m.term)).setCell ⟨g, 10, none⟩ (.int .i64 m.id)).setCell ⟨g, 11, none⟩ (.bool m.fresh)).setCell ⟨g, 12, none⟩ (.int .i64 m.code)).setCell ⟨g, 13, none⟩ sv).setCell ⟨g, 14, none⟩ (.int .i64 m.origin)).setCell ⟨g, 15, none⟩ (.int .i64 m.number)) := by
  refine ⟨?_, (((((((((((((((((Mod.refl [g] w).store (p := ⟨g, 0, none⟩) (.inl (by simp)) (.int .i64 m.kind)).store (p := ⟨g, 1, none⟩) (.inl (by simp)) (.int .i64 m.frm)).store (p := ⟨g, 2, none⟩) (.inl (by simp)) (.int .i64 m.dst)).store (p := ⟨g, 3, none⟩) (.inl (by simp)) (.int .i64 m.boot)).store (p := ⟨g, 4, none⟩) (.inl (by simp)) (.int .i64 m.seq)).store (p := ⟨g, 5, none⟩) (.inl (by simp)) (.int .i64 m.low)).store (p := ⟨g, 6, none⟩) (.inl (by simp)) (.int .i64 m.verb)).store (p := ⟨g, 7, none⟩) (.inl (by simp)) (.string m.path)).store (p := ⟨g, 8, none⟩) (.inl (by simp)) (.int .i64 m.mode)).store (p := ⟨g, 9, none⟩) (.inl (by simp)) (.int .i64 m.term)).store (p := ⟨g, 10, none⟩) (.inl (by simp)) (.int .i64 m.id)).store (p := ⟨g, 11, none⟩) (.inl (by simp)) (.bool m.fresh)).store (p := ⟨g, 12, none⟩) (.inl (by simp)) (.int .i64 m.code)).store (p := ⟨g, 13, none⟩) (.inl (by simp)) sv).store (p := ⟨g, 14, none⟩) (.inl (by simp)) (.int .i64 m.origin)).store (p := ⟨g, 15, none⟩) (.inl (by simp)) (.int .i64 m.number))⟩
  have k := ((((((((((((((((h.store 0 (.int .i64 m.kind)).store 1 (.int .i64 m.frm)).store 2 (.int .i64 m.dst)).store 3 (.int .i64 m.boot)).store 4 (.int .i64 m.seq)).store 5 (.int .i64 m.low)).store 6 (.int .i64 m.verb)).store 7 (.string m.path)).store 8 (.int .i64 m.mode)).store 9 (.int .i64 m.term)).store 10 (.int .i64 m.id)).store 11 (.bool m.fresh)).store 12 (.int .i64 m.code)).store 13 sv).store 14 (.int .i64 m.origin)).store 15 (.int .i64 m.number))
  unfold cellsM at k
  simp only [List.setIfInBounds_toArray, List.set_cons_zero, List.set_cons_succ] at k
  exact k
theorem row16 {w : World} {g : Nat} {m0 : Msg} {sv0 : Value} (h : MsgBlk w g m0 sv0) (m : Msg) (sv : Value) : MsgBlk (w.setRow g (cellsM m sv)) g m sv ∧ Mod [g] w (w.setRow g (cellsM m sv)) :=
  ⟨setRow_heap w g _ _ _ _ h, ⟨rfl, rfl, rfl, by simp [World.setRow], fun k _ hn => setRow_other w g k _ (by simpa using hn)⟩⟩
theorem msg_range {w : World} {g : Nat} {m : Msg} {sv : Value} (h : MsgBlk w g m sv) : w.rangeAt g 0 (cellsM m sv).toList := fun j v hv => by
  rw [Nat.zero_add, h.cell j]
  simpa using hv
/-- What is there when the three numbers are taken. -/
structure Fin (w W : World) (q r b g : Nat) (xs : List UInt8) : Prop where
  both : Both6 W W q r b g (headS xs) (headM xs) (.slice none 0 0)
  below : Below w.heap.size w W
  new : w.heap.size < g
  far : w.heap.size < r
  res : MsgBlk W w.heap.size WM.zero (.slice none 0 0)
theorem fin_of {w w1 W : World} {q r b g : Nat} {xs : List UInt8} (hb : Below w.heap.size w w1) (hn : w.heap.size + 1 ≤ r ∧ r < w1.heap.size ∧ w.heap.size + 1 ≤ b ∧ b < w1.heap.size) (hq : q = w1.heap.size) (hR : RdAt W q r b (headS xs)) (hM : Mod [r] w1 W) (hg : w1.heap.size < g) (hK : MsgBlk W g (headM xs) (.slice none 0 0)) (hV : MsgBlk w1 w.heap.size WM.zero (.slice none 0 0)) : Fin w W q r b g xs := by
  have hlt := hK.lt
  have hs := hM.size
  exact ⟨⟨hR, hK, by omega, by omega, by omega, Mod.refl _ _, ⟨by omega, by omega, by omega, hlt⟩, World.ownsRow_nil _ _ _ _⟩, hb.trans (hM.below hb.size (by intro x hx; simp at hx; omega)), by have := hb.size; omega, by omega, hM.whole hV (by simp; omega)⟩
theorem fin16 {w w1 w2 : World} {q r b g : Nat} {xs : List UInt8} (hb : Below w.heap.size w w1) (hn : w.heap.size + 1 ≤ r ∧ r < w1.heap.size ∧ w.heap.size + 1 ≤ b ∧ b < w1.heap.size) (hq : q = w1.heap.size) (hR : RdAt w2 q r b (headS xs)) (hM : Mod [r] w1 w2) (hG : GB w1 w2 q r b g) (hV : MsgBlk w1 w.heap.size WM.zero (.slice none 0 0)) {W : World} (hW : MsgBlk W g (headM xs) (.slice none 0 0) ∧ Mod [g] w2 W) : Fin w W q r b g xs := by
  have hg := hG.new
  refine fin_of hb hn hq ?_ (hM.trans hW.2 (fun x hx => .inr (by simp at hx; omega))) hg hW.1 hV
  obtain ⟨A, c, h1, h2, h3, h4, h5⟩ := hR.rd
  exact ⟨hW.2.whole hR.at_ (by simp; omega), ⟨A, c, hW.2.whole h1 (by simp; omega), h2.mod hW.2 (fun ad e => by rw [h5 ad e]; simp; omega), h3, h4, h5⟩, hR.ne⟩
end Go.Proofs.Ytbjemihcbbiiaaa
