/- What the laws carry: one Replies of the law's own, its asks and its refusals. -/
import Derived.Test.YtbjemihcbbiiaaaRpC
import Derived.Test.YtbjemihcbbiiaaaRpW7
namespace Go.Proofs.Ytbjemihcbbiiaaa
open Go.RowKit
open RP (Kp St)
open WM (Msg)
set_option linter.unusedVariables false
set_option linter.unusedSimpArgs false
set_option maxRecDepth 100000
def askM (b q l : Int) : Msg := ⟨1, 1, 0, b, q, l, 3, ⟨#[]⟩, 0, 0, 5, false, 0, [], 0, 0⟩
def refM (b q : Int) : Msg := ⟨2, 0, 1, b, q, 0, 0, ⟨#[]⟩, 0, 0, 0, false, 60, [], 0, 0⟩
/-- A message without a stamp may lie anywhere. -/
theorem fit_bare (m : Msg) (h : Wide m) (hs : m.stamp = []) (w : World) : Fit w none 0 m :=
  ⟨h, (by rw [hs]; exact IntsAt.nil _ _), (by intro ad e; cases e), (by rw [hs]; exact Nat.le_refl _), (by omega)⟩
theorem wide_ask {b q l : Int} (hb : In64 b) (hq : In64 q) (hl : In64 l) : Wide (askM b q l) :=
  ⟨(show In64 1 by unfold In64; omega), (show In64 1 by unfold In64; omega), (show In64 0 by unfold In64; omega), hb, hq, hl, (show In64 3 by unfold In64; omega), (show In64 0 by unfold In64; omega), (show In64 0 by unfold In64; omega), (show In64 5 by unfold In64; omega), (show In64 0 by unfold In64; omega), (show In64 0 by unfold In64; omega), (show In64 0 by unfold In64; omega), (by intro x hx; cases hx), (show (ByteArray.mk #[]).size ≤ 140737488351232 by decide)⟩
theorem wide_ref {b q : Int} (hb : In64 b) (hq : In64 q) : Wide (refM b q) :=
  ⟨(show In64 2 by unfold In64; omega), (show In64 0 by unfold In64; omega), (show In64 1 by unfold In64; omega), hb, hq, (show In64 0 by unfold In64; omega), (show In64 0 by unfold In64; omega), (show In64 0 by unfold In64; omega), (show In64 0 by unfold In64; omega), (show In64 0 by unfold In64; omega), (show In64 60 by unfold In64; omega), (show In64 0 by unfold In64; omega), (show In64 0 by unfold In64; omega), (by intro x hx; cases hx), (show (ByteArray.mk #[]).size ≤ 140737488351232 by decide)⟩
set_option maxHeartbeats 1000000 in
theorem l_ask (b q l : Int) (w : World) : Calls Try.prog 11 #[.int .i64 b, .int .i64 q, .int .i64 l] w fun e w' => e = .returned (.agg (cellsM (askM b q l) (.slice none 0 0))) ∧ Below w.heap.size w w' := by
  go_enter Try.func11, Try.ntmps11
  go_wp2_with fail
  refine bodyPost_ret (v := .agg (cellsM (askM b q l) (.slice none 0 0))) (by simp [results, Try.results11, go_sem, cellsM, askM]) rfl ?_
  exact ⟨rfl, (Below.refl _ w).alloc (Nat.le_refl _) _⟩
set_option maxHeartbeats 1000000 in
theorem l_ref (b q : Int) (w : World) : Calls Try.prog 12 #[.int .i64 b, .int .i64 q] w fun e w' => e = .returned (.agg (cellsM (refM b q) (.slice none 0 0))) ∧ Below w.heap.size w w' := by
  go_enter Try.func12, Try.ntmps12
  go_wp2_with fail
  refine bodyPost_ret (v := .agg (cellsM (refM b q) (.slice none 0 0))) (by simp [results, Try.results12, go_sem, cellsM, refM]) rfl ?_
  exact ⟨rfl, (Below.refl _ w).alloc (Nat.le_refl _) _⟩
/-- One Replies of the law's own, and nothing else turned. -/
structure Rt (w0 wx : World) (g : Nat) (s : St) : Prop where
  at_ : RepAt wx g (g + 1) wx.heap.size s
  ok : RP.Oks s
  bel : Below w0.heap.size w0 wx
  le : w0.heap.size ≤ g
section
variable {w0 wx w' : World} {g : Nat} {s : St}
theorem Rt.below (h : Rt w0 wx g s) (hb : Below wx.heap.size wx w') : Rt w0 w' g s := ⟨(h.at_.below hb).raise hb.size (Nat.le_refl _), h.ok, below_on h.bel hb, h.le⟩
theorem Rt.alloc (h : Rt w0 wx g s) (o : Obj) : Rt w0 (wx.alloc o) g s := h.below ((Below.refl _ wx).alloc (Nat.le_refl _) o)
theorem Rt.new (hb : Below w0.heap.size w0 wx) : Rt w0 (wx.alloc (.cells zrep.toArray 67)) wx.heap.size RP.st0 :=
  ⟨RepAt.zero (Whole.new wx _ _) (Nat.lt_succ_self _) (by simp) (Nat.le_refl _), RP.Oks.zero, hb.alloc hb.size _, hb.size⟩
theorem Rt.seen (h : Rt w0 wx g s) (m : Msg) (hw : Wide m) (hs : m.stamp = []) :
    Calls Try.prog 13 #[.pointer (some ⟨g, 0, none⟩), .agg (cellsM m (.slice none 0 0))] wx fun e w' => ∃ A c, e = .returned (.tuple #[.int .i64 (RP.verdict s m), .agg (cellsM (RP.answer s m) (.slice A (RP.answer s m).stamp.length c))]) ∧ Hid (Rt w0 w' g (RP.seenSt s m)) ∧ Hid (Mod [g] wx w') := by
  have := Seen_any none 0 m h.at_ h.ok (fit_bare m hw hs wx)
  rw [hs] at this
  refine this.mono ?_
  rintro e w' ⟨A, c, rfl, _, _, h1, h2⟩
  exact ⟨A, c, rfl, Lib.hid ⟨h1.out.raise h2.out.size (Nat.le_refl _), h.ok.seen m, h.bel.trans (h2.out.below h.bel.size (fun x hx => by simp at hx; have := h.le; omega)), h.le⟩, h2⟩
theorem Rt.keep (h : Rt w0 wx g s) (m a : Msg) (hw : Wide m) (hs : m.stamp = []) (ha : Wide a) (has : a.stamp = []) :
    Calls Try.prog 10 #[.pointer (some ⟨g, 0, none⟩), .agg (cellsM m (.slice none 0 0)), .agg (cellsM a (.slice none 0 0))] wx fun e w' => e = .returned (.bool (RP.kept s m a)) ∧ Hid (Rt w0 w' g (RP.keepSt s m a)) := by
  have := Keep_any none none 0 0 m a h.at_ h.ok (fit_bare m hw hs wx) (fit_bare a ha has wx) (by intro ad e; cases e)
  rw [hs, has] at this
  refine this.mono ?_
  rintro e w' ⟨rfl, h1, h2⟩
  exact ⟨rfl, Lib.hid ⟨h1.out, h.ok.keep m a, h.bel.trans (h2.out.below h.bel.size (fun x hx => by simp at hx; have := h.le; omega)), h.le⟩⟩
theorem Rt.len (h : Rt w0 wx g s) (i : Int) : Calls Try.prog 14 #[.pointer (some ⟨g, 0, none⟩), .int .i64 i] wx fun e w' => e = .returned (.int .i64 (RP.len s i : Nat)) ∧ Hid (Rt w0 w' g s) :=
  (Len_any h.at_ i).mono fun e w' ⟨h1, h2⟩ => ⟨h1, Lib.hid (h.below h2)⟩
end
/-! ### The states of awake -/
def sA1 : St := RP.seenSt RP.st0 (askM 1 1 1)
def sA2 : St := RP.keepSt sA1 (askM 1 1 1) (refM 1 1)
def sA3 : St := RP.keepSt sA2 (askM 1 1 1) (refM 1 1)
def sA4 : St := RP.seenSt sA3 (askM 1 1 1)
def sA5 : St := RP.seenSt sA4 (askM 1 2 2)
def sA6 : St := RP.seenSt sA5 (askM 1 1 1)
theorem vA1 : RP.verdict RP.st0 (askM 1 1 1) = 3 := by kernel_rfl
theorem aA1 : RP.answer RP.st0 (askM 1 1 1) = WM.zero := by kernel_rfl
theorem kA2 : RP.kept sA1 (askM 1 1 1) (refM 1 1) = true := by kernel_rfl
theorem kA3 : RP.kept sA2 (askM 1 1 1) (refM 1 1) = false := by kernel_rfl
theorem vA4 : RP.verdict sA3 (askM 1 1 1) = 2 := by kernel_rfl
theorem aA4 : RP.answer sA3 (askM 1 1 1) = refM 1 1 := by kernel_rfl
theorem aA5 : RP.answer sA4 (askM 1 2 2) = WM.zero := by kernel_rfl
theorem aA6 : RP.answer sA5 (askM 1 1 1) = WM.zero := by kernel_rfl
theorem vA5 : RP.verdict sA4 (askM 1 2 2) = 3 := by kernel_rfl
theorem vA6 : RP.verdict sA5 (askM 1 1 1) = 1 := by kernel_rfl
theorem nA6 : RP.len sA6 1 = 0 := by kernel_rfl
end Go.Proofs.Ytbjemihcbbiiaaa
