/- The reader's calls of layer 6 that take a kind's fields. -/
import Derived.Test.YtnacchldecjcaaaWireW4
namespace Go.Proofs.Ytnacchldecjcaaa
open Go.RowKit
open Oct (RAt BytesAt)
open WM (Msg)
set_option linter.unusedVariables false
set_option maxRecDepth 100000
/-- Reader and message together: what holds while a kind's fields are taken; what was ahead of it all. -/
structure Both6 (w0 w : World) (q r b g : Nat) (s : WM.St) (m : Msg) (sv : Value) : Prop where
  rd : RdAt w q r b s
  blk : MsgBlk w g m sv
  gq : g ≠ q
  gr : g ≠ r
  gb : g ≠ b
  mod : Mod [r, g] w0 w
  old : q < w0.heap.size ∧ r < w0.heap.size ∧ b < w0.heap.size ∧ g < w0.heap.size
  own : w.ownsRow w0.heap.size 3 1 sv m.stamp.length (i64s m.stamp)
section
variable {w0 w w' : World} {q r b g : Nat} {s s' : WM.St} {m m' : Msg} {sv sv' : Value}
theorem Both6.took (h : Both6 w0 w q r b g s m sv) (k : Took w q r b s' w') : Both6 w0 w' q r b g s' m sv :=
  ⟨k.1, k.2.whole h.blk (by simpa using h.gr), h.gq, h.gr, h.gb, h.mod.trans k.2 (fun x hx => .inl (by simp at hx; simp [hx])), h.old,
    k.2.own h.own (fun x hx => by have := (h.own.lt x hx).1; have := h.old; simp; omega)⟩
theorem Both6.drew (h : Both6 w0 w q r b g s m sv) : Both6 w0 w.drew q r b g s m sv := ⟨h.rd.drew, h.blk, h.gq, h.gr, h.gb, h.mod.drew, h.old, h.own⟩
theorem RdAt.far {i : Nat} (h : RdAt w q r b s) (gq : g ≠ q) (gr : g ≠ r) (gb : g ≠ b) (v : Value) : RdAt (w.setCell ⟨g, i, none⟩ v) q r b s := by
  have hm : Mod [g] w (w.setCell ⟨g, i, none⟩ v) := (Mod.refl _ _).store (.inl (by simp)) _
  obtain ⟨A, c, h1, h2, h3, h4, h5⟩ := h.rd
  exact ⟨hm.whole h.at_ (by simpa using Ne.symm gq), ⟨A, c, hm.whole h1 (by simpa using Ne.symm gr), h2.mod hm (fun ad e => by rw [h5 ad e]; simpa using Ne.symm gb), h3, h4, h5⟩, h.ne⟩
theorem Both6.stored (h : Both6 w0 w q r b g s m sv) (i : Nat) (v : Value) (m' : Msg) (he : (cellsM m sv).setIfInBounds i v = cellsM m' sv) (hs : m'.stamp = m.stamp) : Both6 w0 (w.setCell ⟨g, i, none⟩ v) q r b g s m' sv :=
  ⟨h.rd.far h.gq h.gr h.gb v, by have k := h.blk.store i v; rw [he] at k; exact k, h.gq, h.gr, h.gb, h.mod.store (.inl (by simp)) v, h.old,
    by rw [hs]; exact own_far h.own (fun e => by have h1 : w0.heap.size ≤ g := (h.own.lt _ e).1; have := h.old; omega) v⟩
/-- The reader took a stamp: it is not the message's yet. -/
structure Both6S (w0 w : World) (q r b g : Nat) (s : WM.St) (m : Msg) (sv : Value) (l : List Int) (lv : Value) : Prop where
  both : Both6 w0 w q r b g s m sv
  lst : w.ownsRow w0.heap.size 3 1 lv l.length (i64s l)
theorem own_base {w : World} {b1 b2 : Nat} {e : TypeId} {z n : Nat} {v : Value} {xs : List Value} (h : w.ownsRow b1 e z v n xs) (hb : b2 ≤ b1) : w.ownsRow b2 e z v n xs := by
  refine ⟨h.1, ?_⟩
  rcases h.2 with h0 | ⟨b, cap, cur, e, hb', hh, hr⟩
  · exact .inl h0
  · exact .inr ⟨b, cap, cur, e, Nat.le_trans hb hb', hh, hr⟩
theorem Both6.stamped (h : Both6 w0 w q r b g s m sv) {l : List Int} {lv : Value} (k : GrewF [r] w l lv w') (hr : RdAt w' q r b s') : Both6S w0 w' q r b g s' m sv l lv :=
  ⟨⟨hr, k.2.whole h.blk (by simpa using h.gr), h.gq, h.gr, h.gb, h.mod.trans k.2 (fun x hx => .inl (by simp at hx; simp [hx])), h.old,
    k.2.own h.own (fun x hx => by have := (h.own.lt x hx).1; have := h.old; simp; omega)⟩, own_base k.1 h.mod.size⟩
theorem Both6S.stored {l : List Int} {lv : Value} (h : Both6S w0 w q r b g s m sv l lv) (i : Nat) (v : Value) (m' : Msg) (he : (cellsM m sv).setIfInBounds i v = cellsM m' sv) (hs : m'.stamp = m.stamp) : Both6S w0 (w.setCell ⟨g, i, none⟩ v) q r b g s m' sv l lv :=
  ⟨h.both.stored i v m' he hs, own_far h.lst (fun e => by have h1 : w0.heap.size ≤ g := (h.lst.lt _ e).1; have := h.both.old; omega) v⟩
theorem Both6S.put {l : List Int} {lv : Value} (h : Both6S w0 w q r b g s m sv l lv) : Both6 w0 (w.setCell ⟨g, 13, none⟩ lv) q r b g s { m with stamp := l } lv := by
  have h' := h.both
  exact ⟨h'.rd.far h'.gq h'.gr h'.gb lv, h'.blk.store 13 lv, h'.gq, h'.gr, h'.gb, h'.mod.store (.inl (by simp)) lv, h'.old,
    own_far h.lst (fun e => by have h1 : w0.heap.size ≤ g := (h.lst.lt _ e).1; have := h'.old; omega) lv⟩
end
set_option maxHeartbeats 4000000 in
theorem rdone_any (w0 w : World) (q r b g : Nat) (s : WM.St) (m : Msg) (sv : Value) (h : Both6 w0 w q r b g s m sv) :
    Calls Try.prog 43 #[.pointer (some ⟨q, 0, none⟩), .pointer (some ⟨g, 0, none⟩)] w fun e w' => e = .returned (.tuple #[]) ∧ ∃ sv', Both6 w0 w' q r b g (WM.doneT m s).2 (WM.doneT m s).1 sv' := by
  have HB := Lib.hid h.drew
  have hgq := h.gq
  have HS := h.drew.rd.ptr
  clear h
  go_enter Try.func43, Try.ntmps43
  go_wp2_with fail
  go_region_held3 (fun w2 : World => w2.cell? ⟨q, 0, none⟩ = some (.pointer (some ⟨r, 0, none⟩)))
    (first
      | exact HS
      | (go_keep; done))
    (first
      | (go_at_call 52; refine (num_tnum _ q r b _ HB.out.rd).mono ?_; rintro x w1 ⟨rfl, hT⟩; replace HB := Lib.hid (HB.out.took hT); clear hT; (try clear c0 c1 c2 c3 c4 c5 c6 c7 c8 c9 c10 c11 c12 c13 c14 c15); (try clear f10 f14 f15); replace HS := HB.out.rd.ptr; have f10 := HB.out.blk.frozen 10; have f14 := HB.out.blk.frozen 14; have f15 := HB.out.blk.frozen 15; obtain ⟨c0, c1, c2, c3, c4, c5, c6, c7, c8, c9, c10, c11, c12, c13, c14, c15⟩ := msg_cells HB.out.blk))
  all_goals
    go_wp2_with fail
    go_end0
    exact ⟨rfl, _, (((HB.out).stored 10 _ ({ (m) with id := (WM.tnum (s)).1 } : Msg) rfl rfl).stored 14 _ ({ ({ (m) with id := (WM.tnum (s)).1 }) with origin := (WM.tnum ((WM.tnum (s)).2)).1 } : Msg) rfl rfl).stored 15 _ ({ ({ ({ (m) with id := (WM.tnum (s)).1 }) with origin := (WM.tnum ((WM.tnum (s)).2)).1 }) with number := (WM.tnum ((WM.tnum ((WM.tnum (s)).2)).2)).1 } : Msg) rfl rfl⟩
set_option maxHeartbeats 4000000 in
theorem rrecall_any (w0 w : World) (q r b g : Nat) (s : WM.St) (m : Msg) (sv : Value) (h : Both6 w0 w q r b g s m sv) :
    Calls Try.prog 40 #[.pointer (some ⟨q, 0, none⟩), .pointer (some ⟨g, 0, none⟩)] w fun e w' => e = .returned (.tuple #[]) ∧ ∃ sv', Both6 w0 w' q r b g (WM.recallT m s).2 (WM.recallT m s).1 sv' := by
  have HB := Lib.hid h.drew
  have hgq := h.gq
  have HS := h.drew.rd.ptr
  clear h
  go_enter Try.func40, Try.ntmps40
  go_wp2_with fail
  go_region_held3 (fun w2 : World => w2.cell? ⟨q, 0, none⟩ = some (.pointer (some ⟨r, 0, none⟩)))
    (first
      | exact HS
      | (go_keep; done))
    (first
      | (go_at_call 52; refine (num_tnum _ q r b _ HB.out.rd).mono ?_; rintro x w1 ⟨rfl, hT⟩; replace HB := Lib.hid (HB.out.took hT); clear hT; (try clear c0 c1 c2 c3 c4 c5 c6 c7 c8 c9 c10 c11 c12 c13 c14 c15); (try clear f10 f7 f14 f15); replace HS := HB.out.rd.ptr; have f10 := HB.out.blk.frozen 10; have f7 := HB.out.blk.frozen 7; have f14 := HB.out.blk.frozen 14; have f15 := HB.out.blk.frozen 15; obtain ⟨c0, c1, c2, c3, c4, c5, c6, c7, c8, c9, c10, c11, c12, c13, c14, c15⟩ := msg_cells HB.out.blk)
      | (go_at_call 62; refine (path_any _ q r b _ HB.out.rd).mono ?_; rintro x w1 ⟨rfl, hT⟩; replace HB := Lib.hid (HB.out.took hT); clear hT; (try clear c0 c1 c2 c3 c4 c5 c6 c7 c8 c9 c10 c11 c12 c13 c14 c15); (try clear f10 f7 f14 f15); replace HS := HB.out.rd.ptr; have f10 := HB.out.blk.frozen 10; have f7 := HB.out.blk.frozen 7; have f14 := HB.out.blk.frozen 14; have f15 := HB.out.blk.frozen 15; obtain ⟨c0, c1, c2, c3, c4, c5, c6, c7, c8, c9, c10, c11, c12, c13, c14, c15⟩ := msg_cells HB.out.blk))
  all_goals
    go_wp2_with fail
    go_end0
    exact ⟨rfl, _, ((((HB.out).stored 10 _ ({ (m) with id := (WM.tnum (s)).1 } : Msg) rfl rfl).stored 7 _ ({ ({ (m) with id := (WM.tnum (s)).1 }) with path := (WM.ttext ((WM.tnum (s)).2)).1 } : Msg) rfl rfl).stored 14 _ ({ ({ ({ (m) with id := (WM.tnum (s)).1 }) with path := (WM.ttext ((WM.tnum (s)).2)).1 }) with origin := (WM.tnum ((WM.ttext ((WM.tnum (s)).2)).2)).1 } : Msg) rfl rfl).stored 15 _ ({ ({ ({ ({ (m) with id := (WM.tnum (s)).1 }) with path := (WM.ttext ((WM.tnum (s)).2)).1 }) with origin := (WM.tnum ((WM.ttext ((WM.tnum (s)).2)).2)).1 }) with number := (WM.tnum ((WM.tnum ((WM.ttext ((WM.tnum (s)).2)).2)).2)).1 } : Msg) rfl rfl⟩
set_option maxHeartbeats 4000000 in
theorem rop_any (w0 w : World) (q r b g : Nat) (s : WM.St) (m : Msg) (sv : Value) (h : Both6 w0 w q r b g s m sv) :
    Calls Try.prog 46 #[.pointer (some ⟨q, 0, none⟩), .pointer (some ⟨g, 0, none⟩)] w fun e w' => e = .returned (.tuple #[]) ∧ ∃ sv', Both6 w0 w' q r b g (WM.opT 4 m s).2 (WM.opT 4 m s).1 sv' := by
  have HB := Lib.hid h.drew
  have hgq := h.gq
  have HS := h.drew.rd.ptr
  clear h
  go_enter Try.func46, Try.ntmps46
  go_wp2_with fail
  go_region_held3 (fun w2 : World => w2.cell? ⟨q, 0, none⟩ = some (.pointer (some ⟨r, 0, none⟩)))
    (first
      | exact HS
      | (go_keep; done))
    (first
      | (go_at_call 62; refine (path_any _ q r b _ HB.out.rd).mono ?_; rintro x w1 ⟨rfl, hT⟩; replace HB := Lib.hid (HB.out.took hT); clear hT; (try clear c0 c1 c2 c3 c4 c5 c6 c7 c8 c9 c10 c11 c12 c13 c14 c15); (try clear f7 f8 f13); replace HS := HB.out.rd.ptr; have f7 := HB.out.blk.frozen 7; have f8 := HB.out.blk.frozen 8; have f13 := HB.out.blk.frozen 13; obtain ⟨c0, c1, c2, c3, c4, c5, c6, c7, c8, c9, c10, c11, c12, c13, c14, c15⟩ := msg_cells HB.out.blk)
      | (go_at_call 52; refine (num_tnum _ q r b _ HB.out.rd).mono ?_; rintro x w1 ⟨rfl, hT⟩; replace HB := Lib.hid (HB.out.took hT); clear hT; (try clear c0 c1 c2 c3 c4 c5 c6 c7 c8 c9 c10 c11 c12 c13 c14 c15); (try clear f7 f8 f13); replace HS := HB.out.rd.ptr; have f7 := HB.out.blk.frozen 7; have f8 := HB.out.blk.frozen 8; have f13 := HB.out.blk.frozen 13; obtain ⟨c0, c1, c2, c3, c4, c5, c6, c7, c8, c9, c10, c11, c12, c13, c14, c15⟩ := msg_cells HB.out.blk)
      | (go_at_call 67; refine (rstamp_any _ q r b _ HB.out.rd (Nat.lt_of_lt_of_le HB.out.old.1 HB.out.mod.size) (Nat.lt_of_lt_of_le HB.out.old.2.1 HB.out.mod.size) (Nat.lt_of_lt_of_le HB.out.old.2.2.1 HB.out.mod.size)).mono ?_; rintro x w1 ⟨lv, rfl, hG, hT⟩; have HBS := Lib.hid (HB.out.stamped hG.out hT); obtain ⟨A9, n9, hA9, hn9⟩ : ∃ A n, lv = .slice A (WM.tstamp 4 _).1.length n ∧ True := (let ⟨A, c, e, _, _⟩ := own_shape hG.out.1; ⟨A, c, e, trivial⟩); subst hA9; replace HB := Lib.hid HBS.out.both; clear hG; clear hT; (try clear c0 c1 c2 c3 c4 c5 c6 c7 c8 c9 c10 c11 c12 c13 c14 c15); (try clear f7 f8 f13); replace HS := HB.out.rd.ptr; have f7 := HB.out.blk.frozen 7; have f8 := HB.out.blk.frozen 8; have f13 := HB.out.blk.frozen 13; obtain ⟨c0, c1, c2, c3, c4, c5, c6, c7, c8, c9, c10, c11, c12, c13, c14, c15⟩ := msg_cells HB.out.blk))
  all_goals
    go_wp2_with fail
    go_end0
    exact ⟨rfl, _, (((HBS.out).stored 7 _ ({ (m) with path := (WM.ttext (s)).1 } : Msg) rfl rfl).stored 8 _ ({ ({ (m) with path := (WM.ttext (s)).1 }) with mode := (WM.tnum ((WM.ttext (s)).2)).1 } : Msg) rfl rfl).put⟩
end Go.Proofs.Ytnacchldecjcaaa
