/- The reader's call of layer 11 that takes up a grant. -/
import Derived.Test.YtboflkadabagfabBkW7
namespace Go.Proofs.Ytboflkadabagfab
open Go.RowKit
open Oct (RAt BytesAt)
open BM (Gr Rc Bk g0 r0 b0)
set_option linter.unusedVariables false
set_option linter.unusedSimpArgs false
set_option maxRecDepth 100000
theorem rd_below {w w' : World} {q r b : Nat} {s : WM.St} (h : RdAt w q r b s) (hb : Below w.heap.size w w') : RdAt w' q r b s := by
  obtain ⟨A, c, h1, h2, h3, h4, h5⟩ := h.rd
  have hm : Mod [] w w' := Mod.of_below hb []
  exact ⟨hm.whole h.at_ (by simp), ⟨A, c, hm.whole h1 (by simp), h2.below hb, h3, h4, h5⟩, h.ne⟩
theorem RdAt.alloc {w : World} {q r b : Nat} {s : WM.St} (h : RdAt w q r b s) (o : Obj) : RdAt (w.alloc o) q r b s := rd_below h ((Below.refl _ w).alloc (Nat.le_refl _) o)
theorem RdAt.far {w : World} {q r b g i : Nat} {s : WM.St} (h : RdAt w q r b s) (gq : g ≠ q) (gr : g ≠ r) (gb : g ≠ b) (v : Value) : RdAt (w.setCell ⟨g, i, none⟩ v) q r b s := by
  have hm : Mod [g] w (w.setCell ⟨g, i, none⟩ v) := (Mod.refl _ _).store (.inl (by simp)) _
  obtain ⟨A, c, h1, h2, h3, h4, h5⟩ := h.rd
  exact ⟨hm.whole h.at_ (by simpa using Ne.symm gq), ⟨A, c, hm.whole h1 (by simpa using Ne.symm gr), h2.mod hm (fun ad e => by rw [h5 ad e]; simpa using Ne.symm gb), h3, h4, h5⟩, h.ne⟩
theorem far_cell {w : World} {g q i : Nat} (h : q < g) (v : Value) : (w.setCell ⟨g, i, none⟩ v).cell? ⟨q, 0, none⟩ = w.cell? ⟨q, 0, none⟩ :=
  World.cell?_of_block (w := w) (Below.heap_setCell w ⟨g, i, none⟩ v q (Nat.ne_of_lt h))
theorem alloc_cell {w : World} {q : Nat} {o : Obj} {v : Value} (h : w.cell? ⟨q, 0, none⟩ = some v) : (w.alloc o).cell? ⟨q, 0, none⟩ = some v :=
  (World.cell?_of_block (w := w) (Below.heap_alloc w o q (World.block_lt_of_cell? _ _ h))).trans h
/-- Reader and grant together. -/
structure BothG (w0 w : World) (q r b g : Nat) (s : WM.St) (m : Gr) (sv : Value) : Prop where
  rd : RdAt w q r b s
  blk : Whole w g 26 (six m sv)
  gq : g ≠ q
  gr : g ≠ r
  gb : g ≠ b
  mod : Mod [r, g] w0 w
  old : q < w0.heap.size ∧ r < w0.heap.size ∧ b < w0.heap.size ∧ g < w0.heap.size
  own : w.ownsRow w0.heap.size 3 1 sv m.stamp.length (i64s m.stamp)
section
variable {w0 w w' : World} {q r b g : Nat} {s s' : WM.St} {m m' : Gr} {sv sv' : Value}
theorem six_cells (h : Whole w g 26 (six m sv)) : w.cell? ⟨g, 0, none⟩ = some (.int .i64 m.id) ∧ w.cell? ⟨g, 1, none⟩ = some (.int .i64 m.holder) ∧ w.cell? ⟨g, 2, none⟩ = some (.string m.path) ∧ w.cell? ⟨g, 3, none⟩ = some (.int .i64 m.mode) ∧ w.cell? ⟨g, 4, none⟩ = some sv ∧ w.cell? ⟨g, 5, none⟩ = some (.int .i64 m.term) :=
  ⟨h.cell 0, h.cell 1, h.cell 2, h.cell 3, h.cell 4, h.cell 5⟩
theorem BothG.took (h : BothG w0 w q r b g s m sv) (k : Took w q r b s' w') : BothG w0 w' q r b g s' m sv :=
  ⟨k.1, k.2.whole h.blk (by simpa using h.gr), h.gq, h.gr, h.gb, h.mod.trans k.2 (fun x hx => .inl (by simp at hx; simp [hx])), h.old,
    k.2.own h.own (fun x hx => by have := (h.own.lt x hx).1; have := h.old; simp; omega)⟩
theorem BothG.drew (h : BothG w0 w q r b g s m sv) : BothG w0 w.drew q r b g s m sv := ⟨h.rd.drew, h.blk, h.gq, h.gr, h.gb, h.mod.drew, h.old, h.own⟩
theorem BothG.stored (h : BothG w0 w q r b g s m sv) (i : Nat) (v : Value) (m' : Gr) (he : (six m sv).setIfInBounds i v = six m' sv) (hs : m'.stamp = m.stamp) : BothG w0 (w.setCell ⟨g, i, none⟩ v) q r b g s m' sv :=
  ⟨h.rd.far h.gq h.gr h.gb v, by have k := h.blk.store i v; rw [he] at k; exact k, h.gq, h.gr, h.gb, h.mod.store (.inl (by simp)) v, h.old,
    by rw [hs]; exact own_far h.own (fun e => by have h1 : w0.heap.size ≤ g := (h.own.lt _ e).1; have := h.old; omega) v⟩
structure BothGS (w0 w : World) (q r b g : Nat) (s : WM.St) (m : Gr) (sv : Value) (l : List Int) (lv : Value) : Prop where
  both : BothG w0 w q r b g s m sv
  lst : w.ownsRow w0.heap.size 3 1 lv l.length (i64s l)
theorem BothG.stamped (h : BothG w0 w q r b g s m sv) {l : List Int} {lv : Value} (k : GrewF [r] w l lv w') (hr : RAt w' r b s'.1 s'.2) : BothGS w0 w' q r b g s' m sv l lv :=
  ⟨⟨⟨k.2.whole h.rd.at_ (by simpa using h.rd.ne), hr, h.rd.ne⟩, k.2.whole h.blk (by simpa using h.gr), h.gq, h.gr, h.gb, h.mod.trans k.2 (fun x hx => .inl (by simp at hx; simp [hx])), h.old,
    k.2.own h.own (fun x hx => by have := (h.own.lt x hx).1; have := h.old; simp; omega)⟩, own_base k.1 h.mod.size⟩
theorem BothGS.stored {l : List Int} {lv : Value} (h : BothGS w0 w q r b g s m sv l lv) (i : Nat) (v : Value) (m' : Gr) (he : (six m sv).setIfInBounds i v = six m' sv) (hs : m'.stamp = m.stamp) : BothGS w0 (w.setCell ⟨g, i, none⟩ v) q r b g s m' sv l lv :=
  ⟨h.both.stored i v m' he hs, own_far h.lst (fun e => by have h1 : w0.heap.size ≤ g := (h.lst.lt _ e).1; have := h.both.old; omega) v⟩
theorem BothGS.put {l : List Int} {lv : Value} (h : BothGS w0 w q r b g s m sv l lv) : BothG w0 (w.setCell ⟨g, 4, none⟩ lv) q r b g s { m with stamp := l } lv := by
  have h' := h.both
  exact ⟨h'.rd.far h'.gq h'.gr h'.gb lv, h'.blk.store 4 lv, h'.gq, h'.gr, h'.gb, h'.mod.store (.inl (by simp)) lv, h'.old,
    own_far h.lst (fun e => by have h1 : w0.heap.size ≤ g := (h.lst.lt _ e).1; have := h'.old; omega) lv⟩
end
/-- The grant's block, made just now. -/
structure GB (w0 w : World) (g : Nat) : Prop where
  blk : Whole w g 26 z6
  new : w0.heap.size ≤ g
theorem GB.took {w0 w w' : World} {g r : Nat} (h : GB w0 w g) (hm : Mod [r] w w') (hr : r < w0.heap.size) : GB w0 w' g := ⟨hm.whole h.blk (by have := h.new; simp; omega), h.new⟩
theorem num_alloc (w0 w : World) (q r b : Nat) (s : WM.St) (h : RdAt w q r b s) (g : Nat) (hg : g = w.heap.size) (hr : r < w0.heap.size) (hz : w0.heap.size ≤ w.heap.size) :
    Calls Try.prog 55 #[.pointer (some ⟨r, 0, none⟩)] (w.alloc (.cells z6 26)) fun e w' => e = .returned (.int .i64 (WM.tnum s).1) ∧ RdAt w' q r b (WM.tnum s).2 ∧ Mod [r] w w' ∧ GB w0 w' g := by
  subst hg
  exact (num_tnum _ q r b s (h.alloc _)).mono fun e w' k => ⟨k.1, k.2.1, (((Mod.refl [r] w).alloc _).trans k.2.2 (fun x hx => .inl hx)), ⟨k.2.2.whole (Whole.new w _ _) (by simp; omega), hz⟩⟩
theorem text_alloc (w0 w : World) (q r b : Nat) (s : WM.St) (h : RdAt w q r b s) (g : Nat) (hg : g = w.heap.size) (hr : r < w0.heap.size) (hz : w0.heap.size ≤ w.heap.size) :
    Calls Try.prog 81 #[.pointer (some ⟨r, 0, none⟩), .int .i64 188] (w.alloc (.cells z6 26)) fun e w' => e = .returned (.string (BM.ttext s).1) ∧ RdAt w' q r b (BM.ttext s).2 ∧ Mod [r] w w' ∧ GB w0 w' g := by
  subst hg
  exact (text_ttext _ q r b s (h.alloc _)).mono fun e w' k => ⟨k.1, k.2.1, (((Mod.refl [r] w).alloc _).trans k.2.2 (fun x hx => .inl hx)), ⟨k.2.2.whole (Whole.new w _ _) (by simp; omega), hz⟩⟩
/-- The first three fields. -/
def gr3 (s : WM.St) : Gr := { g0 with id := (WM.tnum s).1, holder := (WM.tnum (WM.tnum s).2).1, path := (BM.ttext (WM.tnum (WM.tnum s).2).2).1 }
def st3 (s : WM.St) : WM.St := (BM.ttext (WM.tnum (WM.tnum s).2).2).2
structure FinG (w W : World) (r b g : Nat) (s : WM.St) (m : Gr) : Prop where
  both : BothG W W w.heap.size r b g s m (.slice none 0 0)
  mod : Mod [r] w W
  new : w.heap.size + 1 < g
  res : Whole W (w.heap.size + 1) 26 z6
  rlt : r < w.heap.size
theorem put6 {w : World} {g : Nat} {m0 : Gr} {sv0 : Value} (h : Whole w g 26 (six m0 sv0)) (m : Gr) (sv : Value) : Whole ((((((w.setCell ⟨g, 0, none⟩ (.int .i64 m.id)).setCell ⟨g, 1, none⟩ (.int .i64 m.holder)).setCell ⟨g, 2, none⟩ (.string m.path)).setCell ⟨g, 3, none⟩ (.int .i64 m.mode)).setCell ⟨g, 4, none⟩ sv).setCell ⟨g, 5, none⟩ (.int .i64 m.term)) g 26 (six m sv) ∧ Mod [g] w ((((((w.setCell ⟨g, 0, none⟩ (.int .i64 m.id)).setCell ⟨g, 1, none⟩ (.int .i64 m.holder)).setCell ⟨g, 2, none⟩ (.string m.path)).setCell ⟨g, 3, none⟩ (.int .i64 m.mode)).setCell ⟨g, 4, none⟩ sv).setCell ⟨g, 5, none⟩ (.int .i64 m.term)) :=
  ⟨(((((h.store 0 _).store 1 _).store 2 _).store 3 _).store 4 _).store 5 _, ((((((Mod.refl [g] w).store (p := ⟨g, 0, none⟩) (.inl (by simp)) _).store (p := ⟨g, 1, none⟩) (.inl (by simp)) _).store (p := ⟨g, 2, none⟩) (.inl (by simp)) _).store (p := ⟨g, 3, none⟩) (.inl (by simp)) _).store (p := ⟨g, 4, none⟩) (.inl (by simp)) _).store (p := ⟨g, 5, none⟩) (.inl (by simp)) _⟩
theorem fin_of {w w1 W : World} {r b g : Nat} {s : WM.St} {m : Gr} (hr : r < w.heap.size) (hb : b < w.heap.size) (hM0 : Mod [r] w w1) (hz : w.heap.size + 1 < w1.heap.size) (hR : RdAt W w.heap.size r b s) (hM : Mod [r] w1 W) (hg : w.heap.size + 1 < g) (hK : Whole W g 26 (six m (.slice none 0 0))) (hm : m.stamp = []) (hV : Whole w1 (w.heap.size + 1) 26 z6) : FinG w W r b g s m := by
  have hlt := hK.lt
  have hs := hM.size
  exact ⟨⟨hR, hK, by omega, by omega, by omega, Mod.refl _ _, ⟨by omega, by omega, by omega, hlt⟩, by rw [hm]; exact World.ownsRow_nil _ _ _ _⟩, hM0.trans hM (fun x hx => .inl hx), hg, hM.whole hV (by simp; omega), hr⟩
theorem fin6 {w w1 w2 : World} {r b g : Nat} {s : WM.St} {m : Gr} (hr : r < w.heap.size) (hb : b < w.heap.size) (hM0 : Mod [r] w w1) (hz : w.heap.size + 1 < w1.heap.size) (hR : RdAt w2 w.heap.size r b s) (hM : Mod [r] w1 w2) (hG : GB w1 w2 g) (hm : m.stamp = []) (hV : Whole w1 (w.heap.size + 1) 26 z6) {W : World} (hW : Whole W g 26 (six m (.slice none 0 0)) ∧ Mod [g] w2 W) : FinG w W r b g s m := by
  have hg := hG.new
  refine fin_of hr hb hM0 hz ?_ (hM.trans hW.2 (fun x hx => .inr (by simp at hx; omega))) (by omega) hW.1 hm hV
  obtain ⟨A, c, h1, h2, h3, h4, h5⟩ := hR.rd
  exact ⟨hW.2.whole hR.at_ (by simp; omega), ⟨A, c, hW.2.whole h1 (by simp; omega), h2.mod hW.2 (fun ad e => by rw [h5 ad e]; simp; omega), h3, h4, h5⟩, hR.ne⟩
theorem grant_end {w W w3 w4 : World} {r b g : Nat} {s s' : WM.St} {m m' : Gr} {lv : Value} (hF : FinG w W r b g s m) (hB : BothG W w3 w.heap.size r b g s' m' lv) (hb : b < w.heap.size) (h4 : Mod [w.heap.size + 1] w3 w4) :
    w4.ownsRow w.heap.size 3 1 lv m'.stamp.length (i64s m'.stamp) ∧ Mod [r] w w4 ∧ RAt w4 r b s'.1 s'.2 := by
  have hz := hF.mod.size
  have ho := hB.old
  have hr := hF.rlt
  have hg := hF.new
  refine ⟨h4.own (own_base hB.own hz) (fun k hk => by have := (hB.own.lt k hk).1; have := hF.res.lt; simp; omega), ?_, ?_⟩
  · exact (hF.mod.trans hB.mod (fun x hx => by
      simp at hx
      rcases hx with e | e
      · exact .inl (by simp [e])
      · exact .inr (by omega))).trans h4 (fun x hx => .inr (by simp at hx; omega))
  · obtain ⟨A, c, h1, h2, h3, h5, h6⟩ := hB.rd.rd
    exact ⟨A, c, h4.whole h1 (by simp; omega), h2.mod h4 (fun ad e => by rw [h6 ad e]; simp; omega), h3, h5, h6⟩
/-- What a grant's reading leaves. -/
def GrantPost (w : World) (r b : Nat) (s : WM.St) (e : Ending) (w' : World) : Prop := ∃ v, e = .returned (.agg (six (BM.grantT 4 s).1 v)) ∧ w'.ownsRow w.heap.size 3 1 v (BM.grantT 4 s).1.stamp.length (i64s (BM.grantT 4 s).1.stamp) ∧ Mod [r] w w' ∧ RAt w' r b (BM.grantT 4 s).2.1 (BM.grantT 4 s).2.2
set_option maxHeartbeats 8000000 in
theorem rgrant_any (w : World) (r b : Nat) (s : WM.St) (h : RAt w r b s.1 s.2) (hb : b < w.heap.size) :
    Calls Try.prog 56 #[.agg #[.pointer (some ⟨r, 0, none⟩)]] w (GrantPost w r b s) := by
  have hr := rat_lt h
  have HR1 := Lib.hid (show RdAt ((w.alloc (.cells #[.pointer (some ⟨r, 0, none⟩)] 95)).alloc (.cells z6 26)).drew w.heap.size r b s from RdAt.drew (RdAt.alloc ⟨Whole.new _ _ _, rat_alloc h _, by omega⟩ _))
  have HM0 := Lib.hid ((((Mod.refl [r] w).alloc (.cells #[.pointer (some ⟨r, 0, none⟩)] 95)).alloc (.cells z6 26)).drew)
  have HV := Lib.hid (show Whole ((w.alloc (.cells #[.pointer (some ⟨r, 0, none⟩)] 95)).alloc (.cells z6 26)).drew (w.heap.size + 1) 26 z6 from by
    have h := Whole.new (w.alloc (.cells #[.pointer (some ⟨r, 0, none⟩)] 95)) 26 z6
    have e : (w.alloc (.cells #[.pointer (some ⟨r, 0, none⟩)] 95)).heap.size = w.heap.size + 1 := (by simp)
    rw [e] at h; exact h)
  have HZ := Lib.hid (show w.heap.size + 1 < ((w.alloc (.cells #[.pointer (some ⟨r, 0, none⟩)] 95)).alloc (.cells z6 26)).drew.heap.size by show _ < ((w.alloc (.cells #[.pointer (some ⟨r, 0, none⟩)] 95)).alloc (.cells z6 26)).heap.size; simp)
  clear h
  unfold z6 at HR1 HM0 HV HZ
  go_enter Try.func56, Try.ntmps56
  go_upto_region 1 with (fail)
  generalize ((w.alloc (.cells #[.pointer (some ⟨r, 0, none⟩)] 95)).alloc (.cells #[.int .i64 0, .int .i64 0, .string ⟨#[]⟩, .int .i64 0, .slice none 0 0, .int .i64 0] 26)) = wb at HR1 HM0 HV HZ ⊢
  go_cut [3] (fun s3 wx => ∃ g : Nat, s3 = .pointer (some ⟨g, 0, none⟩) ∧ Hid (FinG w wx r b g (st3 s) (gr3 s)))
  case first =>
    have HS := HR1.out.ptr
    have HM := Lib.hid (Mod.refl [r] wb.drew)
    have HLT := Lib.hid (Nat.le_refl wb.drew.heap.size)
    have hrz : r < wb.drew.heap.size := by have := HZ.out; omega
    have HQ0 := Lib.hid (show w.heap.size < wb.drew.heap.size from by have := HZ.out; omega)
    go_region_held3 (fun w2 : World => w2.cell? ⟨w.heap.size, 0, none⟩ = some (.pointer (some ⟨r, 0, none⟩)))
      (first
        | (with_reducible exact HS)
        | (with_reducible exact alloc_cell HS)
        | (with_reducible (repeat (first | exact HS | refine (far_cell (Nat.lt_of_lt_of_le HQ0.out HG.out.new) _).trans ?_)); done)
        | exact alloc_cell HS
        | (go_keep; done))
      (first
        | (go_at_call 55; (with_reducible refine (num_tnum _ w.heap.size r b _ HR1.out).mono ?_); rintro x w2 ⟨rfl, hT⟩; replace HLT := Lib.hid (Nat.le_trans HLT.out hT.2.size); replace HR1 := Lib.hid hT.1; replace HM := Lib.hid (HM.out.trans hT.2 (fun x hx => .inl hx)); (try (replace HG := Lib.hid (HG.out.took hT.2 hrz); (try clear HFZ c0 c1 c2 c3 c4 c5); have HFZ := fun i => HG.out.blk.frozen i; obtain ⟨c0, c1, c2, c3, c4, c5⟩ := six_cells (m := g0) HG.out.blk)); clear hT; replace HS := HR1.out.ptr)
        | (go_at_call 81; (with_reducible refine (text_ttext _ w.heap.size r b _ HR1.out).mono ?_); rintro x w2 ⟨rfl, hT⟩; replace HLT := Lib.hid (Nat.le_trans HLT.out hT.2.size); replace HR1 := Lib.hid hT.1; replace HM := Lib.hid (HM.out.trans hT.2 (fun x hx => .inl hx)); (try (replace HG := Lib.hid (HG.out.took hT.2 hrz); (try clear HFZ c0 c1 c2 c3 c4 c5); have HFZ := fun i => HG.out.blk.frozen i; obtain ⟨c0, c1, c2, c3, c4, c5⟩ := six_cells (m := g0) HG.out.blk)); clear hT; replace HS := HR1.out.ptr)
        | (go_at_call 55; refine (num_alloc wb.drew _ w.heap.size r b _ HR1.out wb.heap.size rfl hrz HLT.out).mono ?_; rintro x w2 ⟨rfl, hR9, hM9, hG9⟩; replace HLT := Lib.hid (Nat.le_trans HLT.out hM9.size); replace HR1 := Lib.hid hR9; replace HM := Lib.hid (HM.out.trans hM9 (fun x hx => .inl hx)); have HG := Lib.hid hG9; clear hR9 hM9 hG9; replace HS := HR1.out.ptr; have HFZ := fun i => HG.out.blk.frozen i; obtain ⟨c0, c1, c2, c3, c4, c5⟩ := six_cells (m := g0) HG.out.blk)
        | (go_at_call 55; refine (num_alloc wb.drew _ w.heap.size r b _ HR1.out _ rfl hrz HLT.out).mono ?_; rintro x w2 ⟨rfl, hR9, hM9, hG9⟩; replace HLT := Lib.hid (Nat.le_trans HLT.out hM9.size); replace HR1 := Lib.hid hR9; replace HM := Lib.hid (HM.out.trans hM9 (fun x hx => .inl hx)); have HG := Lib.hid hG9; clear hR9 hM9 hG9; replace HS := HR1.out.ptr; have HFZ := fun i => HG.out.blk.frozen i; obtain ⟨c0, c1, c2, c3, c4, c5⟩ := six_cells (m := g0) HG.out.blk)
        | (go_at_call 81; refine (text_alloc wb.drew _ w.heap.size r b _ HR1.out wb.heap.size rfl hrz HLT.out).mono ?_; rintro x w2 ⟨rfl, hR9, hM9, hG9⟩; replace HLT := Lib.hid (Nat.le_trans HLT.out hM9.size); replace HR1 := Lib.hid hR9; replace HM := Lib.hid (HM.out.trans hM9 (fun x hx => .inl hx)); have HG := Lib.hid hG9; clear hR9 hM9 hG9; replace HS := HR1.out.ptr; have HFZ := fun i => HG.out.blk.frozen i; obtain ⟨c0, c1, c2, c3, c4, c5⟩ := six_cells (m := g0) HG.out.blk)
        | (go_at_call 81; refine (text_alloc wb.drew _ w.heap.size r b _ HR1.out _ rfl hrz HLT.out).mono ?_; rintro x w2 ⟨rfl, hR9, hM9, hG9⟩; replace HLT := Lib.hid (Nat.le_trans HLT.out hM9.size); replace HR1 := Lib.hid hR9; replace HM := Lib.hid (HM.out.trans hM9 (fun x hx => .inl hx)); have HG := Lib.hid hG9; clear hR9 hM9 hG9; replace HS := HR1.out.ptr; have HFZ := fun i => HG.out.blk.frozen i; obtain ⟨c0, c1, c2, c3, c4, c5⟩ := six_cells (m := g0) HG.out.blk))
    all_goals
      go_wp2_with fail
      go_meet
      first
        | (have hG0 := HG.out; exact ⟨_, rfl, Lib.hid (fin6 hr hb HM0.out HZ.out HR1.out HM.out hG0 rfl HV.out (put6 (m0 := g0) (sv0 := .slice none 0 0) hG0.blk (gr3 s) (.slice none 0 0)))⟩)
        | exact ⟨_, rfl, Lib.hid (fin_of hr hb HM0.out HZ.out (RdAt.alloc HR1.out _) (HM.out.alloc _) (Nat.lt_of_lt_of_le HZ.out HLT.out) (Whole.new w2 26 (six (gr3 s) (.slice none 0 0))) rfl HV.out)⟩
  case rest =>
    obtain ⟨g, rfl, HF⟩ := hcut
    clear HR1 HM0 HV HZ
    go_wp2_with fail
    have HB := Lib.hid HF.out.both.drew
    have HS := HB.out.rd.ptr
    have hbz : b < wc.heap.size := HF.out.both.old.2.2.1
    go_region_held3 (fun w2 : World => w2.cell? ⟨w.heap.size, 0, none⟩ = some (.pointer (some ⟨r, 0, none⟩)))
      (first
        | (with_reducible exact HS)
        | (with_reducible (repeat (first | exact HS | refine (far_cell (Nat.lt_of_succ_lt HF.out.new) _).trans ?_)); done)
        | (go_keep; done))
      (first
        | (go_at_call 55; (with_reducible refine (num_tnum _ w.heap.size r b _ HB.out.rd).mono ?_); rintro x w1 ⟨rfl, hT⟩; replace HB := Lib.hid (HB.out.took hT); clear hT; (try clear c0 c1 c2 c3 c4 c5); (try clear f3 f4 f5); replace HS := HB.out.rd.ptr; have f3 := HB.out.blk.frozen 3; have f4 := HB.out.blk.frozen 4; have f5 := HB.out.blk.frozen 5; obtain ⟨c0, c1, c2, c3, c4, c5⟩ := six_cells HB.out.blk)
        | (go_at_call 57; refine (rstamp_any _ r b _ HB.out.rd.rd (Nat.lt_of_lt_of_le hbz HB.out.mod.size)).mono ?_; rintro x w1 ⟨lv, rfl, hG, hT⟩; have HBS := Lib.hid (HB.out.stamped hG hT); obtain ⟨A9, n9, hA9, hn9⟩ : ∃ A n, lv = .slice A (WM.tstamp 4 _).1.length n ∧ True := (let ⟨A, c, e, _, _⟩ := own_shape hG.1; ⟨A, c, e, trivial⟩); subst hA9; replace HB := Lib.hid HBS.out.both; clear hG; clear hT; (try clear c0 c1 c2 c3 c4 c5); (try clear f3 f4 f5); replace HS := HB.out.rd.ptr; have f3 := HB.out.blk.frozen 3; have f4 := HB.out.blk.frozen 4; have f5 := HB.out.blk.frozen 5; obtain ⟨c0, c1, c2, c3, c4, c5⟩ := six_cells HB.out.blk))
    all_goals
      have HB2 := Lib.hid (((HBS.out).stored 3 (.int .i64 (WM.tnum (st3 s)).1) ({ (gr3 s) with mode := (WM.tnum (st3 s)).1 } : Gr) rfl rfl).stored 5 (.int .i64 (WM.tnum (WM.tnum (st3 s)).2).1) ({ ({ (gr3 s) with mode := (WM.tnum (st3 s)).1 } : Gr) with term := (WM.tnum (WM.tnum (st3 s)).2).1 } : Gr) rfl rfl).put
      clear HB HBS HS c0 c1 c2 c3 c4 c5 f3 f4 f5
      generalize (((w1.setCell ⟨g, 3, none⟩ (.int .i64 (WM.tnum (st3 s)).1)).setCell ⟨g, 5, none⟩ (.int .i64 (WM.tnum (WM.tnum (st3 s)).2).1)).setCell ⟨g, 4, none⟩ (.slice A9 (WM.tstamp 4 (WM.tnum (WM.tnum (st3 s)).2).2).1.length n9)) = w3 at HB2 ⊢
      obtain ⟨c0, c1, c2, c3, c4, c5⟩ := six_cells HB2.out.blk
      have HRES := Lib.hid (HB2.out.mod.whole HF.out.res (by have := HF.out.new; have := HF.out.rlt; simp; omega))
      have z0 : w3.cell? ⟨w.heap.size + 1, 0, none⟩ = some (.int .i64 0) := HRES.out.cell 0
      have z1 : w3.cell? ⟨w.heap.size + 1, 1, none⟩ = some (.int .i64 0) := HRES.out.cell 1
      have z2 : w3.cell? ⟨w.heap.size + 1, 2, none⟩ = some (.string ⟨#[]⟩) := HRES.out.cell 2
      have z3 : w3.cell? ⟨w.heap.size + 1, 3, none⟩ = some (.int .i64 0) := HRES.out.cell 3
      have z4 : w3.cell? ⟨w.heap.size + 1, 4, none⟩ = some (.slice none 0 0) := HRES.out.cell 4
      have z5 : w3.cell? ⟨w.heap.size + 1, 5, none⟩ = some (.int .i64 0) := HRES.out.cell 5
      have f0 := HRES.out.frozen 0
      have f1 := HRES.out.frozen 1
      have f2 := HRES.out.frozen 2
      have f3 := HRES.out.frozen 3
      have f4 := HRES.out.frozen 4
      have f5 := HRES.out.frozen 5
      go_wp2_with fail
      refine bodyPost_ret (v := .agg (six (BM.grantT 4 s).1 (.slice A9 (WM.tstamp 4 (WM.tnum (WM.tnum (st3 s)).2).2).1.length n9))) (by simp [results, Try.results56, go_sem, z0, z1, z2, z3, z4, z5]; rfl) rfl ?_
      obtain ⟨k1, k2, k3⟩ := grant_end HF.out HB2.out hb (put6 (m0 := g0) HRES.out (BM.grantT 4 s).1 (.slice A9 (WM.tstamp 4 (WM.tnum (WM.tnum (st3 s)).2).2).1.length n9)).2
      exact ⟨_, rfl, k1, k2, k3⟩
end Go.Proofs.Ytboflkadabagfab
