/- What record bytes would be: the package's call (taken). -/
import Derived.Test.YtboflkadabagfabBkW8
namespace Go.Proofs.Ytboflkadabagfab
open Go.RowKit
open Oct (RAt BytesAt)
open BM (Gr Rc Bk g0 r0 b0)
set_option linter.unusedVariables false
set_option linter.unusedSimpArgs false
set_option maxRecDepth 100000
/-- Reader's box q, the reader r over bytes in b, the record's block g, the result's block z. -/
structure TakeSt (w w' : World) (q r b g : Nat) (s : WM.St) (m : Rc) (sv tv : Value) : Prop where
  rd : RdAt w' q r b s
  blk : Whole w' g 28 (twelve m sv tv)
  res : Whole w' w.heap.size 28 z12
  below : Below w.heap.size w w'
  rb : w.heap.size < r ∧ w.heap.size < b ∧ b < w'.heap.size
  hq : w.heap.size < q
  gq : g ≠ q
  gr : g ≠ r
  gb : g ≠ b
  hg : w.heap.size < g
  own1 : w'.ownsRow w.heap.size 3 1 sv m.g.stamp.length (i64s m.g.stamp)
  own2 : w'.ownsRow w.heap.size 3 1 tv m.stamp.length (i64s m.stamp)
  ne1 : sv.ownBlock ≠ some g
  ne2 : tv.ownBlock ≠ some g
  nr1 : sv.ownBlock ≠ some r
  nr2 : tv.ownBlock ≠ some r
section
variable {w w' w'' : World} {q r b g : Nat} {s s' : WM.St} {m m' : Rc} {sv tv sv' tv' : Value}
theorem TakeSt.mod (h : TakeSt w w' q r b g s m sv tv) (hm : Mod [r] w' w'') (hr : RAt w'' r b s'.1 s'.2) : TakeSt w w'' q r b g s' m sv tv :=
  ⟨⟨hm.whole h.rd.at_ (by simpa using h.rd.ne), hr, h.rd.ne⟩, hm.whole h.blk (by simpa using h.gr), hm.whole h.res (by have := h.rb.1; simp; omega), h.below.trans (hm.below h.below.size (by intro x hx; have := h.rb.1; simp at hx; omega)),
    ⟨h.rb.1, h.rb.2.1, Nat.lt_of_lt_of_le h.rb.2.2 hm.size⟩, h.hq, h.gq, h.gr, h.gb, h.hg, hm.own h.own1 (fun k hk e => by simp at e; subst e; exact h.nr1 hk), hm.own h.own2 (fun k hk e => by simp at e; subst e; exact h.nr2 hk), h.ne1, h.ne2, h.nr1, h.nr2⟩
theorem TakeSt.took (h : TakeSt w w' q r b g s m sv tv) (k : Took w' q r b s' w'') : TakeSt w w'' q r b g s' m sv tv := h.mod k.2 k.1.rd
theorem TakeSt.drew (h : TakeSt w w' q r b g s m sv tv) : TakeSt w w'.drew q r b g s m sv tv :=
  ⟨h.rd.drew, h.blk, h.res, h.below.drew, h.rb, h.hq, h.gq, h.gr, h.gb, h.hg, h.own1, h.own2, h.ne1, h.ne2, h.nr1, h.nr2⟩
theorem TakeSt.stored (h : TakeSt w w' q r b g s m sv tv) (i : Nat) (v : Value) (m' : Rc) (he : (twelve m sv tv).setIfInBounds i v = twelve m' sv tv) (h1 : m'.g.stamp = m.g.stamp) (h2 : m'.stamp = m.stamp) : TakeSt w (w'.setCell ⟨g, i, none⟩ v) q r b g s m' sv tv :=
  ⟨h.rd.far h.gq h.gr h.gb v, by have k := h.blk.store i v; rw [he] at k; exact k, h.res.far (by have := h.hg; show w.heap.size ≠ g; omega) v, h.below.setCell (Nat.le_of_lt h.hg) v,
    ⟨h.rb.1, h.rb.2.1, by have := h.rb.2.2; simpa using this⟩, h.hq, h.gq, h.gr, h.gb, h.hg, by rw [h1]; exact own_far h.own1 h.ne1 v, by rw [h2]; exact own_far h.own2 h.ne2 v, h.ne1, h.ne2, h.nr1, h.nr2⟩
theorem TakeSt.putStamp (h : TakeSt w w' q r b g s m sv tv) {l : List Int} {lv : Value} (ho : w'.ownsRow w.heap.size 3 1 lv l.length (i64s l)) (hg : lv.ownBlock ≠ some g) (hr : lv.ownBlock ≠ some r) : TakeSt w (w'.setCell ⟨g, 8, none⟩ lv) q r b g s { m with stamp := l } sv lv :=
  ⟨h.rd.far h.gq h.gr h.gb lv, h.blk.store 8 lv, h.res.far (by have := h.hg; show w.heap.size ≠ g; omega) lv, h.below.setCell (Nat.le_of_lt h.hg) lv,
    ⟨h.rb.1, h.rb.2.1, by have := h.rb.2.2; simpa using this⟩, h.hq, h.gq, h.gr, h.gb, h.hg, own_far h.own1 h.ne1 lv, own_far ho hg lv, h.ne1, hg, h.nr1, hr⟩
theorem twelve_cells (h : Whole w g 28 (twelve m sv tv)) : w.cell? ⟨g, 0, none⟩ = some (.int .i64 m.kind) ∧ w.cell? ⟨g, 1, none⟩ = some (.int .i64 m.g.id) ∧ w.cell? ⟨g, 2, none⟩ = some (.int .i64 m.g.holder) ∧ w.cell? ⟨g, 3, none⟩ = some (.string m.g.path) ∧ w.cell? ⟨g, 4, none⟩ = some (.int .i64 m.g.mode) ∧ w.cell? ⟨g, 5, none⟩ = some sv ∧ w.cell? ⟨g, 6, none⟩ = some (.int .i64 m.g.term) ∧
    w.cell? ⟨g, 7, none⟩ = some (.int .i64 m.id) ∧ w.cell? ⟨g, 8, none⟩ = some tv ∧ w.cell? ⟨g, 9, none⟩ = some (.int .i64 m.next) ∧ w.cell? ⟨g, 10, none⟩ = some (.int .i64 m.boots) ∧ w.cell? ⟨g, 11, none⟩ = some (.int .i64 m.longest) :=
  ⟨h.cell 0, h.cell 1, h.cell 2, h.cell 3, h.cell 4, h.cell 5, h.cell 6, h.cell 7, h.cell 8, h.cell 9, h.cell 10, h.cell 11⟩
end
theorem put12 (w : World) (g : Nat) (m : Rc) (sv tv : Value) : Mod [g] w ((((((((((((w.setCell ⟨g, 0, none⟩ (.int .i64 m.kind)).setCell ⟨g, 1, none⟩ (.int .i64 m.g.id)).setCell ⟨g, 2, none⟩ (.int .i64 m.g.holder)).setCell ⟨g, 3, none⟩ (.string m.g.path)).setCell ⟨g, 4, none⟩ (.int .i64 m.g.mode)).setCell ⟨g, 5, none⟩ sv).setCell ⟨g, 6, none⟩ (.int .i64 m.g.term)).setCell ⟨g, 7, none⟩ (.int .i64 m.id)).setCell ⟨g, 8, none⟩ tv).setCell ⟨g, 9, none⟩ (.int .i64 m.next)).setCell ⟨g, 10, none⟩ (.int .i64 m.boots)).setCell ⟨g, 11, none⟩ (.int .i64 m.longest)) := (((((((((((((Mod.refl [g] w).store (p := ⟨g, 0, none⟩) (.inl (by simp)) (.int .i64 m.kind)).store (p := ⟨g, 1, none⟩) (.inl (by simp)) (.int .i64 m.g.id)).store (p := ⟨g, 2, none⟩) (.inl (by simp)) (.int .i64 m.g.holder)).store (p := ⟨g, 3, none⟩) (.inl (by simp)) (.string m.g.path)).store (p := ⟨g, 4, none⟩) (.inl (by simp)) (.int .i64 m.g.mode)).store (p := ⟨g, 5, none⟩) (.inl (by simp)) sv).store (p := ⟨g, 6, none⟩) (.inl (by simp)) (.int .i64 m.g.term)).store (p := ⟨g, 7, none⟩) (.inl (by simp)) (.int .i64 m.id)).store (p := ⟨g, 8, none⟩) (.inl (by simp)) tv).store (p := ⟨g, 9, none⟩) (.inl (by simp)) (.int .i64 m.next)).store (p := ⟨g, 10, none⟩) (.inl (by simp)) (.int .i64 m.boots)).store (p := ⟨g, 11, none⟩) (.inl (by simp)) (.int .i64 m.longest))
theorem TakeSt.putGrant {w w' : World} {q r b g : Nat} {s : WM.St} {m : Rc} {sv tv : Value} (h : TakeSt w w' q r b g s m sv tv) (x : Gr) {xv : Value} (ho : w'.ownsRow w.heap.size 3 1 xv x.stamp.length (i64s x.stamp)) (hg : xv.ownBlock ≠ some g) (hr : xv.ownBlock ≠ some r) : TakeSt w ((((((w'.setCell ⟨g, 1, none⟩ (.int .i64 x.id)).setCell ⟨g, 2, none⟩ (.int .i64 x.holder)).setCell ⟨g, 3, none⟩ (.string x.path)).setCell ⟨g, 4, none⟩ (.int .i64 x.mode)).setCell ⟨g, 5, none⟩ xv).setCell ⟨g, 6, none⟩ (.int .i64 x.term)) q r b g s { m with g := x } xv tv := by
  have hM : Mod [g] w' ((((((w'.setCell ⟨g, 1, none⟩ (.int .i64 x.id)).setCell ⟨g, 2, none⟩ (.int .i64 x.holder)).setCell ⟨g, 3, none⟩ (.string x.path)).setCell ⟨g, 4, none⟩ (.int .i64 x.mode)).setCell ⟨g, 5, none⟩ xv).setCell ⟨g, 6, none⟩ (.int .i64 x.term)) := (((((((Mod.refl [g] w').store (p := ⟨g, 1, none⟩) (.inl (by simp)) (.int .i64 x.id)).store (p := ⟨g, 2, none⟩) (.inl (by simp)) (.int .i64 x.holder)).store (p := ⟨g, 3, none⟩) (.inl (by simp)) (.string x.path)).store (p := ⟨g, 4, none⟩) (.inl (by simp)) (.int .i64 x.mode)).store (p := ⟨g, 5, none⟩) (.inl (by simp)) xv).store (p := ⟨g, 6, none⟩) (.inl (by simp)) (.int .i64 x.term))
  have hB : Whole ((((((w'.setCell ⟨g, 1, none⟩ (.int .i64 x.id)).setCell ⟨g, 2, none⟩ (.int .i64 x.holder)).setCell ⟨g, 3, none⟩ (.string x.path)).setCell ⟨g, 4, none⟩ (.int .i64 x.mode)).setCell ⟨g, 5, none⟩ xv).setCell ⟨g, 6, none⟩ (.int .i64 x.term)) g 28 (twelve { m with g := x } xv tv) := ((((((h.blk.store 1 (.int .i64 x.id)).store 2 (.int .i64 x.holder)).store 3 (.string x.path)).store 4 (.int .i64 x.mode)).store 5 xv).store 6 (.int .i64 x.term))
  obtain ⟨A, c, h1, h2, h3, h4, h5⟩ := h.rd.rd
  refine ⟨⟨hM.whole h.rd.at_ (by simpa using Ne.symm h.gq), ⟨A, c, hM.whole h1 (by simpa using Ne.symm h.gr), h2.mod hM (fun ad e => by rw [h5 ad e]; simpa using Ne.symm h.gb), h3, h4, h5⟩, h.rd.ne⟩, hB, hM.whole h.res (by have := h.hg; simp; omega), h.below.trans (hM.below h.below.size (by intro x hx; have := h.hg; simp at hx; omega)),
    ⟨h.rb.1, h.rb.2.1, Nat.lt_of_lt_of_le h.rb.2.2 hM.size⟩, h.hq, h.gq, h.gr, h.gb, h.hg, hM.own ho (fun k hk e => by simp at e; subst e; exact hg hk), hM.own h.own2 (fun k hk e => by simp at e; subst e; exact h.ne2 hk), hg, h.ne2, hr, h.nr2⟩
/-- What is answered: a record's value, whose lists are the call's own. -/
def TakenPost (w : World) (xs : List UInt8) (e : Ending) (w' : World) : Prop := ∃ v u, e = .returned (.agg (twelve (BM.taken 4 xs) v u)) ∧ w'.ownsRow w.heap.size 3 1 v (BM.taken 4 xs).g.stamp.length (i64s (BM.taken 4 xs).g.stamp) ∧ w'.ownsRow w.heap.size 3 1 u (BM.taken 4 xs).stamp.length (i64s (BM.taken 4 xs).stamp) ∧ Below w.heap.size w w'
def kindOf (xs : List UInt8) : Int := (WM.tnum (xs, 0)).1
def restOf (xs : List UInt8) : WM.St := (WM.tnum (xs, 0)).2
theorem taken_eq (xs : List UInt8) : BM.taken 4 xs = BM.partT 4 (kindOf xs) (restOf xs) := rfl
theorem take_end {w w3 w4 : World} {q r b g : Nat} {s : WM.St} {m : Rc} {sv tv : Value} {xs : List UInt8} (h : TakeSt w w3 q r b g s m sv tv) (hm : BM.taken 4 xs = m) (h4 : Mod [w.heap.size] w3 w4) (k1 : sv.ownBlock ≠ some w.heap.size) (k2 : tv.ownBlock ≠ some w.heap.size) :
    TakenPost w xs (.returned (.agg (twelve m sv tv))) w4 := by
  subst hm
  exact ⟨sv, tv, rfl, h4.own h.own1 (fun k hk e => by simp at e; subst e; exact k1 hk), h4.own h.own2 (fun k hk e => by simp at e; subst e; exact k2 hk), h.below.trans (h4.below h.below.size (by intro x hx; simp at hx; omega))⟩
theorem own_not {w : World} {base b : Nat} {e : TypeId} {z n : Nat} {v : Value} {xs : List Value} (h : w.ownsRow base e z v n xs) (hb : b < base) : v.ownBlock ≠ some b := fun e => by have := (h.lt b e).1; omega
theorem own_notT {w : World} {base g : Nat} {n : Nat} {v : Value} {xs : List Value} {cs : Array Value} (h : w.ownsRow base 3 1 v n xs) (hg : Whole w g 28 cs) : v.ownBlock ≠ some g := own_ne h hg (by decide)
theorem own_notR {w : World} {base g b : Nat} {n : Nat} {v : Value} {xs : List Value} {l : List UInt8} {e : Nat} (h : w.ownsRow base 3 1 v n xs) (hg : RAt w g b l e) : v.ownBlock ≠ some g := by
  obtain ⟨A, c, h1, _⟩ := hg
  exact own_ne h h1 (by decide)
theorem far_other {w : World} {g q i : Nat} (h : g ≠ q) (v : Value) : (w.setCell ⟨g, i, none⟩ v).cell? ⟨q, 0, none⟩ = w.cell? ⟨q, 0, none⟩ :=
  World.cell?_of_block (w := w) (Below.heap_setCell w ⟨g, i, none⟩ v q (Ne.symm h))
set_option maxHeartbeats 8000000 in
theorem taken_1 (A : Option Addr) (c : Nat) (xs : List UInt8) (w : World) (h : BytesAt w A xs) (hl : xs.length ≤ 140737488355328) (hk : kindOf xs = 1) :
    Calls Try.prog 23 #[.slice A xs.length c] w (TakenPost w xs) := by
  have HA := Lib.hid h; clear h
  have HK := Lib.hid hk; clear hk
  go_enter Try.func23, Try.ntmps23
  go_wp2_with fail
  have HZ := Lib.hid (show w.heap.size + 1 = (w.alloc (.cells #[.int .i64 0, .int .i64 0, .int .i64 0, .string ⟨#[]⟩, .int .i64 0, .slice none 0 0, .int .i64 0, .int .i64 0, .slice none 0 0, .int .i64 0, .int .i64 0, .int .i64 0] 28)).heap.size by simp)
  have HB0 := Lib.hid ((Below.refl _ w).alloc (Nat.le_refl _) (.cells #[.int .i64 0, .int .i64 0, .int .i64 0, .string ⟨#[]⟩, .int .i64 0, .slice none 0 0, .int .i64 0, .int .i64 0, .slice none 0 0, .int .i64 0, .int .i64 0, .int .i64 0] 28))
  have HV := Lib.hid (Whole.new w 28 #[.int .i64 0, .int .i64 0, .int .i64 0, .string ⟨#[]⟩, .int .i64 0, .slice none 0 0, .int .i64 0, .int .i64 0, .slice none 0 0, .int .i64 0, .int .i64 0, .int .i64 0])
  generalize w.alloc (.cells #[.int .i64 0, .int .i64 0, .int .i64 0, .string ⟨#[]⟩, .int .i64 0, .slice none 0 0, .int .i64 0, .int .i64 0, .slice none 0 0, .int .i64 0, .int .i64 0, .int .i64 0] 28) = wa at HZ HB0 HV ⊢
  refine (Oct.NewReader_any A c xs wa (HA.out.below HB0.out) hl).mono ?_
  rintro e w1 ⟨r, b, rfl, hR, hb1, hr1, hr2, hbb1, hbb2⟩
  have HB1 := Lib.hid (below_on HB0.out hb1)
  have HV1 := Lib.hid ((Mod.of_below hb1 []).whole HV.out (by simp))
  clear hb1
  have HN := Lib.hid (show w.heap.size < r ∧ r < w1.heap.size ∧ w.heap.size < b ∧ b < w1.heap.size from ⟨by rw [← HZ.out] at hr1; omega, hr2, by rw [← HZ.out] at hbb1; omega, hbb2⟩)
  clear hr1 hr2 hbb1 hbb2
  have HR1 := Lib.hid (show RdAt (w1.alloc (.cells #[.pointer (some ⟨r, 0, none⟩)] 95)) w1.heap.size r b (xs, 0) from ⟨Whole.new _ _ _, rat_alloc hR _, by have := HN.out; omega⟩)
  have HM1 := Lib.hid ((Mod.refl [r] w1).alloc (.cells #[.pointer (some ⟨r, 0, none⟩)] 95))
  have HQZ := Lib.hid (show w1.heap.size < (w1.alloc (.cells #[.pointer (some ⟨r, 0, none⟩)] 95)).heap.size by simp)
  clear hR HV HB0 HA HZ
  have HS := HR1.out.ptr
  go_wp2_with fail
  refine (num_tnum _ w1.heap.size r b _ HR1.out).mono ?_
  rintro e w2 ⟨rfl, hT⟩
  clear HS
  rw [show (WM.tnum (xs, 0)).1 = 1 from HK.out]
  have HR2 := Lib.hid hT.1
  have HM2 := Lib.hid (HM1.out.trans hT.2 (fun x hx => .inl hx))
  have HZ2 := Lib.hid (Nat.lt_of_lt_of_le HQZ.out hT.2.size)
  clear hT HR1 HM1
  have HT := Lib.hid (show TakeSt w (w2.alloc (.cells (twelve ({ r0 with kind := 1 } : Rc) (.slice none 0 0) (.slice none 0 0)) 28)) w1.heap.size r b w2.heap.size (restOf xs) ({ r0 with kind := 1 } : Rc) (.slice none 0 0) (.slice none 0 0) from by
    have hn := HN.out
    have hz := HM2.out.size
    have hz1 := HB1.out.size
    have hz2 := HZ2.out
    have hv := HV1.out.lt
    exact ⟨RdAt.alloc HR2.out _, Whole.new _ _ _, (HM2.out.whole HV1.out (by simp; omega)).alloc _, (HB1.out.trans (HM2.out.below hz1 (by intro x hx; simp at hx; omega))).alloc (by omega) _, ⟨hn.1, hn.2.2.1, by simp; omega⟩, by omega, by omega, by omega, by omega, by omega,
      World.ownsRow_nil _ _ _ _, World.ownsRow_nil _ _ _ _, by simp [Value.ownBlock], by simp [Value.ownBlock], by simp [Value.ownBlock], by simp [Value.ownBlock]⟩)
  clear HR2 HM2 HZ2 HV1 HB1 HQZ HN
  go_upto_region 4 with (fail)
  change Code.wp _ _ _ _ (w2.alloc (.cells (twelve ({ r0 with kind := 1 } : Rc) (.slice none 0 0) (.slice none 0 0)) 28))
  generalize w2.alloc (.cells (twelve ({ r0 with kind := 1 } : Rc) (.slice none 0 0) (.slice none 0 0)) 28) = wb at HT ⊢
  generalize w2.heap.size = g at HT ⊢
  generalize w1.heap.size = q at HT ⊢
  have HGQ := Lib.hid HT.out.gq
  have c0 : wb.cell? ⟨g, 0, none⟩ = some (.int .i64 1) := HT.out.blk.cell 0
  go_wp2_with fail
  replace HT := Lib.hid HT.out.drew
  clear c0
  have HS := HT.out.rd.ptr
  go_region_held3 (fun w2 : World => w2.cell? ⟨q, 0, none⟩ = some (.pointer (some ⟨r, 0, none⟩)))
    (first | (with_reducible exact HS) | (with_reducible (repeat (first | exact HS | refine (far_other HGQ.out _).trans ?_)); done) | (go_keep; done))
    (first | (go_at_call 55; (with_reducible refine (num_tnum _ q r b _ HT.out.rd).mono ?_); rintro x w2 ⟨rfl, hT⟩; replace HT := Lib.hid (HT.out.took hT); clear hT; (try clear c0 c1 c2 c3 c4 c5 c6 c7 c8 c9 c10 c11); (try clear HFZ); replace HS := HT.out.rd.ptr; have HFZ := fun i => HT.out.blk.frozen i; obtain ⟨c0, c1, c2, c3, c4, c5, c6, c7, c8, c9, c10, c11⟩ := twelve_cells HT.out.blk))
  clear HS c0 c1 c2 c3 c4 c5 c6 c7 c8 c9 c10 c11 HFZ
  replace HT := Lib.hid (HT.out.stored 9 (.int .i64 (WM.tnum (restOf xs)).1) ({ ({ r0 with kind := 1 } : Rc) with next := (WM.tnum (restOf xs)).1 } : Rc) rfl rfl rfl)
  replace HT := Lib.hid (HT.out.stored 10 (.int .i64 (WM.tnum (WM.tnum (restOf xs)).2).1) ({ ({ ({ r0 with kind := 1 } : Rc) with next := (WM.tnum (restOf xs)).1 } : Rc) with boots := (WM.tnum (WM.tnum (restOf xs)).2).1 } : Rc) rfl rfl rfl)
  generalize World.setCell (World.setCell w2 _ _) _ _ = w3 at HT ⊢
  have HM := Lib.hid (show BM.taken 4 xs = ({ ({ ({ r0 with kind := 1 } : Rc) with next := (WM.tnum (restOf xs)).1 } : Rc) with boots := (WM.tnum (WM.tnum (restOf xs)).2).1 } : Rc) from by rw [taken_eq]; unfold BM.partT; simp [HK.out])
  (try clear c0 c1 c2 c3 c4 c5 c6 c7 c8 c9 c10 c11)
  obtain ⟨c0, c1, c2, c3, c4, c5, c6, c7, c8, c9, c10, c11⟩ := twelve_cells HT.out.blk
  have z0 := HT.out.res.cell 0
  have f0 := HT.out.res.frozen 0
  have z1 := HT.out.res.cell 1
  have f1 := HT.out.res.frozen 1
  have z2 := HT.out.res.cell 2
  have f2 := HT.out.res.frozen 2
  have z3 := HT.out.res.cell 3
  have f3 := HT.out.res.frozen 3
  have z4 := HT.out.res.cell 4
  have f4 := HT.out.res.frozen 4
  have z5 := HT.out.res.cell 5
  have f5 := HT.out.res.frozen 5
  have z6 := HT.out.res.cell 6
  have f6 := HT.out.res.frozen 6
  have z7 := HT.out.res.cell 7
  have f7 := HT.out.res.frozen 7
  have z8 := HT.out.res.cell 8
  have f8 := HT.out.res.frozen 8
  have z9 := HT.out.res.cell 9
  have f9 := HT.out.res.frozen 9
  have z10 := HT.out.res.cell 10
  have f10 := HT.out.res.frozen 10
  have z11 := HT.out.res.cell 11
  have f11 := HT.out.res.frozen 11
  simp only [z12, List.getElem?_toArray, List.getElem?_cons_zero, List.getElem?_cons_succ] at z0 z1 z2 z3 z4 z5 z6 z7 z8 z9 z10 z11
  go_wp2_with fail
  refine bodyPost_ret (v := .agg (twelve ({ ({ ({ r0 with kind := 1 } : Rc) with next := (WM.tnum (restOf xs)).1 } : Rc) with boots := (WM.tnum (WM.tnum (restOf xs)).2).1 } : Rc) (.slice none 0 0) (.slice none 0 0))) (by simp [results, Try.results23, go_sem, z0, z1, z2, z3, z4, z5, z6, z7, z8, z9, z10, z11, twelve, BM.r0, BM.g0]) rfl ?_
  exact take_end HT.out HM.out (put12 _ w.heap.size ({ ({ ({ r0 with kind := 1 } : Rc) with next := (WM.tnum (restOf xs)).1 } : Rc) with boots := (WM.tnum (WM.tnum (restOf xs)).2).1 } : Rc) (.slice none 0 0) (.slice none 0 0)) (own_ne HT.out.own1 HT.out.res (by decide)) (own_ne HT.out.own2 HT.out.res (by decide))
set_option maxHeartbeats 8000000 in
theorem taken_2 (A : Option Addr) (c : Nat) (xs : List UInt8) (w : World) (h : BytesAt w A xs) (hl : xs.length ≤ 140737488355328) (hk : kindOf xs = 2) :
    Calls Try.prog 23 #[.slice A xs.length c] w (TakenPost w xs) := by
  have HA := Lib.hid h; clear h
  have HK := Lib.hid hk; clear hk
  go_enter Try.func23, Try.ntmps23
  go_wp2_with fail
  have HZ := Lib.hid (show w.heap.size + 1 = (w.alloc (.cells #[.int .i64 0, .int .i64 0, .int .i64 0, .string ⟨#[]⟩, .int .i64 0, .slice none 0 0, .int .i64 0, .int .i64 0, .slice none 0 0, .int .i64 0, .int .i64 0, .int .i64 0] 28)).heap.size by simp)
  have HB0 := Lib.hid ((Below.refl _ w).alloc (Nat.le_refl _) (.cells #[.int .i64 0, .int .i64 0, .int .i64 0, .string ⟨#[]⟩, .int .i64 0, .slice none 0 0, .int .i64 0, .int .i64 0, .slice none 0 0, .int .i64 0, .int .i64 0, .int .i64 0] 28))
  have HV := Lib.hid (Whole.new w 28 #[.int .i64 0, .int .i64 0, .int .i64 0, .string ⟨#[]⟩, .int .i64 0, .slice none 0 0, .int .i64 0, .int .i64 0, .slice none 0 0, .int .i64 0, .int .i64 0, .int .i64 0])
  generalize w.alloc (.cells #[.int .i64 0, .int .i64 0, .int .i64 0, .string ⟨#[]⟩, .int .i64 0, .slice none 0 0, .int .i64 0, .int .i64 0, .slice none 0 0, .int .i64 0, .int .i64 0, .int .i64 0] 28) = wa at HZ HB0 HV ⊢
  refine (Oct.NewReader_any A c xs wa (HA.out.below HB0.out) hl).mono ?_
  rintro e w1 ⟨r, b, rfl, hR, hb1, hr1, hr2, hbb1, hbb2⟩
  have HB1 := Lib.hid (below_on HB0.out hb1)
  have HV1 := Lib.hid ((Mod.of_below hb1 []).whole HV.out (by simp))
  clear hb1
  have HN := Lib.hid (show w.heap.size < r ∧ r < w1.heap.size ∧ w.heap.size < b ∧ b < w1.heap.size from ⟨by rw [← HZ.out] at hr1; omega, hr2, by rw [← HZ.out] at hbb1; omega, hbb2⟩)
  clear hr1 hr2 hbb1 hbb2
  have HR1 := Lib.hid (show RdAt (w1.alloc (.cells #[.pointer (some ⟨r, 0, none⟩)] 95)) w1.heap.size r b (xs, 0) from ⟨Whole.new _ _ _, rat_alloc hR _, by have := HN.out; omega⟩)
  have HM1 := Lib.hid ((Mod.refl [r] w1).alloc (.cells #[.pointer (some ⟨r, 0, none⟩)] 95))
  have HQZ := Lib.hid (show w1.heap.size < (w1.alloc (.cells #[.pointer (some ⟨r, 0, none⟩)] 95)).heap.size by simp)
  clear hR HV HB0 HA HZ
  have HS := HR1.out.ptr
  go_wp2_with fail
  refine (num_tnum _ w1.heap.size r b _ HR1.out).mono ?_
  rintro e w2 ⟨rfl, hT⟩
  clear HS
  rw [show (WM.tnum (xs, 0)).1 = 2 from HK.out]
  have HR2 := Lib.hid hT.1
  have HM2 := Lib.hid (HM1.out.trans hT.2 (fun x hx => .inl hx))
  have HZ2 := Lib.hid (Nat.lt_of_lt_of_le HQZ.out hT.2.size)
  clear hT HR1 HM1
  have HT := Lib.hid (show TakeSt w (w2.alloc (.cells (twelve ({ r0 with kind := 2 } : Rc) (.slice none 0 0) (.slice none 0 0)) 28)) w1.heap.size r b w2.heap.size (restOf xs) ({ r0 with kind := 2 } : Rc) (.slice none 0 0) (.slice none 0 0) from by
    have hn := HN.out
    have hz := HM2.out.size
    have hz1 := HB1.out.size
    have hz2 := HZ2.out
    have hv := HV1.out.lt
    exact ⟨RdAt.alloc HR2.out _, Whole.new _ _ _, (HM2.out.whole HV1.out (by simp; omega)).alloc _, (HB1.out.trans (HM2.out.below hz1 (by intro x hx; simp at hx; omega))).alloc (by omega) _, ⟨hn.1, hn.2.2.1, by simp; omega⟩, by omega, by omega, by omega, by omega, by omega,
      World.ownsRow_nil _ _ _ _, World.ownsRow_nil _ _ _ _, by simp [Value.ownBlock], by simp [Value.ownBlock], by simp [Value.ownBlock], by simp [Value.ownBlock]⟩)
  clear HR2 HM2 HZ2 HV1 HB1 HQZ HN
  go_upto_region 4 with (fail)
  change Code.wp _ _ _ _ (w2.alloc (.cells (twelve ({ r0 with kind := 2 } : Rc) (.slice none 0 0) (.slice none 0 0)) 28))
  generalize w2.alloc (.cells (twelve ({ r0 with kind := 2 } : Rc) (.slice none 0 0) (.slice none 0 0)) 28) = wb at HT ⊢
  generalize w2.heap.size = g at HT ⊢
  generalize w1.heap.size = q at HT ⊢
  have HGQ := Lib.hid HT.out.gq
  have c0 : wb.cell? ⟨g, 0, none⟩ = some (.int .i64 2) := HT.out.blk.cell 0
  have HS := HT.out.rd.ptr
  go_wp2_with fail
  refine (num_tnum _ q r b _ HT.out.rd).mono ?_
  rintro x w2 ⟨rfl, hT⟩
  replace HT := Lib.hid (HT.out.took hT)
  clear hT HS c0
  have HFZ := fun i => HT.out.blk.frozen i
  obtain ⟨c0, c1, c2, c3, c4, c5, c6, c7, c8, c9, c10, c11⟩ := twelve_cells HT.out.blk
  have HT9 := Lib.hid (HT.out.stored 11 (.int .i64 (WM.tnum (restOf xs)).1) ({ ({ r0 with kind := 2 } : Rc) with longest := (WM.tnum (restOf xs)).1 } : Rc) rfl rfl rfl)
  go_upto_region 15 with (fail)
  clear HT HFZ c0 c1 c2 c3 c4 c5 c6 c7 c8 c9 c10 c11
  have HT := HT9; clear HT9
  generalize World.setCell w2 _ _ = w3 at HT ⊢
  have HM := Lib.hid (show BM.taken 4 xs = ({ ({ r0 with kind := 2 } : Rc) with longest := (WM.tnum (restOf xs)).1 } : Rc) from by rw [taken_eq]; unfold BM.partT; simp [HK.out])
  (try clear c0 c1 c2 c3 c4 c5 c6 c7 c8 c9 c10 c11)
  obtain ⟨c0, c1, c2, c3, c4, c5, c6, c7, c8, c9, c10, c11⟩ := twelve_cells HT.out.blk
  have z0 := HT.out.res.cell 0
  have f0 := HT.out.res.frozen 0
  have z1 := HT.out.res.cell 1
  have f1 := HT.out.res.frozen 1
  have z2 := HT.out.res.cell 2
  have f2 := HT.out.res.frozen 2
  have z3 := HT.out.res.cell 3
  have f3 := HT.out.res.frozen 3
  have z4 := HT.out.res.cell 4
  have f4 := HT.out.res.frozen 4
  have z5 := HT.out.res.cell 5
  have f5 := HT.out.res.frozen 5
  have z6 := HT.out.res.cell 6
  have f6 := HT.out.res.frozen 6
  have z7 := HT.out.res.cell 7
  have f7 := HT.out.res.frozen 7
  have z8 := HT.out.res.cell 8
  have f8 := HT.out.res.frozen 8
  have z9 := HT.out.res.cell 9
  have f9 := HT.out.res.frozen 9
  have z10 := HT.out.res.cell 10
  have f10 := HT.out.res.frozen 10
  have z11 := HT.out.res.cell 11
  have f11 := HT.out.res.frozen 11
  simp only [z12, List.getElem?_toArray, List.getElem?_cons_zero, List.getElem?_cons_succ] at z0 z1 z2 z3 z4 z5 z6 z7 z8 z9 z10 z11
  go_wp2_with fail
  refine bodyPost_ret (v := .agg (twelve ({ ({ r0 with kind := 2 } : Rc) with longest := (WM.tnum (restOf xs)).1 } : Rc) (.slice none 0 0) (.slice none 0 0))) (by simp [results, Try.results23, go_sem, z0, z1, z2, z3, z4, z5, z6, z7, z8, z9, z10, z11, twelve, BM.r0, BM.g0]) rfl ?_
  exact take_end HT.out HM.out (put12 _ w.heap.size ({ ({ r0 with kind := 2 } : Rc) with longest := (WM.tnum (restOf xs)).1 } : Rc) (.slice none 0 0) (.slice none 0 0)) (own_ne HT.out.own1 HT.out.res (by decide)) (own_ne HT.out.own2 HT.out.res (by decide))
set_option maxHeartbeats 8000000 in
theorem taken_3 (A : Option Addr) (c : Nat) (xs : List UInt8) (w : World) (h : BytesAt w A xs) (hl : xs.length ≤ 140737488355328) (hk : kindOf xs = 3) :
    Calls Try.prog 23 #[.slice A xs.length c] w (TakenPost w xs) := by
  have HA := Lib.hid h; clear h
  have HK := Lib.hid hk; clear hk
  go_enter Try.func23, Try.ntmps23
  go_wp2_with fail
  have HZ := Lib.hid (show w.heap.size + 1 = (w.alloc (.cells #[.int .i64 0, .int .i64 0, .int .i64 0, .string ⟨#[]⟩, .int .i64 0, .slice none 0 0, .int .i64 0, .int .i64 0, .slice none 0 0, .int .i64 0, .int .i64 0, .int .i64 0] 28)).heap.size by simp)
  have HB0 := Lib.hid ((Below.refl _ w).alloc (Nat.le_refl _) (.cells #[.int .i64 0, .int .i64 0, .int .i64 0, .string ⟨#[]⟩, .int .i64 0, .slice none 0 0, .int .i64 0, .int .i64 0, .slice none 0 0, .int .i64 0, .int .i64 0, .int .i64 0] 28))
  have HV := Lib.hid (Whole.new w 28 #[.int .i64 0, .int .i64 0, .int .i64 0, .string ⟨#[]⟩, .int .i64 0, .slice none 0 0, .int .i64 0, .int .i64 0, .slice none 0 0, .int .i64 0, .int .i64 0, .int .i64 0])
  generalize w.alloc (.cells #[.int .i64 0, .int .i64 0, .int .i64 0, .string ⟨#[]⟩, .int .i64 0, .slice none 0 0, .int .i64 0, .int .i64 0, .slice none 0 0, .int .i64 0, .int .i64 0, .int .i64 0] 28) = wa at HZ HB0 HV ⊢
  refine (Oct.NewReader_any A c xs wa (HA.out.below HB0.out) hl).mono ?_
  rintro e w1 ⟨r, b, rfl, hR, hb1, hr1, hr2, hbb1, hbb2⟩
  have HB1 := Lib.hid (below_on HB0.out hb1)
  have HV1 := Lib.hid ((Mod.of_below hb1 []).whole HV.out (by simp))
  clear hb1
  have HN := Lib.hid (show w.heap.size < r ∧ r < w1.heap.size ∧ w.heap.size < b ∧ b < w1.heap.size from ⟨by rw [← HZ.out] at hr1; omega, hr2, by rw [← HZ.out] at hbb1; omega, hbb2⟩)
  clear hr1 hr2 hbb1 hbb2
  have HR1 := Lib.hid (show RdAt (w1.alloc (.cells #[.pointer (some ⟨r, 0, none⟩)] 95)) w1.heap.size r b (xs, 0) from ⟨Whole.new _ _ _, rat_alloc hR _, by have := HN.out; omega⟩)
  have HM1 := Lib.hid ((Mod.refl [r] w1).alloc (.cells #[.pointer (some ⟨r, 0, none⟩)] 95))
  have HQZ := Lib.hid (show w1.heap.size < (w1.alloc (.cells #[.pointer (some ⟨r, 0, none⟩)] 95)).heap.size by simp)
  clear hR HV HB0 HA HZ
  have HS := HR1.out.ptr
  go_wp2_with fail
  refine (num_tnum _ w1.heap.size r b _ HR1.out).mono ?_
  rintro e w2 ⟨rfl, hT⟩
  clear HS
  rw [show (WM.tnum (xs, 0)).1 = 3 from HK.out]
  have HR2 := Lib.hid hT.1
  have HM2 := Lib.hid (HM1.out.trans hT.2 (fun x hx => .inl hx))
  have HZ2 := Lib.hid (Nat.lt_of_lt_of_le HQZ.out hT.2.size)
  clear hT HR1 HM1
  have HT := Lib.hid (show TakeSt w (w2.alloc (.cells (twelve ({ r0 with kind := 3 } : Rc) (.slice none 0 0) (.slice none 0 0)) 28)) w1.heap.size r b w2.heap.size (restOf xs) ({ r0 with kind := 3 } : Rc) (.slice none 0 0) (.slice none 0 0) from by
    have hn := HN.out
    have hz := HM2.out.size
    have hz1 := HB1.out.size
    have hz2 := HZ2.out
    have hv := HV1.out.lt
    exact ⟨RdAt.alloc HR2.out _, Whole.new _ _ _, (HM2.out.whole HV1.out (by simp; omega)).alloc _, (HB1.out.trans (HM2.out.below hz1 (by intro x hx; simp at hx; omega))).alloc (by omega) _, ⟨hn.1, hn.2.2.1, by simp; omega⟩, by omega, by omega, by omega, by omega, by omega,
      World.ownsRow_nil _ _ _ _, World.ownsRow_nil _ _ _ _, by simp [Value.ownBlock], by simp [Value.ownBlock], by simp [Value.ownBlock], by simp [Value.ownBlock]⟩)
  clear HR2 HM2 HZ2 HV1 HB1 HQZ HN
  go_upto_region 4 with (fail)
  change Code.wp _ _ _ _ (w2.alloc (.cells (twelve ({ r0 with kind := 3 } : Rc) (.slice none 0 0) (.slice none 0 0)) 28))
  generalize w2.alloc (.cells (twelve ({ r0 with kind := 3 } : Rc) (.slice none 0 0) (.slice none 0 0)) 28) = wb at HT ⊢
  generalize w2.heap.size = g at HT ⊢
  generalize w1.heap.size = q at HT ⊢
  have HGQ := Lib.hid HT.out.gq
  have c0 : wb.cell? ⟨g, 0, none⟩ = some (.int .i64 3) := HT.out.blk.cell 0
  have HS := HT.out.rd.ptr
  go_wp2_with fail
  refine (rgrant_any _ r b _ HT.out.rd.rd HT.out.rb.2.2).mono ?_
  rintro x w2 ⟨gv, rfl, ho, hM, hR⟩
  have HO := Lib.hid (own_base ho HT.out.below.size)
  clear ho
  replace HT := Lib.hid (HT.out.mod (s' := (BM.grantT 4 (restOf xs)).2) hM hR)
  clear hM hR HS c0
  have HFZ := fun i => HT.out.blk.frozen i
  obtain ⟨c0, c1, c2, c3, c4, c5, c6, c7, c8, c9, c10, c11⟩ := twelve_cells HT.out.blk
  have HT9 := Lib.hid (HT.out.putGrant (BM.grantT 4 (restOf xs)).1 HO.out (own_notT HO.out HT.out.blk) (own_notR HO.out HT.out.rd.rd))
  obtain ⟨AG, cG, hAG, _, _⟩ := own_shape HO.out
  subst hAG
  clear HO
  unfold six
  go_upto_region 15 with (fail)
  clear HT HFZ c0 c1 c2 c3 c4 c5 c6 c7 c8 c9 c10 c11
  have HT := HT9; clear HT9
  generalize World.setCell _ _ _ = w3 at HT ⊢
  have HM := Lib.hid (show BM.taken 4 xs = ({ ({ r0 with kind := 3 } : Rc) with g := (BM.grantT 4 (restOf xs)).1 } : Rc) from by rw [taken_eq]; unfold BM.partT; simp [HK.out])
  (try clear c0 c1 c2 c3 c4 c5 c6 c7 c8 c9 c10 c11)
  obtain ⟨c0, c1, c2, c3, c4, c5, c6, c7, c8, c9, c10, c11⟩ := twelve_cells HT.out.blk
  have z0 := HT.out.res.cell 0
  have f0 := HT.out.res.frozen 0
  have z1 := HT.out.res.cell 1
  have f1 := HT.out.res.frozen 1
  have z2 := HT.out.res.cell 2
  have f2 := HT.out.res.frozen 2
  have z3 := HT.out.res.cell 3
  have f3 := HT.out.res.frozen 3
  have z4 := HT.out.res.cell 4
  have f4 := HT.out.res.frozen 4
  have z5 := HT.out.res.cell 5
  have f5 := HT.out.res.frozen 5
  have z6 := HT.out.res.cell 6
  have f6 := HT.out.res.frozen 6
  have z7 := HT.out.res.cell 7
  have f7 := HT.out.res.frozen 7
  have z8 := HT.out.res.cell 8
  have f8 := HT.out.res.frozen 8
  have z9 := HT.out.res.cell 9
  have f9 := HT.out.res.frozen 9
  have z10 := HT.out.res.cell 10
  have f10 := HT.out.res.frozen 10
  have z11 := HT.out.res.cell 11
  have f11 := HT.out.res.frozen 11
  simp only [z12, List.getElem?_toArray, List.getElem?_cons_zero, List.getElem?_cons_succ] at z0 z1 z2 z3 z4 z5 z6 z7 z8 z9 z10 z11
  go_wp2_with fail
  refine bodyPost_ret (v := .agg (twelve ({ ({ r0 with kind := 3 } : Rc) with g := (BM.grantT 4 (restOf xs)).1 } : Rc) (.slice AG (BM.grantT 4 (restOf xs)).1.stamp.length cG) (.slice none 0 0))) (by simp [results, Try.results23, go_sem, z0, z1, z2, z3, z4, z5, z6, z7, z8, z9, z10, z11, twelve, BM.r0, BM.g0]) rfl ?_
  exact take_end HT.out HM.out (put12 _ w.heap.size ({ ({ r0 with kind := 3 } : Rc) with g := (BM.grantT 4 (restOf xs)).1 } : Rc) (.slice AG (BM.grantT 4 (restOf xs)).1.stamp.length cG) (.slice none 0 0)) (own_ne HT.out.own1 HT.out.res (by decide)) (own_ne HT.out.own2 HT.out.res (by decide))
set_option maxHeartbeats 8000000 in
theorem taken_4 (A : Option Addr) (c : Nat) (xs : List UInt8) (w : World) (h : BytesAt w A xs) (hl : xs.length ≤ 140737488355328) (hk : kindOf xs = 4) :
    Calls Try.prog 23 #[.slice A xs.length c] w (TakenPost w xs) := by
  have HA := Lib.hid h; clear h
  have HK := Lib.hid hk; clear hk
  go_enter Try.func23, Try.ntmps23
  go_wp2_with fail
  have HZ := Lib.hid (show w.heap.size + 1 = (w.alloc (.cells #[.int .i64 0, .int .i64 0, .int .i64 0, .string ⟨#[]⟩, .int .i64 0, .slice none 0 0, .int .i64 0, .int .i64 0, .slice none 0 0, .int .i64 0, .int .i64 0, .int .i64 0] 28)).heap.size by simp)
  have HB0 := Lib.hid ((Below.refl _ w).alloc (Nat.le_refl _) (.cells #[.int .i64 0, .int .i64 0, .int .i64 0, .string ⟨#[]⟩, .int .i64 0, .slice none 0 0, .int .i64 0, .int .i64 0, .slice none 0 0, .int .i64 0, .int .i64 0, .int .i64 0] 28))
  have HV := Lib.hid (Whole.new w 28 #[.int .i64 0, .int .i64 0, .int .i64 0, .string ⟨#[]⟩, .int .i64 0, .slice none 0 0, .int .i64 0, .int .i64 0, .slice none 0 0, .int .i64 0, .int .i64 0, .int .i64 0])
  generalize w.alloc (.cells #[.int .i64 0, .int .i64 0, .int .i64 0, .string ⟨#[]⟩, .int .i64 0, .slice none 0 0, .int .i64 0, .int .i64 0, .slice none 0 0, .int .i64 0, .int .i64 0, .int .i64 0] 28) = wa at HZ HB0 HV ⊢
  refine (Oct.NewReader_any A c xs wa (HA.out.below HB0.out) hl).mono ?_
  rintro e w1 ⟨r, b, rfl, hR, hb1, hr1, hr2, hbb1, hbb2⟩
  have HB1 := Lib.hid (below_on HB0.out hb1)
  have HV1 := Lib.hid ((Mod.of_below hb1 []).whole HV.out (by simp))
  clear hb1
  have HN := Lib.hid (show w.heap.size < r ∧ r < w1.heap.size ∧ w.heap.size < b ∧ b < w1.heap.size from ⟨by rw [← HZ.out] at hr1; omega, hr2, by rw [← HZ.out] at hbb1; omega, hbb2⟩)
  clear hr1 hr2 hbb1 hbb2
  have HR1 := Lib.hid (show RdAt (w1.alloc (.cells #[.pointer (some ⟨r, 0, none⟩)] 95)) w1.heap.size r b (xs, 0) from ⟨Whole.new _ _ _, rat_alloc hR _, by have := HN.out; omega⟩)
  have HM1 := Lib.hid ((Mod.refl [r] w1).alloc (.cells #[.pointer (some ⟨r, 0, none⟩)] 95))
  have HQZ := Lib.hid (show w1.heap.size < (w1.alloc (.cells #[.pointer (some ⟨r, 0, none⟩)] 95)).heap.size by simp)
  clear hR HV HB0 HA HZ
  have HS := HR1.out.ptr
  go_wp2_with fail
  refine (num_tnum _ w1.heap.size r b _ HR1.out).mono ?_
  rintro e w2 ⟨rfl, hT⟩
  clear HS
  rw [show (WM.tnum (xs, 0)).1 = 4 from HK.out]
  have HR2 := Lib.hid hT.1
  have HM2 := Lib.hid (HM1.out.trans hT.2 (fun x hx => .inl hx))
  have HZ2 := Lib.hid (Nat.lt_of_lt_of_le HQZ.out hT.2.size)
  clear hT HR1 HM1
  have HT := Lib.hid (show TakeSt w (w2.alloc (.cells (twelve ({ r0 with kind := 4 } : Rc) (.slice none 0 0) (.slice none 0 0)) 28)) w1.heap.size r b w2.heap.size (restOf xs) ({ r0 with kind := 4 } : Rc) (.slice none 0 0) (.slice none 0 0) from by
    have hn := HN.out
    have hz := HM2.out.size
    have hz1 := HB1.out.size
    have hz2 := HZ2.out
    have hv := HV1.out.lt
    exact ⟨RdAt.alloc HR2.out _, Whole.new _ _ _, (HM2.out.whole HV1.out (by simp; omega)).alloc _, (HB1.out.trans (HM2.out.below hz1 (by intro x hx; simp at hx; omega))).alloc (by omega) _, ⟨hn.1, hn.2.2.1, by simp; omega⟩, by omega, by omega, by omega, by omega, by omega,
      World.ownsRow_nil _ _ _ _, World.ownsRow_nil _ _ _ _, by simp [Value.ownBlock], by simp [Value.ownBlock], by simp [Value.ownBlock], by simp [Value.ownBlock]⟩)
  clear HR2 HM2 HZ2 HV1 HB1 HQZ HN
  go_upto_region 4 with (fail)
  change Code.wp _ _ _ _ (w2.alloc (.cells (twelve ({ r0 with kind := 4 } : Rc) (.slice none 0 0) (.slice none 0 0)) 28))
  generalize w2.alloc (.cells (twelve ({ r0 with kind := 4 } : Rc) (.slice none 0 0) (.slice none 0 0)) 28) = wb at HT ⊢
  generalize w2.heap.size = g at HT ⊢
  generalize w1.heap.size = q at HT ⊢
  have HGQ := Lib.hid HT.out.gq
  have c0 : wb.cell? ⟨g, 0, none⟩ = some (.int .i64 4) := HT.out.blk.cell 0
  have HS := HT.out.rd.ptr
  go_wp2_with fail
  refine (rgrant_any _ r b _ HT.out.rd.rd HT.out.rb.2.2).mono ?_
  rintro x w2 ⟨gv, rfl, ho, hM, hR⟩
  have HO := Lib.hid (own_base ho HT.out.below.size)
  clear ho
  replace HT := Lib.hid (HT.out.mod (s' := (BM.grantT 4 (restOf xs)).2) hM hR)
  clear hM hR HS c0
  have HFZ := fun i => HT.out.blk.frozen i
  obtain ⟨c0, c1, c2, c3, c4, c5, c6, c7, c8, c9, c10, c11⟩ := twelve_cells HT.out.blk
  have HT9 := Lib.hid (HT.out.putGrant (BM.grantT 4 (restOf xs)).1 HO.out (own_notT HO.out HT.out.blk) (own_notR HO.out HT.out.rd.rd))
  obtain ⟨AG, cG, hAG, _, _⟩ := own_shape HO.out
  subst hAG
  clear HO
  unfold six
  go_upto_region 15 with (fail)
  clear HT HFZ c0 c1 c2 c3 c4 c5 c6 c7 c8 c9 c10 c11
  have HT := HT9; clear HT9
  generalize World.setCell _ _ _ = w3 at HT ⊢
  have HM := Lib.hid (show BM.taken 4 xs = ({ ({ r0 with kind := 4 } : Rc) with g := (BM.grantT 4 (restOf xs)).1 } : Rc) from by rw [taken_eq]; unfold BM.partT; simp [HK.out])
  (try clear c0 c1 c2 c3 c4 c5 c6 c7 c8 c9 c10 c11)
  obtain ⟨c0, c1, c2, c3, c4, c5, c6, c7, c8, c9, c10, c11⟩ := twelve_cells HT.out.blk
  have z0 := HT.out.res.cell 0
  have f0 := HT.out.res.frozen 0
  have z1 := HT.out.res.cell 1
  have f1 := HT.out.res.frozen 1
  have z2 := HT.out.res.cell 2
  have f2 := HT.out.res.frozen 2
  have z3 := HT.out.res.cell 3
  have f3 := HT.out.res.frozen 3
  have z4 := HT.out.res.cell 4
  have f4 := HT.out.res.frozen 4
  have z5 := HT.out.res.cell 5
  have f5 := HT.out.res.frozen 5
  have z6 := HT.out.res.cell 6
  have f6 := HT.out.res.frozen 6
  have z7 := HT.out.res.cell 7
  have f7 := HT.out.res.frozen 7
  have z8 := HT.out.res.cell 8
  have f8 := HT.out.res.frozen 8
  have z9 := HT.out.res.cell 9
  have f9 := HT.out.res.frozen 9
  have z10 := HT.out.res.cell 10
  have f10 := HT.out.res.frozen 10
  have z11 := HT.out.res.cell 11
  have f11 := HT.out.res.frozen 11
  simp only [z12, List.getElem?_toArray, List.getElem?_cons_zero, List.getElem?_cons_succ] at z0 z1 z2 z3 z4 z5 z6 z7 z8 z9 z10 z11
  go_wp2_with fail
  refine bodyPost_ret (v := .agg (twelve ({ ({ r0 with kind := 4 } : Rc) with g := (BM.grantT 4 (restOf xs)).1 } : Rc) (.slice AG (BM.grantT 4 (restOf xs)).1.stamp.length cG) (.slice none 0 0))) (by simp [results, Try.results23, go_sem, z0, z1, z2, z3, z4, z5, z6, z7, z8, z9, z10, z11, twelve, BM.r0, BM.g0]) rfl ?_
  exact take_end HT.out HM.out (put12 _ w.heap.size ({ ({ r0 with kind := 4 } : Rc) with g := (BM.grantT 4 (restOf xs)).1 } : Rc) (.slice AG (BM.grantT 4 (restOf xs)).1.stamp.length cG) (.slice none 0 0)) (own_ne HT.out.own1 HT.out.res (by decide)) (own_ne HT.out.own2 HT.out.res (by decide))
set_option maxHeartbeats 8000000 in
theorem taken_5 (A : Option Addr) (c : Nat) (xs : List UInt8) (w : World) (h : BytesAt w A xs) (hl : xs.length ≤ 140737488355328) (hk : kindOf xs = 5) :
    Calls Try.prog 23 #[.slice A xs.length c] w (TakenPost w xs) := by
  have HA := Lib.hid h; clear h
  have HK := Lib.hid hk; clear hk
  go_enter Try.func23, Try.ntmps23
  go_wp2_with fail
  have HZ := Lib.hid (show w.heap.size + 1 = (w.alloc (.cells #[.int .i64 0, .int .i64 0, .int .i64 0, .string ⟨#[]⟩, .int .i64 0, .slice none 0 0, .int .i64 0, .int .i64 0, .slice none 0 0, .int .i64 0, .int .i64 0, .int .i64 0] 28)).heap.size by simp)
  have HB0 := Lib.hid ((Below.refl _ w).alloc (Nat.le_refl _) (.cells #[.int .i64 0, .int .i64 0, .int .i64 0, .string ⟨#[]⟩, .int .i64 0, .slice none 0 0, .int .i64 0, .int .i64 0, .slice none 0 0, .int .i64 0, .int .i64 0, .int .i64 0] 28))
  have HV := Lib.hid (Whole.new w 28 #[.int .i64 0, .int .i64 0, .int .i64 0, .string ⟨#[]⟩, .int .i64 0, .slice none 0 0, .int .i64 0, .int .i64 0, .slice none 0 0, .int .i64 0, .int .i64 0, .int .i64 0])
  generalize w.alloc (.cells #[.int .i64 0, .int .i64 0, .int .i64 0, .string ⟨#[]⟩, .int .i64 0, .slice none 0 0, .int .i64 0, .int .i64 0, .slice none 0 0, .int .i64 0, .int .i64 0, .int .i64 0] 28) = wa at HZ HB0 HV ⊢
  refine (Oct.NewReader_any A c xs wa (HA.out.below HB0.out) hl).mono ?_
  rintro e w1 ⟨r, b, rfl, hR, hb1, hr1, hr2, hbb1, hbb2⟩
  have HB1 := Lib.hid (below_on HB0.out hb1)
  have HV1 := Lib.hid ((Mod.of_below hb1 []).whole HV.out (by simp))
  clear hb1
  have HN := Lib.hid (show w.heap.size < r ∧ r < w1.heap.size ∧ w.heap.size < b ∧ b < w1.heap.size from ⟨by rw [← HZ.out] at hr1; omega, hr2, by rw [← HZ.out] at hbb1; omega, hbb2⟩)
  clear hr1 hr2 hbb1 hbb2
  have HR1 := Lib.hid (show RdAt (w1.alloc (.cells #[.pointer (some ⟨r, 0, none⟩)] 95)) w1.heap.size r b (xs, 0) from ⟨Whole.new _ _ _, rat_alloc hR _, by have := HN.out; omega⟩)
  have HM1 := Lib.hid ((Mod.refl [r] w1).alloc (.cells #[.pointer (some ⟨r, 0, none⟩)] 95))
  have HQZ := Lib.hid (show w1.heap.size < (w1.alloc (.cells #[.pointer (some ⟨r, 0, none⟩)] 95)).heap.size by simp)
  clear hR HV HB0 HA HZ
  have HS := HR1.out.ptr
  go_wp2_with fail
  refine (num_tnum _ w1.heap.size r b _ HR1.out).mono ?_
  rintro e w2 ⟨rfl, hT⟩
  clear HS
  rw [show (WM.tnum (xs, 0)).1 = 5 from HK.out]
  have HR2 := Lib.hid hT.1
  have HM2 := Lib.hid (HM1.out.trans hT.2 (fun x hx => .inl hx))
  have HZ2 := Lib.hid (Nat.lt_of_lt_of_le HQZ.out hT.2.size)
  clear hT HR1 HM1
  have HT := Lib.hid (show TakeSt w (w2.alloc (.cells (twelve ({ r0 with kind := 5 } : Rc) (.slice none 0 0) (.slice none 0 0)) 28)) w1.heap.size r b w2.heap.size (restOf xs) ({ r0 with kind := 5 } : Rc) (.slice none 0 0) (.slice none 0 0) from by
    have hn := HN.out
    have hz := HM2.out.size
    have hz1 := HB1.out.size
    have hz2 := HZ2.out
    have hv := HV1.out.lt
    exact ⟨RdAt.alloc HR2.out _, Whole.new _ _ _, (HM2.out.whole HV1.out (by simp; omega)).alloc _, (HB1.out.trans (HM2.out.below hz1 (by intro x hx; simp at hx; omega))).alloc (by omega) _, ⟨hn.1, hn.2.2.1, by simp; omega⟩, by omega, by omega, by omega, by omega, by omega,
      World.ownsRow_nil _ _ _ _, World.ownsRow_nil _ _ _ _, by simp [Value.ownBlock], by simp [Value.ownBlock], by simp [Value.ownBlock], by simp [Value.ownBlock]⟩)
  clear HR2 HM2 HZ2 HV1 HB1 HQZ HN
  go_upto_region 4 with (fail)
  change Code.wp _ _ _ _ (w2.alloc (.cells (twelve ({ r0 with kind := 5 } : Rc) (.slice none 0 0) (.slice none 0 0)) 28))
  generalize w2.alloc (.cells (twelve ({ r0 with kind := 5 } : Rc) (.slice none 0 0) (.slice none 0 0)) 28) = wb at HT ⊢
  generalize w2.heap.size = g at HT ⊢
  generalize w1.heap.size = q at HT ⊢
  have HGQ := Lib.hid HT.out.gq
  have c0 : wb.cell? ⟨g, 0, none⟩ = some (.int .i64 5) := HT.out.blk.cell 0
  go_wp2_with fail
  replace HT := Lib.hid HT.out.drew
  clear c0
  have HS := HT.out.rd.ptr
  go_region_held3 (fun w2 : World => w2.cell? ⟨q, 0, none⟩ = some (.pointer (some ⟨r, 0, none⟩)))
    (first | (with_reducible exact HS) | (with_reducible (repeat (first | exact HS | refine (far_other HGQ.out _).trans ?_)); done) | (go_keep; done))
    (first | (go_at_call 55; (with_reducible refine (num_tnum _ q r b _ HT.out.rd).mono ?_); rintro x w2 ⟨rfl, hT⟩; replace HT := Lib.hid (HT.out.took hT); clear hT; (try clear c0 c1 c2 c3 c4 c5 c6 c7 c8 c9 c10 c11); (try clear HFZ); replace HS := HT.out.rd.ptr; have HFZ := fun i => HT.out.blk.frozen i; obtain ⟨c0, c1, c2, c3, c4, c5, c6, c7, c8, c9, c10, c11⟩ := twelve_cells HT.out.blk) | (go_at_call 57; refine (rstamp_any _ r b _ HT.out.rd.rd HT.out.rb.2.2).mono ?_; rintro x w2 ⟨lv, rfl, hG, hR⟩; have HO := Lib.hid (own_base hG.1 HT.out.below.size); replace HT := Lib.hid (HT.out.mod (s' := (WM.tstamp 4 _).2) hG.2 hR); clear hG hR; obtain ⟨A9, n9, hA9, hn9⟩ : ∃ A n, lv = .slice A (WM.tstamp 4 (WM.tnum (restOf xs)).2).1.length n ∧ True := (let ⟨A, c, e, _, _⟩ := own_shape HO.out; ⟨A, c, e, trivial⟩); subst hA9; (try clear c0 c1 c2 c3 c4 c5 c6 c7 c8 c9 c10 c11); (try clear HFZ); replace HS := HT.out.rd.ptr; have HFZ := fun i => HT.out.blk.frozen i; obtain ⟨c0, c1, c2, c3, c4, c5, c6, c7, c8, c9, c10, c11⟩ := twelve_cells HT.out.blk))
  clear HS c0 c1 c2 c3 c4 c5 c6 c7 c8 c9 c10 c11 HFZ
  have HG9 := Lib.hid (own_notT HO.out HT.out.blk)
  have HR9 := Lib.hid (own_notR HO.out HT.out.rd.rd)
  replace HT := Lib.hid (HT.out.stored 7 (.int .i64 (WM.tnum (restOf xs)).1) ({ ({ r0 with kind := 5 } : Rc) with id := (WM.tnum (restOf xs)).1 } : Rc) rfl rfl rfl)
  replace HT := Lib.hid (HT.out.putStamp (l := (WM.tstamp 4 (WM.tnum (restOf xs)).2).1) (own_far HO.out HG9.out (.int .i64 (WM.tnum (restOf xs)).1)) HG9.out HR9.out)
  generalize World.setCell (World.setCell w2 _ _) _ _ = w3 at HT ⊢
  have HM := Lib.hid (show BM.taken 4 xs = ({ ({ ({ r0 with kind := 5 } : Rc) with id := (WM.tnum (restOf xs)).1 } : Rc) with stamp := (WM.tstamp 4 (WM.tnum (restOf xs)).2).1 } : Rc) from by rw [taken_eq]; unfold BM.partT; simp [HK.out])
  (try clear c0 c1 c2 c3 c4 c5 c6 c7 c8 c9 c10 c11)
  obtain ⟨c0, c1, c2, c3, c4, c5, c6, c7, c8, c9, c10, c11⟩ := twelve_cells HT.out.blk
  have z0 := HT.out.res.cell 0
  have f0 := HT.out.res.frozen 0
  have z1 := HT.out.res.cell 1
  have f1 := HT.out.res.frozen 1
  have z2 := HT.out.res.cell 2
  have f2 := HT.out.res.frozen 2
  have z3 := HT.out.res.cell 3
  have f3 := HT.out.res.frozen 3
  have z4 := HT.out.res.cell 4
  have f4 := HT.out.res.frozen 4
  have z5 := HT.out.res.cell 5
  have f5 := HT.out.res.frozen 5
  have z6 := HT.out.res.cell 6
  have f6 := HT.out.res.frozen 6
  have z7 := HT.out.res.cell 7
  have f7 := HT.out.res.frozen 7
  have z8 := HT.out.res.cell 8
  have f8 := HT.out.res.frozen 8
  have z9 := HT.out.res.cell 9
  have f9 := HT.out.res.frozen 9
  have z10 := HT.out.res.cell 10
  have f10 := HT.out.res.frozen 10
  have z11 := HT.out.res.cell 11
  have f11 := HT.out.res.frozen 11
  simp only [z12, List.getElem?_toArray, List.getElem?_cons_zero, List.getElem?_cons_succ] at z0 z1 z2 z3 z4 z5 z6 z7 z8 z9 z10 z11
  go_wp2_with fail
  refine bodyPost_ret (v := .agg (twelve ({ ({ ({ r0 with kind := 5 } : Rc) with id := (WM.tnum (restOf xs)).1 } : Rc) with stamp := (WM.tstamp 4 (WM.tnum (restOf xs)).2).1 } : Rc) (.slice none 0 0) (.slice A9 (WM.tstamp 4 (WM.tnum (restOf xs)).2).1.length n9))) (by simp [results, Try.results23, go_sem, z0, z1, z2, z3, z4, z5, z6, z7, z8, z9, z10, z11, twelve, BM.r0, BM.g0]) rfl ?_
  exact take_end HT.out HM.out (put12 _ w.heap.size ({ ({ ({ r0 with kind := 5 } : Rc) with id := (WM.tnum (restOf xs)).1 } : Rc) with stamp := (WM.tstamp 4 (WM.tnum (restOf xs)).2).1 } : Rc) (.slice none 0 0) (.slice A9 (WM.tstamp 4 (WM.tnum (restOf xs)).2).1.length n9)) (own_ne HT.out.own1 HT.out.res (by decide)) (own_ne HT.out.own2 HT.out.res (by decide))
set_option maxHeartbeats 8000000 in
theorem taken_6 (A : Option Addr) (c : Nat) (xs : List UInt8) (w : World) (h : BytesAt w A xs) (hl : xs.length ≤ 140737488355328) (hk : kindOf xs = 6) :
    Calls Try.prog 23 #[.slice A xs.length c] w (TakenPost w xs) := by
  have HA := Lib.hid h; clear h
  have HK := Lib.hid hk; clear hk
  go_enter Try.func23, Try.ntmps23
  go_wp2_with fail
  have HZ := Lib.hid (show w.heap.size + 1 = (w.alloc (.cells #[.int .i64 0, .int .i64 0, .int .i64 0, .string ⟨#[]⟩, .int .i64 0, .slice none 0 0, .int .i64 0, .int .i64 0, .slice none 0 0, .int .i64 0, .int .i64 0, .int .i64 0] 28)).heap.size by simp)
  have HB0 := Lib.hid ((Below.refl _ w).alloc (Nat.le_refl _) (.cells #[.int .i64 0, .int .i64 0, .int .i64 0, .string ⟨#[]⟩, .int .i64 0, .slice none 0 0, .int .i64 0, .int .i64 0, .slice none 0 0, .int .i64 0, .int .i64 0, .int .i64 0] 28))
  have HV := Lib.hid (Whole.new w 28 #[.int .i64 0, .int .i64 0, .int .i64 0, .string ⟨#[]⟩, .int .i64 0, .slice none 0 0, .int .i64 0, .int .i64 0, .slice none 0 0, .int .i64 0, .int .i64 0, .int .i64 0])
  generalize w.alloc (.cells #[.int .i64 0, .int .i64 0, .int .i64 0, .string ⟨#[]⟩, .int .i64 0, .slice none 0 0, .int .i64 0, .int .i64 0, .slice none 0 0, .int .i64 0, .int .i64 0, .int .i64 0] 28) = wa at HZ HB0 HV ⊢
  refine (Oct.NewReader_any A c xs wa (HA.out.below HB0.out) hl).mono ?_
  rintro e w1 ⟨r, b, rfl, hR, hb1, hr1, hr2, hbb1, hbb2⟩
  have HB1 := Lib.hid (below_on HB0.out hb1)
  have HV1 := Lib.hid ((Mod.of_below hb1 []).whole HV.out (by simp))
  clear hb1
  have HN := Lib.hid (show w.heap.size < r ∧ r < w1.heap.size ∧ w.heap.size < b ∧ b < w1.heap.size from ⟨by rw [← HZ.out] at hr1; omega, hr2, by rw [← HZ.out] at hbb1; omega, hbb2⟩)
  clear hr1 hr2 hbb1 hbb2
  have HR1 := Lib.hid (show RdAt (w1.alloc (.cells #[.pointer (some ⟨r, 0, none⟩)] 95)) w1.heap.size r b (xs, 0) from ⟨Whole.new _ _ _, rat_alloc hR _, by have := HN.out; omega⟩)
  have HM1 := Lib.hid ((Mod.refl [r] w1).alloc (.cells #[.pointer (some ⟨r, 0, none⟩)] 95))
  have HQZ := Lib.hid (show w1.heap.size < (w1.alloc (.cells #[.pointer (some ⟨r, 0, none⟩)] 95)).heap.size by simp)
  clear hR HV HB0 HA HZ
  have HS := HR1.out.ptr
  go_wp2_with fail
  refine (num_tnum _ w1.heap.size r b _ HR1.out).mono ?_
  rintro e w2 ⟨rfl, hT⟩
  clear HS
  rw [show (WM.tnum (xs, 0)).1 = 6 from HK.out]
  have HR2 := Lib.hid hT.1
  have HM2 := Lib.hid (HM1.out.trans hT.2 (fun x hx => .inl hx))
  have HZ2 := Lib.hid (Nat.lt_of_lt_of_le HQZ.out hT.2.size)
  clear hT HR1 HM1
  have HT := Lib.hid (show TakeSt w (w2.alloc (.cells (twelve ({ r0 with kind := 6 } : Rc) (.slice none 0 0) (.slice none 0 0)) 28)) w1.heap.size r b w2.heap.size (restOf xs) ({ r0 with kind := 6 } : Rc) (.slice none 0 0) (.slice none 0 0) from by
    have hn := HN.out
    have hz := HM2.out.size
    have hz1 := HB1.out.size
    have hz2 := HZ2.out
    have hv := HV1.out.lt
    exact ⟨RdAt.alloc HR2.out _, Whole.new _ _ _, (HM2.out.whole HV1.out (by simp; omega)).alloc _, (HB1.out.trans (HM2.out.below hz1 (by intro x hx; simp at hx; omega))).alloc (by omega) _, ⟨hn.1, hn.2.2.1, by simp; omega⟩, by omega, by omega, by omega, by omega, by omega,
      World.ownsRow_nil _ _ _ _, World.ownsRow_nil _ _ _ _, by simp [Value.ownBlock], by simp [Value.ownBlock], by simp [Value.ownBlock], by simp [Value.ownBlock]⟩)
  clear HR2 HM2 HZ2 HV1 HB1 HQZ HN
  go_upto_region 4 with (fail)
  change Code.wp _ _ _ _ (w2.alloc (.cells (twelve ({ r0 with kind := 6 } : Rc) (.slice none 0 0) (.slice none 0 0)) 28))
  generalize w2.alloc (.cells (twelve ({ r0 with kind := 6 } : Rc) (.slice none 0 0) (.slice none 0 0)) 28) = wb at HT ⊢
  generalize w2.heap.size = g at HT ⊢
  generalize w1.heap.size = q at HT ⊢
  have HGQ := Lib.hid HT.out.gq
  have c0 : wb.cell? ⟨g, 0, none⟩ = some (.int .i64 6) := HT.out.blk.cell 0
  have HS := HT.out.rd.ptr
  go_wp2_with fail
  refine (num_tnum _ q r b _ HT.out.rd).mono ?_
  rintro x w2 ⟨rfl, hT⟩
  replace HT := Lib.hid (HT.out.took hT)
  clear hT HS c0
  have HFZ := fun i => HT.out.blk.frozen i
  obtain ⟨c0, c1, c2, c3, c4, c5, c6, c7, c8, c9, c10, c11⟩ := twelve_cells HT.out.blk
  have HT9 := Lib.hid (HT.out.stored 7 (.int .i64 (WM.tnum (restOf xs)).1) ({ ({ r0 with kind := 6 } : Rc) with id := (WM.tnum (restOf xs)).1 } : Rc) rfl rfl rfl)
  go_upto_region 15 with (fail)
  clear HT HFZ c0 c1 c2 c3 c4 c5 c6 c7 c8 c9 c10 c11
  have HT := HT9; clear HT9
  generalize World.setCell w2 _ _ = w3 at HT ⊢
  have HM := Lib.hid (show BM.taken 4 xs = ({ ({ r0 with kind := 6 } : Rc) with id := (WM.tnum (restOf xs)).1 } : Rc) from by rw [taken_eq]; unfold BM.partT; simp [HK.out])
  (try clear c0 c1 c2 c3 c4 c5 c6 c7 c8 c9 c10 c11)
  obtain ⟨c0, c1, c2, c3, c4, c5, c6, c7, c8, c9, c10, c11⟩ := twelve_cells HT.out.blk
  have z0 := HT.out.res.cell 0
  have f0 := HT.out.res.frozen 0
  have z1 := HT.out.res.cell 1
  have f1 := HT.out.res.frozen 1
  have z2 := HT.out.res.cell 2
  have f2 := HT.out.res.frozen 2
  have z3 := HT.out.res.cell 3
  have f3 := HT.out.res.frozen 3
  have z4 := HT.out.res.cell 4
  have f4 := HT.out.res.frozen 4
  have z5 := HT.out.res.cell 5
  have f5 := HT.out.res.frozen 5
  have z6 := HT.out.res.cell 6
  have f6 := HT.out.res.frozen 6
  have z7 := HT.out.res.cell 7
  have f7 := HT.out.res.frozen 7
  have z8 := HT.out.res.cell 8
  have f8 := HT.out.res.frozen 8
  have z9 := HT.out.res.cell 9
  have f9 := HT.out.res.frozen 9
  have z10 := HT.out.res.cell 10
  have f10 := HT.out.res.frozen 10
  have z11 := HT.out.res.cell 11
  have f11 := HT.out.res.frozen 11
  simp only [z12, List.getElem?_toArray, List.getElem?_cons_zero, List.getElem?_cons_succ] at z0 z1 z2 z3 z4 z5 z6 z7 z8 z9 z10 z11
  go_wp2_with fail
  refine bodyPost_ret (v := .agg (twelve ({ ({ r0 with kind := 6 } : Rc) with id := (WM.tnum (restOf xs)).1 } : Rc) (.slice none 0 0) (.slice none 0 0))) (by simp [results, Try.results23, go_sem, z0, z1, z2, z3, z4, z5, z6, z7, z8, z9, z10, z11, twelve, BM.r0, BM.g0]) rfl ?_
  exact take_end HT.out HM.out (put12 _ w.heap.size ({ ({ r0 with kind := 6 } : Rc) with id := (WM.tnum (restOf xs)).1 } : Rc) (.slice none 0 0) (.slice none 0 0)) (own_ne HT.out.own1 HT.out.res (by decide)) (own_ne HT.out.own2 HT.out.res (by decide))
set_option maxHeartbeats 8000000 in
theorem taken_else (A : Option Addr) (c : Nat) (xs : List UInt8) (w : World) (h : BytesAt w A xs) (hl : xs.length ≤ 140737488355328) (h1 : kindOf xs ≠ 1) (h2 : kindOf xs ≠ 2) (h3 : kindOf xs ≠ 3) (h4 : kindOf xs ≠ 4) (h5 : kindOf xs ≠ 5) (h6 : kindOf xs ≠ 6) :
    Calls Try.prog 23 #[.slice A xs.length c] w (TakenPost w xs) := by
  have HA := Lib.hid h; clear h
  have d1 : ((WM.tnum (xs, 0)).1 == 1) = false := by have h9 : ¬ (WM.tnum (xs, 0)).1 = 1 := h1; simpa using h9
  have H1 := Lib.hid h1
  have d2 : ((WM.tnum (xs, 0)).1 == 2) = false := by have h9 : ¬ (WM.tnum (xs, 0)).1 = 2 := h2; simpa using h9
  have H2 := Lib.hid h2
  have d3 : ((WM.tnum (xs, 0)).1 == 3) = false := by have h9 : ¬ (WM.tnum (xs, 0)).1 = 3 := h3; simpa using h9
  have H3 := Lib.hid h3
  have d4 : ((WM.tnum (xs, 0)).1 == 4) = false := by have h9 : ¬ (WM.tnum (xs, 0)).1 = 4 := h4; simpa using h9
  have H4 := Lib.hid h4
  have d5 : ((WM.tnum (xs, 0)).1 == 5) = false := by have h9 : ¬ (WM.tnum (xs, 0)).1 = 5 := h5; simpa using h9
  have H5 := Lib.hid h5
  have d6 : ((WM.tnum (xs, 0)).1 == 6) = false := by have h9 : ¬ (WM.tnum (xs, 0)).1 = 6 := h6; simpa using h9
  have H6 := Lib.hid h6
  have HK := Lib.hid (show kindOf xs = kindOf xs from rfl)
  clear h1 h2 h3 h4 h5 h6
  go_enter Try.func23, Try.ntmps23
  go_wp2_with fail
  have HZ := Lib.hid (show w.heap.size + 1 = (w.alloc (.cells #[.int .i64 0, .int .i64 0, .int .i64 0, .string ⟨#[]⟩, .int .i64 0, .slice none 0 0, .int .i64 0, .int .i64 0, .slice none 0 0, .int .i64 0, .int .i64 0, .int .i64 0] 28)).heap.size by simp)
  have HB0 := Lib.hid ((Below.refl _ w).alloc (Nat.le_refl _) (.cells #[.int .i64 0, .int .i64 0, .int .i64 0, .string ⟨#[]⟩, .int .i64 0, .slice none 0 0, .int .i64 0, .int .i64 0, .slice none 0 0, .int .i64 0, .int .i64 0, .int .i64 0] 28))
  have HV := Lib.hid (Whole.new w 28 #[.int .i64 0, .int .i64 0, .int .i64 0, .string ⟨#[]⟩, .int .i64 0, .slice none 0 0, .int .i64 0, .int .i64 0, .slice none 0 0, .int .i64 0, .int .i64 0, .int .i64 0])
  generalize w.alloc (.cells #[.int .i64 0, .int .i64 0, .int .i64 0, .string ⟨#[]⟩, .int .i64 0, .slice none 0 0, .int .i64 0, .int .i64 0, .slice none 0 0, .int .i64 0, .int .i64 0, .int .i64 0] 28) = wa at HZ HB0 HV ⊢
  refine (Oct.NewReader_any A c xs wa (HA.out.below HB0.out) hl).mono ?_
  rintro e w1 ⟨r, b, rfl, hR, hb1, hr1, hr2, hbb1, hbb2⟩
  have HB1 := Lib.hid (below_on HB0.out hb1)
  have HV1 := Lib.hid ((Mod.of_below hb1 []).whole HV.out (by simp))
  clear hb1
  have HN := Lib.hid (show w.heap.size < r ∧ r < w1.heap.size ∧ w.heap.size < b ∧ b < w1.heap.size from ⟨by rw [← HZ.out] at hr1; omega, hr2, by rw [← HZ.out] at hbb1; omega, hbb2⟩)
  clear hr1 hr2 hbb1 hbb2
  have HR1 := Lib.hid (show RdAt (w1.alloc (.cells #[.pointer (some ⟨r, 0, none⟩)] 95)) w1.heap.size r b (xs, 0) from ⟨Whole.new _ _ _, rat_alloc hR _, by have := HN.out; omega⟩)
  have HM1 := Lib.hid ((Mod.refl [r] w1).alloc (.cells #[.pointer (some ⟨r, 0, none⟩)] 95))
  have HQZ := Lib.hid (show w1.heap.size < (w1.alloc (.cells #[.pointer (some ⟨r, 0, none⟩)] 95)).heap.size by simp)
  clear hR HV HB0 HA HZ
  have HS := HR1.out.ptr
  go_wp2_with fail
  refine (num_tnum _ w1.heap.size r b _ HR1.out).mono ?_
  rintro e w2 ⟨rfl, hT⟩
  clear HS
  skip
  have HR2 := Lib.hid hT.1
  have HM2 := Lib.hid (HM1.out.trans hT.2 (fun x hx => .inl hx))
  have HZ2 := Lib.hid (Nat.lt_of_lt_of_le HQZ.out hT.2.size)
  clear hT HR1 HM1
  have HT := Lib.hid (show TakeSt w (w2.alloc (.cells (twelve ({ r0 with kind := (WM.tnum (xs, 0)).1 } : Rc) (.slice none 0 0) (.slice none 0 0)) 28)) w1.heap.size r b w2.heap.size (restOf xs) ({ r0 with kind := (WM.tnum (xs, 0)).1 } : Rc) (.slice none 0 0) (.slice none 0 0) from by
    have hn := HN.out
    have hz := HM2.out.size
    have hz1 := HB1.out.size
    have hz2 := HZ2.out
    have hv := HV1.out.lt
    exact ⟨RdAt.alloc HR2.out _, Whole.new _ _ _, (HM2.out.whole HV1.out (by simp; omega)).alloc _, (HB1.out.trans (HM2.out.below hz1 (by intro x hx; simp at hx; omega))).alloc (by omega) _, ⟨hn.1, hn.2.2.1, by simp; omega⟩, by omega, by omega, by omega, by omega, by omega,
      World.ownsRow_nil _ _ _ _, World.ownsRow_nil _ _ _ _, by simp [Value.ownBlock], by simp [Value.ownBlock], by simp [Value.ownBlock], by simp [Value.ownBlock]⟩)
  clear HR2 HM2 HZ2 HV1 HB1 HQZ HN
  go_upto_region 4 with (fail)
  change Code.wp _ _ _ _ (w2.alloc (.cells (twelve ({ r0 with kind := (WM.tnum (xs, 0)).1 } : Rc) (.slice none 0 0) (.slice none 0 0)) 28))
  generalize w2.alloc (.cells (twelve ({ r0 with kind := (WM.tnum (xs, 0)).1 } : Rc) (.slice none 0 0) (.slice none 0 0)) 28) = wb at HT ⊢
  generalize w2.heap.size = g at HT ⊢
  generalize w1.heap.size = q at HT ⊢
  have HGQ := Lib.hid HT.out.gq
  have c0 : wb.cell? ⟨g, 0, none⟩ = some (.int .i64 (WM.tnum (xs, 0)).1) := HT.out.blk.cell 0
  go_upto_region 15 with (fail)
  have HM := Lib.hid (show BM.taken 4 xs = ({ r0 with kind := (WM.tnum (xs, 0)).1 } : Rc) from by rw [taken_eq]; unfold BM.partT; simp [HK.out, H1.out, H2.out, H3.out, H4.out, H5.out, H6.out]; rfl)
  (try clear c0 c1 c2 c3 c4 c5 c6 c7 c8 c9 c10 c11)
  obtain ⟨c0, c1, c2, c3, c4, c5, c6, c7, c8, c9, c10, c11⟩ := twelve_cells HT.out.blk
  have z0 := HT.out.res.cell 0
  have f0 := HT.out.res.frozen 0
  have z1 := HT.out.res.cell 1
  have f1 := HT.out.res.frozen 1
  have z2 := HT.out.res.cell 2
  have f2 := HT.out.res.frozen 2
  have z3 := HT.out.res.cell 3
  have f3 := HT.out.res.frozen 3
  have z4 := HT.out.res.cell 4
  have f4 := HT.out.res.frozen 4
  have z5 := HT.out.res.cell 5
  have f5 := HT.out.res.frozen 5
  have z6 := HT.out.res.cell 6
  have f6 := HT.out.res.frozen 6
  have z7 := HT.out.res.cell 7
  have f7 := HT.out.res.frozen 7
  have z8 := HT.out.res.cell 8
  have f8 := HT.out.res.frozen 8
  have z9 := HT.out.res.cell 9
  have f9 := HT.out.res.frozen 9
  have z10 := HT.out.res.cell 10
  have f10 := HT.out.res.frozen 10
  have z11 := HT.out.res.cell 11
  have f11 := HT.out.res.frozen 11
  simp only [z12, List.getElem?_toArray, List.getElem?_cons_zero, List.getElem?_cons_succ] at z0 z1 z2 z3 z4 z5 z6 z7 z8 z9 z10 z11
  go_wp2_with fail
  refine bodyPost_ret (v := .agg (twelve ({ r0 with kind := (WM.tnum (xs, 0)).1 } : Rc) (.slice none 0 0) (.slice none 0 0))) (by simp [results, Try.results23, go_sem, z0, z1, z2, z3, z4, z5, z6, z7, z8, z9, z10, z11, twelve, BM.r0, BM.g0]) rfl ?_
  exact take_end HT.out HM.out (put12 _ w.heap.size ({ r0 with kind := (WM.tnum (xs, 0)).1 } : Rc) (.slice none 0 0) (.slice none 0 0)) (own_ne HT.out.own1 HT.out.res (by decide)) (own_ne HT.out.own2 HT.out.res (by decide))
theorem b_taken (A : Option Addr) (c : Nat) (xs : List UInt8) (w : World) (h : BytesAt w A xs) (hl : xs.length ≤ 140737488355328) : Calls Try.prog 23 #[.slice A xs.length c] w (TakenPost w xs) := by
  by_cases h1 : kindOf xs = 1
  · exact taken_1 A c xs w h hl h1
  by_cases h2 : kindOf xs = 2
  · exact taken_2 A c xs w h hl h2
  by_cases h3 : kindOf xs = 3
  · exact taken_3 A c xs w h hl h3
  by_cases h4 : kindOf xs = 4
  · exact taken_4 A c xs w h hl h4
  by_cases h5 : kindOf xs = 5
  · exact taken_5 A c xs w h hl h5
  by_cases h6 : kindOf xs = 6
  · exact taken_6 A c xs w h hl h6
  exact taken_else A c xs w h hl h1 h2 h3 h4 h5 h6
end Go.Proofs.Ytboflkadabagfab
