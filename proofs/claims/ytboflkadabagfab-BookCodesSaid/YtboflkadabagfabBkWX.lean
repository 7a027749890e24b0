/- Texts that belong together: BkW22, BkW23, BkW24. -/
import Derived.Test.YtboflkadabagfabBkW21
import Derived.Test.YtboflkadabagfabBkW20
import Derived.Test.YtboflkadabagfabBkWZ
import Derived.OrdersHeld
namespace Go.Proofs.Ytboflkadabagfab
open Go.RowKit
open BM (Gr Rc Bk g0 r0 b0)
set_option linter.unusedVariables false
set_option linter.unusedSimpArgs false
set_option maxRecDepth 100000
/-- What stands while the record is put in: the book's box, the record's, the answer's, the list of the call's own. -/
structure BhSt (w0 : World) (b : Bk) (L : Value) (r : Rc) (s u : Value) (ps : List (Gr × Value)) (w : World) : Prop where
  kb : Whole w w0.heap.size 45 (four b L)
  kr : Whole w (w0.heap.size + 1) 28 (twelve r s u)
  kz : Whole w (w0.heap.size + 1 + 1) 45 z4
  own : OwnG w (w0.heap.size + 3) L ps
  fr : FitR w s u r
  fb : In64 b.next ∧ In64 b.boots ∧ In64 b.longest
  size : w0.heap.size + 3 ≤ w.heap.size
  below : Below w0.heap.size w0 w
/-- A book that the call answers, of its own. -/
def BkPost (w : World) (b : Bk) (e : Ending) (w' : World) : Prop := ∃ v ps, e = .returned (.agg (four b v)) ∧ ps.map Prod.fst = b.gs ∧ OwnG w' w.heap.size v ps ∧ Below w.heap.size w w'
section
variable {w0 w w' : World} {b : Bk} {L s u : Value} {r : Rc} {ps : List (Gr × Value)}
theorem BhSt.on (h : BhSt w0 b L r s u ps w) (hb : Below w.heap.size w w') : BhSt w0 b L r s u ps w' :=
  ⟨(Mod.of_below hb []).whole h.kb (by simp), (Mod.of_below hb []).whole h.kr (by simp), (Mod.of_below hb []).whole h.kz (by simp), h.own.below hb, h.fr.below hb, h.fb, Nat.le_trans h.size hb.size, below_on h.below hb⟩
theorem BhSt.drew (h : BhSt w0 b L r s u ps w) : BhSt w0 b L r s u ps w.drew := h.on (Below.refl _ _).drew
theorem FitR.mod {F : List Nat} (h : FitR w0 s u r) (hm : Below w0.heap.size w0 w) : FitR w s u r := h.below hm
/-- One cell of the book is stored. -/
theorem BhSt.store (h : BhSt w0 b L r s u ps w) (hf : FitR w0 s u r) {i : Nat} {v : Value} {b' : Bk} {L' : Value} {ps' : List (Gr × Value)} (he : (four b L).setIfInBounds i v = four b' L') (hL : OwnG w (w0.heap.size + 3) L' ps') (hb : In64 b'.next ∧ In64 b'.boots ∧ In64 b'.longest) : BhSt w0 b' L' r s u ps' (w.setCell ⟨w0.heap.size, i, none⟩ v) := by
  have hM : Mod [w0.heap.size] w (w.setCell ⟨w0.heap.size, i, none⟩ v) := (Mod.refl _ w).store (p := ⟨w0.heap.size, i, none⟩) (.inl (by simp)) v
  have hB : Below w0.heap.size w0 (w.setCell ⟨w0.heap.size, i, none⟩ v) := h.below.trans (hM.below (by have := h.size; omega) (by simp))
  refine ⟨?_, hM.whole h.kr (by simp), hM.whole h.kz (by simp; omega), hL.mod hM (by simp), hf.below hB, hb, by simpa using h.size, hB⟩
  have := h.kb.store i v
  rwa [he] at this
/-- The answer's box is written. -/
theorem BhSt.done (h : BhSt w0 b L r s u ps w) (hm : ps.map Prod.fst = b.gs) : BkPost w0 b (.returned (.agg (four b L))) ((((w.setCell ⟨w0.heap.size + 1 + 1, 0, none⟩ (.int .i64 b.next)).setCell ⟨w0.heap.size + 1 + 1, 1, none⟩ (.int .i64 b.boots)).setCell ⟨w0.heap.size + 1 + 1, 2, none⟩ (.int .i64 b.longest)).setCell ⟨w0.heap.size + 1 + 1, 3, none⟩ L) := by
  have hM : Mod [w0.heap.size + 1 + 1] w ((((w.setCell ⟨w0.heap.size + 1 + 1, 0, none⟩ (.int .i64 b.next)).setCell ⟨w0.heap.size + 1 + 1, 1, none⟩ (.int .i64 b.boots)).setCell ⟨w0.heap.size + 1 + 1, 2, none⟩ (.int .i64 b.longest)).setCell ⟨w0.heap.size + 1 + 1, 3, none⟩ L) :=
    ((((Mod.refl _ w).store (p := ⟨w0.heap.size + 1 + 1, 0, none⟩) (.inl (by simp)) _).store (p := ⟨w0.heap.size + 1 + 1, 1, none⟩) (.inl (by simp)) _).store (p := ⟨w0.heap.size + 1 + 1, 2, none⟩) (.inl (by simp)) _).store (p := ⟨w0.heap.size + 1 + 1, 3, none⟩) (.inl (by simp)) _
  refine ⟨L, ps, rfl, hm, (h.own.mod hM (by simp)).low (by omega), h.below.trans (hM.below (by have := h.size; omega) (by intro x hx; simp at hx; omega))⟩
theorem zero_cells {g : Nat} (h : Whole w g 45 z4) : (w.cell? ⟨g, 0, none⟩ = some (.int .i64 0) ∧ w.cell? ⟨g, 1, none⟩ = some (.int .i64 0) ∧ w.cell? ⟨g, 2, none⟩ = some (.int .i64 0) ∧ w.cell? ⟨g, 3, none⟩ = some (.slice none 0 0)) ∧
    w.frozen? ⟨g, 0, none⟩ = false ∧ w.frozen? ⟨g, 1, none⟩ = false ∧ w.frozen? ⟨g, 2, none⟩ = false ∧ w.frozen? ⟨g, 3, none⟩ = false :=
  ⟨⟨h.cell 0, h.cell 1, h.cell 2, h.cell 3⟩, h.frozen 0, h.frozen 1, h.frozen 2, h.frozen 3⟩
end
/-- The list of the call's own is in its place. -/
theorem head_end {w wa w1 : World} {b : Bk} {v s u B : Value} {r : Rc} {ps : List (Gr × Value)} (hm : ps.map Prod.fst = b.gs) (hS : wa.heap.size = w.heap.size + 3) (hX : Below w.heap.size w wa) (hb : Below wa.heap.size wa w1) (hkb : Whole wa w.heap.size 45 (four b v)) (hkr : Whole wa (w.heap.size + 1) 28 (twelve r s u)) (hkz : Whole wa (w.heap.size + 1 + 1) 45 z4)
    (ho : OwnG w1 wa.heap.size B ps) (hr : FitR w s u r) (hf : In64 b.next ∧ In64 b.boots ∧ In64 b.longest) : (Whole w1 (w.heap.size + 1) 28 (twelve r s u) ∧ Whole w1 (w.heap.size + 1 + 1) 45 z4) ∧ BhSt w b B r s u ps (w1.setCell ⟨w.heap.size, 3, none⟩ B) := by
  have hB1 := below_on hX hb
  have hM : Mod [w.heap.size] w1 (w1.setCell ⟨w.heap.size, 3, none⟩ B) := (Mod.refl _ w1).store (p := ⟨w.heap.size, 3, none⟩) (.inl (by simp)) B
  have hB : Below w.heap.size w (w1.setCell ⟨w.heap.size, 3, none⟩ B) := hB1.trans (hM.below hB1.size (by simp))
  have k1 := (Mod.of_below hb []).whole hkb (by simp)
  have k2 := (Mod.of_below hb []).whole hkr (by simp)
  have k3 := (Mod.of_below hb []).whole hkz (by simp)
  have hs1 := hb.size
  rw [hS] at ho
  exact ⟨⟨k2, k3⟩, k1.store 3 B, hM.whole k2 (by simp), hM.whole k3 (by simp; omega), ho.mod hM (by simp), hr.below hB, hf, by simp; omega, hB⟩
set_option maxHeartbeats 8000000 in
theorem b2 {A A2 : Option Addr} {c c2 : Nat} (v : Value) (b : Bk) (r : Rc) (w : World) (hb : FitB w v b) (hr : FitR w (.slice A r.g.stamp.length c) (.slice A2 r.stamp.length c2) r) (hok : BM.okBk b = true) (hk : r.kind = 2) :
    Calls Try.prog 31 #[.agg (four b v), .agg (twelve r (.slice A r.g.stamp.length c) (.slice A2 r.stamp.length c2))] w (BkPost w (BM.behind b r)) := by
  have hH : w.heap.size + 1 = (w.alloc (.cells (four b v) 45)).heap.size := by simp
  have hH2 : w.heap.size + 1 + 1 = ((w.alloc (.cells (four b v) 45)).alloc (.cells (twelve r (.slice A r.g.stamp.length c) (.slice A2 r.stamp.length c2)) 28)).heap.size := by simp
  have HX := Lib.hid ((((Below.refl _ w).alloc (Nat.le_refl _) (.cells (four b v) 45)).alloc (by simp) (.cells (twelve r (.slice A r.g.stamp.length c) (.slice A2 r.stamp.length c2)) 28)).alloc (by simp; omega) (.cells z4 45))
  have HB := Lib.hid (hb.below HX.out)
  have HKB := Lib.hid (((Whole.new w 45 (four b v)).alloc (.cells (twelve r (.slice A r.g.stamp.length c) (.slice A2 r.stamp.length c2)) 28)).alloc (.cells z4 45))
  have HKR := Lib.hid (show Whole (((w.alloc (.cells (four b v) 45)).alloc (.cells (twelve r (.slice A r.g.stamp.length c) (.slice A2 r.stamp.length c2)) 28)).alloc (.cells z4 45)) (w.heap.size + 1) 28 (twelve r (.slice A r.g.stamp.length c) (.slice A2 r.stamp.length c2)) from by rw [hH]; exact (Whole.new _ _ _).alloc _)
  have HKZ := Lib.hid (show Whole (((w.alloc (.cells (four b v) 45)).alloc (.cells (twelve r (.slice A r.g.stamp.length c) (.slice A2 r.stamp.length c2)) 28)).alloc (.cells z4 45)) (w.heap.size + 1 + 1) 45 z4 from by rw [hH2]; exact Whole.new _ _ _)
  have HS := Lib.hid (show (((w.alloc (.cells (four b v) 45)).alloc (.cells (twelve r (.slice A r.g.stamp.length c) (.slice A2 r.stamp.length c2)) 28)).alloc (.cells z4 45)).heap.size = w.heap.size + 3 by simp)
  have HP := Lib.hid (BM.okBk_parts hok)
  have HFB := Lib.hid (show In64 b.next ∧ In64 b.boots ∧ In64 b.longest from ⟨hb.next, hb.boots, hb.longest⟩)
  have HFR := Lib.hid hr
  clear hb hr hH hH2
  unfold z4 at HX HB HKB HKR HKZ HS
  obtain ⟨e0, e1, e2, e3⟩ := four_cells HKB.out
  go_enter Try.func31, Try.ntmps31
  go_wp2_with fail
  generalize (((w.alloc (.cells (four b v) 45)).alloc (.cells (twelve r (.slice A r.g.stamp.length c) (.slice A2 r.stamp.length c2)) 28)).alloc (.cells #[.int .i64 0, .int .i64 0, .int .i64 0, .slice none 0 0] 45)) = wa at HX HB HKB HKR HKZ HS e0 e1 e2 e3 ⊢
  refine (b_copiedAll v b.gs wa HB.out.gs (by have := HP.out.2.2.2.1; omega)).mono ?_
  rintro e w1 ⟨B, ps, rfl, hm, ho, hb1⟩
  have HM := Lib.hid hm
  have HKB1 := Lib.hid ((Mod.of_below hb1 []).whole HKB.out (by simp))
  have HT := Lib.hid (head_end hm HS.out HX.out hb1 HKB.out HKR.out HKZ.out ho HFR.out HFB.out)
  clear hm ho hb1 e0 e1 e2 e3 HB HX HKB HKR HKZ HS
  have HKR1 := Lib.hid HT.out.1
  replace HT := Lib.hid HT.out.2
  obtain ⟨e0, e1, e2, e3⟩ := four_cells HKB1.out
  have f0 := HKB1.out.frozen 0
  have f1 := HKB1.out.frozen 1
  have f2 := HKB1.out.frozen 2
  have f3 := HKB1.out.frozen 3
  have c0 : w1.cell? ⟨w.heap.size + 1, 0, none⟩ = some (.int .i64 2) := by rw [← hk]; exact HKR1.out.1.cell 0
  have hk' := Lib.hid hk
  clear hk
  obtain ⟨_, c1, c2', c3, c4, c5, c6, c7, c8, c9, c10, c11⟩ := rec_cells HKR1.out.1
  obtain ⟨⟨z0, z1, z2, z3⟩, g0', g1, g2, g3⟩ := zero_cells HKR1.out.2
  go_wp2_with fail
  refine bodyPost_ret (v := .agg (four ({ b with longest := r.longest }) (.slice B b.gs.length b.gs.length))) (by simp [results, Try.results31, go_sem, z0, z1, z2, z3, four]) rfl ?_
  have hv : BM.behind b r = { b with longest := r.longest } := by unfold BM.behind; simp [hk'.out]
  rw [hv]
  exact (HT.out.store HFR.out (i := 2) (v := .int .i64 r.longest) (b' := { b with longest := r.longest }) (L' := (.slice B b.gs.length b.gs.length)) rfl HT.out.own ⟨HFB.out.1, HFB.out.2.1, HFR.out.longest⟩).done HM.out
set_option maxHeartbeats 8000000 in
theorem b7 {A A2 : Option Addr} {c c2 : Nat} (v : Value) (b : Bk) (r : Rc) (w : World) (hb : FitB w v b) (hr : FitR w (.slice A r.g.stamp.length c) (.slice A2 r.stamp.length c2) r) (hok : BM.okBk b = true) (hk : r.kind = 7) :
    Calls Try.prog 31 #[.agg (four b v), .agg (twelve r (.slice A r.g.stamp.length c) (.slice A2 r.stamp.length c2))] w (BkPost w (BM.behind b r)) := by
  have hH : w.heap.size + 1 = (w.alloc (.cells (four b v) 45)).heap.size := by simp
  have hH2 : w.heap.size + 1 + 1 = ((w.alloc (.cells (four b v) 45)).alloc (.cells (twelve r (.slice A r.g.stamp.length c) (.slice A2 r.stamp.length c2)) 28)).heap.size := by simp
  have HX := Lib.hid ((((Below.refl _ w).alloc (Nat.le_refl _) (.cells (four b v) 45)).alloc (by simp) (.cells (twelve r (.slice A r.g.stamp.length c) (.slice A2 r.stamp.length c2)) 28)).alloc (by simp; omega) (.cells z4 45))
  have HB := Lib.hid (hb.below HX.out)
  have HKB := Lib.hid (((Whole.new w 45 (four b v)).alloc (.cells (twelve r (.slice A r.g.stamp.length c) (.slice A2 r.stamp.length c2)) 28)).alloc (.cells z4 45))
  have HKR := Lib.hid (show Whole (((w.alloc (.cells (four b v) 45)).alloc (.cells (twelve r (.slice A r.g.stamp.length c) (.slice A2 r.stamp.length c2)) 28)).alloc (.cells z4 45)) (w.heap.size + 1) 28 (twelve r (.slice A r.g.stamp.length c) (.slice A2 r.stamp.length c2)) from by rw [hH]; exact (Whole.new _ _ _).alloc _)
  have HKZ := Lib.hid (show Whole (((w.alloc (.cells (four b v) 45)).alloc (.cells (twelve r (.slice A r.g.stamp.length c) (.slice A2 r.stamp.length c2)) 28)).alloc (.cells z4 45)) (w.heap.size + 1 + 1) 45 z4 from by rw [hH2]; exact Whole.new _ _ _)
  have HS := Lib.hid (show (((w.alloc (.cells (four b v) 45)).alloc (.cells (twelve r (.slice A r.g.stamp.length c) (.slice A2 r.stamp.length c2)) 28)).alloc (.cells z4 45)).heap.size = w.heap.size + 3 by simp)
  have HP := Lib.hid (BM.okBk_parts hok)
  have HFB := Lib.hid (show In64 b.next ∧ In64 b.boots ∧ In64 b.longest from ⟨hb.next, hb.boots, hb.longest⟩)
  have HFR := Lib.hid hr
  clear hb hr hH hH2
  unfold z4 at HX HB HKB HKR HKZ HS
  obtain ⟨e0, e1, e2, e3⟩ := four_cells HKB.out
  have jw : wrap64 (b.boots + 1) = b.boots + 1 := by have := HP.out.2.1; unfold wrap64; omega
  go_enter Try.func31, Try.ntmps31
  go_wp2_with fail
  generalize (((w.alloc (.cells (four b v) 45)).alloc (.cells (twelve r (.slice A r.g.stamp.length c) (.slice A2 r.stamp.length c2)) 28)).alloc (.cells #[.int .i64 0, .int .i64 0, .int .i64 0, .slice none 0 0] 45)) = wa at HX HB HKB HKR HKZ HS e0 e1 e2 e3 ⊢
  refine (b_copiedAll v b.gs wa HB.out.gs (by have := HP.out.2.2.2.1; omega)).mono ?_
  rintro e w1 ⟨B, ps, rfl, hm, ho, hb1⟩
  have HM := Lib.hid hm
  have HKB1 := Lib.hid ((Mod.of_below hb1 []).whole HKB.out (by simp))
  have HT := Lib.hid (head_end hm HS.out HX.out hb1 HKB.out HKR.out HKZ.out ho HFR.out HFB.out)
  clear hm ho hb1 e0 e1 e2 e3 HB HX HKB HKR HKZ HS
  have HKR1 := Lib.hid HT.out.1
  replace HT := Lib.hid HT.out.2
  obtain ⟨e0, e1, e2, e3⟩ := four_cells HKB1.out
  have f0 := HKB1.out.frozen 0
  have f1 := HKB1.out.frozen 1
  have f2 := HKB1.out.frozen 2
  have f3 := HKB1.out.frozen 3
  have c0 : w1.cell? ⟨w.heap.size + 1, 0, none⟩ = some (.int .i64 7) := by rw [← hk]; exact HKR1.out.1.cell 0
  have hk' := Lib.hid hk
  clear hk
  obtain ⟨_, c1, c2', c3, c4, c5, c6, c7, c8, c9, c10, c11⟩ := rec_cells HKR1.out.1
  obtain ⟨⟨z0, z1, z2, z3⟩, g0', g1, g2, g3⟩ := zero_cells HKR1.out.2
  go_wp2_with fail
  refine bodyPost_ret (v := .agg (four ({ b with boots := b.boots + 1 }) (.slice B b.gs.length b.gs.length))) (by simp [results, Try.results31, go_sem, z0, z1, z2, z3, four]) rfl ?_
  have hv : BM.behind b r = { b with boots := b.boots + 1 } := by unfold BM.behind; simp [hk'.out]
  rw [hv]
  exact (HT.out.store HFR.out (i := 1) (v := .int .i64 (b.boots + 1)) (b' := { b with boots := b.boots + 1 }) (L' := (.slice B b.gs.length b.gs.length)) rfl HT.out.own ⟨HFB.out.1, by have := HP.out.2.1; unfold In64; constructor <;> dsimp only <;> omega, HFB.out.2.2⟩).done HM.out
set_option maxHeartbeats 8000000 in
theorem b1 {A A2 : Option Addr} {c c2 : Nat} (v : Value) (b : Bk) (r : Rc) (w : World) (hb : FitB w v b) (hr : FitR w (.slice A r.g.stamp.length c) (.slice A2 r.stamp.length c2) r) (hok : BM.okBk b = true) (hk : r.kind = 1) :
    Calls Try.prog 31 #[.agg (four b v), .agg (twelve r (.slice A r.g.stamp.length c) (.slice A2 r.stamp.length c2))] w (BkPost w (BM.behind b r)) := by
  have hH : w.heap.size + 1 = (w.alloc (.cells (four b v) 45)).heap.size := by simp
  have hH2 : w.heap.size + 1 + 1 = ((w.alloc (.cells (four b v) 45)).alloc (.cells (twelve r (.slice A r.g.stamp.length c) (.slice A2 r.stamp.length c2)) 28)).heap.size := by simp
  have HX := Lib.hid ((((Below.refl _ w).alloc (Nat.le_refl _) (.cells (four b v) 45)).alloc (by simp) (.cells (twelve r (.slice A r.g.stamp.length c) (.slice A2 r.stamp.length c2)) 28)).alloc (by simp; omega) (.cells z4 45))
  have HB := Lib.hid (hb.below HX.out)
  have HKB := Lib.hid (((Whole.new w 45 (four b v)).alloc (.cells (twelve r (.slice A r.g.stamp.length c) (.slice A2 r.stamp.length c2)) 28)).alloc (.cells z4 45))
  have HKR := Lib.hid (show Whole (((w.alloc (.cells (four b v) 45)).alloc (.cells (twelve r (.slice A r.g.stamp.length c) (.slice A2 r.stamp.length c2)) 28)).alloc (.cells z4 45)) (w.heap.size + 1) 28 (twelve r (.slice A r.g.stamp.length c) (.slice A2 r.stamp.length c2)) from by rw [hH]; exact (Whole.new _ _ _).alloc _)
  have HKZ := Lib.hid (show Whole (((w.alloc (.cells (four b v) 45)).alloc (.cells (twelve r (.slice A r.g.stamp.length c) (.slice A2 r.stamp.length c2)) 28)).alloc (.cells z4 45)) (w.heap.size + 1 + 1) 45 z4 from by rw [hH2]; exact Whole.new _ _ _)
  have HS := Lib.hid (show (((w.alloc (.cells (four b v) 45)).alloc (.cells (twelve r (.slice A r.g.stamp.length c) (.slice A2 r.stamp.length c2)) 28)).alloc (.cells z4 45)).heap.size = w.heap.size + 3 by simp)
  have HP := Lib.hid (BM.okBk_parts hok)
  have HFB := Lib.hid (show In64 b.next ∧ In64 b.boots ∧ In64 b.longest from ⟨hb.next, hb.boots, hb.longest⟩)
  have HFR := Lib.hid hr
  clear hb hr hH hH2
  unfold z4 at HX HB HKB HKR HKZ HS
  obtain ⟨e0, e1, e2, e3⟩ := four_cells HKB.out
  go_enter Try.func31, Try.ntmps31
  go_wp2_with fail
  generalize (((w.alloc (.cells (four b v) 45)).alloc (.cells (twelve r (.slice A r.g.stamp.length c) (.slice A2 r.stamp.length c2)) 28)).alloc (.cells #[.int .i64 0, .int .i64 0, .int .i64 0, .slice none 0 0] 45)) = wa at HX HB HKB HKR HKZ HS e0 e1 e2 e3 ⊢
  refine (b_copiedAll v b.gs wa HB.out.gs (by have := HP.out.2.2.2.1; omega)).mono ?_
  rintro e w1 ⟨B, ps, rfl, hm, ho, hb1⟩
  have HM := Lib.hid hm
  have HKB1 := Lib.hid ((Mod.of_below hb1 []).whole HKB.out (by simp))
  have HT := Lib.hid (head_end hm HS.out HX.out hb1 HKB.out HKR.out HKZ.out ho HFR.out HFB.out)
  clear hm ho hb1 e0 e1 e2 e3 HB HX HKB HKR HKZ HS
  have HKR1 := Lib.hid HT.out.1
  replace HT := Lib.hid HT.out.2
  obtain ⟨e0, e1, e2, e3⟩ := four_cells HKB1.out
  have f0 := HKB1.out.frozen 0
  have f1 := HKB1.out.frozen 1
  have f2 := HKB1.out.frozen 2
  have f3 := HKB1.out.frozen 3
  have c0 : w1.cell? ⟨w.heap.size + 1, 0, none⟩ = some (.int .i64 1) := by rw [← hk]; exact HKR1.out.1.cell 0
  have hk' := Lib.hid hk
  clear hk
  obtain ⟨_, c1, c2', c3, c4, c5, c6, c7, c8, c9, c10, c11⟩ := rec_cells HKR1.out.1
  obtain ⟨⟨z0, z1, z2, z3⟩, g0', g1, g2, g3⟩ := zero_cells HKR1.out.2
  go_wp2_with fail
  go_region
  have HT1 : Hid (BhSt w ({ b with next := r.next, boots := r.boots }) (.slice B b.gs.length b.gs.length) r (.slice A r.g.stamp.length c) (.slice A2 r.stamp.length c2) ps ((((w1.setCell { block := w.heap.size, off := 3 } (Value.slice B b.gs.length b.gs.length)).setCell { block := w.heap.size, off := 0 } (Value.int IntKind.i64 r.next)).setCell { block := w.heap.size, off := 1 } (Value.int IntKind.i64 r.boots)).drew)) := Lib.hid ((HT.out.store HFR.out (i := 0) (v := .int .i64 r.next) (b' := { b with next := r.next }) (L' := (.slice B b.gs.length b.gs.length)) rfl HT.out.own ⟨HFR.out.next, HFB.out.2.1, HFB.out.2.2⟩).store HFR.out (i := 1) (v := .int .i64 r.boots) (b' := { b with next := r.next, boots := r.boots }) (L' := (.slice B b.gs.length b.gs.length)) rfl (HT.out.own.mod ((Mod.refl [w.heap.size] _).store (p := ⟨w.heap.size, 0, none⟩) (.inl (by simp)) _) (by simp)) ⟨HFR.out.next, HFR.out.boots, HFB.out.2.2⟩).drew
  clear HT HKB1 HKR1
  clear e0 e1 e2 e3 f0 f1 f2 f3 c0 c1 c2' c3 c4 c5 c6 c7 c8 c9 c10 c11 z0 z1 z2 z3 g0' g1 g2 g3
  generalize (((w1.setCell { block := w.heap.size, off := 3 } (Value.slice B b.gs.length b.gs.length)).setCell { block := w.heap.size, off := 0 } (Value.int IntKind.i64 r.next)).setCell { block := w.heap.size, off := 1 } (Value.int IntKind.i64 r.boots)).drew = w2 at HT1 ⊢
  have HT := HT1
  clear HT1
  obtain ⟨e0, e1, e2, e3⟩ := four_cells HT.out.kb
  have f0 := HT.out.kb.frozen 0
  have f1 := HT.out.kb.frozen 1
  have f2 := HT.out.kb.frozen 2
  have f3 := HT.out.kb.frozen 3
  obtain ⟨c0, c1, c2', c3, c4, c5, c6, c7, c8, c9, c10, c11⟩ := rec_cells HT.out.kr
  obtain ⟨⟨z0, z1, z2, z3⟩, g0', g1, g2, g3⟩ := zero_cells HT.out.kz
  go_wp2_with fail
  refine bodyPost_ret (v := .agg (four ({ b with next := r.next, boots := r.boots }) (.slice B b.gs.length b.gs.length))) (by simp [results, Try.results31, go_sem, z0, z1, z2, z3, four]) rfl ?_
  have hv : BM.behind b r = { b with next := r.next, boots := r.boots } := by unfold BM.behind; simp [hk'.out]
  rw [hv]
  exact HT.out.done HM.out
end Go.Proofs.Ytboflkadabagfab
namespace Go.Proofs.Ytboflkadabagfab
open Go.RowKit
open BM (Gr Rc Bk g0 r0 b0)
set_option linter.unusedVariables false
set_option linter.unusedSimpArgs false
set_option maxRecDepth 100000
theorem take_ahead (l : List Gr) (id : Int) : l.take (ahead l id) = l.takeWhile (BM.less id) := by
  have h := @List.takeWhile_append_dropWhile _ (BM.less id) l
  unfold ahead
  conv => lhs; arg 2; rw [← h]
  exact List.take_left
theorem drop_ahead (l : List Gr) (id : Int) : l.drop (ahead l id) = l.dropWhile (BM.less id) := by
  have h := @List.takeWhile_append_dropWhile _ (BM.less id) l
  unfold ahead
  conv => lhs; arg 2; rw [← h]
  exact List.drop_left
theorem put_fst {ps : List (Gr × Value)} {l : List Gr} (hm : ps.map Prod.fst = l) (g : Gr) (gv : Value) : (put ps (ahead l g.id) (g, gv)).map Prod.fst = BM.ins g l := by
  unfold put BM.ins
  rw [List.map_append, List.map_cons, List.map_take, List.map_drop, hm, take_ahead, drop_ahead]
theorem there_get {l : List Gr} {id : Int} (hr : Rise l) (ht : BM.there id l = true) : ∃ a, l[ahead l id]? = some a ∧ a.id = id := by
  rw [there_at hr] at ht
  cases h : l[ahead l id]? with
  | none => rw [h] at ht; cases ht
  | some a => rw [h] at ht; exact ⟨a, rfl, by simpa using ht⟩
theorem split_at {l : List Gr} {k : Nat} {a : Gr} (h : l[k]? = some a) : l = l.take k ++ a :: l.drop (k + 1) := by
  obtain ⟨hk, he⟩ := List.getElem?_eq_some_iff.1 h
  subst he
  rw [List.getElem_cons_drop, List.take_append_drop]
theorem others {l : List Gr} {k : Nat} {a : Gr} (hr : Rise l) (h : l[k]? = some a) : (∀ x ∈ l.take k, x.id < a.id) ∧ ∀ x ∈ l.drop (k + 1), a.id < x.id := by
  refine ⟨fun x hx => ?_, fun x hx => ?_⟩
  · obtain ⟨i, hi⟩ := List.getElem?_of_mem hx
    rw [List.getElem?_take] at hi
    split at hi
    · exact hr i k x a hi h (by assumption)
    · cases hi
  · obtain ⟨i, hi⟩ := List.getElem?_of_mem hx
    rw [List.getElem?_drop] at hi
    exact hr k (k + 1 + i) a x h hi (by omega)
theorem without_eq {l : List Gr} {k : Nat} {a : Gr} (hr : Rise l) (h : l[k]? = some a) : BM.without a.id l = l.take k ++ l.drop (k + 1) := by
  obtain ⟨h1, h2⟩ := others hr h
  have e : BM.without a.id (l.take k ++ a :: l.drop (k + 1)) = l.take k ++ l.drop (k + 1) := by
    unfold BM.without
    rw [List.filter_append, List.filter_cons_of_neg (by simp), List.filter_eq_self.2 (fun x hx => by have := h1 x hx; simp; omega), List.filter_eq_self.2 (fun x hx => by have := h2 x hx; simp; omega)]
  rwa [← split_at h] at e
theorem fresh_eq {l : List Gr} {k : Nat} {a : Gr} (s : List Int) (hr : Rise l) (h : l[k]? = some a) : BM.fresh a.id s l = l.take k ++ { a with stamp := s } :: l.drop (k + 1) := by
  obtain ⟨h1, h2⟩ := others hr h
  have e : BM.fresh a.id s (l.take k ++ a :: l.drop (k + 1)) = l.take k ++ { a with stamp := s } :: l.drop (k + 1) := by
    unfold BM.fresh
    rw [List.map_append, List.map_cons, if_pos rfl]
    congr 1
    · refine (List.map_congr_left (g := id) fun x hx => ?_).trans (List.map_id _)
      have := h1 x hx
      rw [if_neg (by omega)]; rfl
    · congr 1
      refine (List.map_congr_left (g := id) fun x hx => ?_).trans (List.map_id _)
      have := h2 x hx
      rw [if_neg (by omega)]; rfl
  rwa [← split_at h] at e
theorem rem_fst {ps : List (Gr × Value)} {l : List Gr} {id : Int} (hm : ps.map Prod.fst = l) (hr : Rise l) (ht : BM.there id l = true) : (rem ps (ahead l id)).map Prod.fst = BM.without id l := by
  obtain ⟨a, h1, h2⟩ := there_get hr ht
  subst h2
  unfold rem
  rw [List.map_append, List.map_take, List.map_drop, hm, without_eq hr h1]
theorem Whole.low {w w' : World} {g B : Nat} {t : TypeId} {cs : Array Value} (h : Whole w g t cs) (hb : Below B w w') (hg : g < B) : Whole w' g t cs := (hb.block g hg).trans h
section
variable {w0 w w' : World} {b : Bk} {L s u : Value} {r : Rc} {ps : List (Gr × Value)}
/-- A call that leaves what is below the list: the new list comes into its place. -/
theorem BhSt.put (h : BhSt w0 b L r s u ps w) (hf : FitR w0 s u r) (hb : Below (w0.heap.size + 3) w w') {L' : Value} {ps' : List (Gr × Value)} (hL : OwnG w' (w0.heap.size + 3) L' ps') (gs : List Gr) : BhSt w0 { b with gs := gs } L' r s u ps' (w'.setCell ⟨w0.heap.size, 3, none⟩ L') := by
  have hM : Mod [w0.heap.size] w' (w'.setCell ⟨w0.heap.size, 3, none⟩ L') := (Mod.refl _ w').store (p := ⟨w0.heap.size, 3, none⟩) (.inl (by simp)) L'
  have hB0 : Below w0.heap.size w0 w' := h.below.trans (hb.mono (by omega))
  have hs' := hb.size
  have hs := h.size
  have hB : Below w0.heap.size w0 (w'.setCell ⟨w0.heap.size, 3, none⟩ L') := hB0.trans (hM.below (by omega) (by simp))
  exact ⟨(h.kb.low hb (by omega)).store 3 L', hM.whole (h.kr.low hb (by omega)) (by simp), hM.whole (h.kz.low hb (by omega)) (by simp; omega), hL.mod hM (by simp), hf.below hB, h.fb, by simp; omega, hB⟩
theorem BhSt.bk (h : BhSt w0 b L r s u ps w) (hm : ps.map Prod.fst = b.gs) : FitB w L b := ⟨by have := h.own.hd; rwa [hm] at this, h.fb.1, h.fb.2.1, h.fb.2.2⟩
end
theorem ok_rise {b : Bk} (h : BM.okBk b = true) : Rise b.gs := stand_rise (BM.okBk_parts h).2.2.2.2
end Go.Proofs.Ytboflkadabagfab
namespace Go.Proofs.Ytboflkadabagfab
open Go.RowKit
open BM (Gr Rc Bk g0 r0 b0)
set_option linter.unusedVariables false
set_option linter.unusedSimpArgs false
set_option maxRecDepth 100000
set_option maxHeartbeats 8000000 in
theorem b6 {A A2 : Option Addr} {c c2 : Nat} (v : Value) (b : Bk) (r : Rc) (w : World) (hb : FitB w v b) (hr : FitR w (.slice A r.g.stamp.length c) (.slice A2 r.stamp.length c2) r) (hok : BM.okBk b = true) (hk : r.kind = 6) (hth : BM.there r.id b.gs = true) :
    Calls Try.prog 31 #[.agg (four b v), .agg (twelve r (.slice A r.g.stamp.length c) (.slice A2 r.stamp.length c2))] w (BkPost w (BM.behind b r)) := by
  have hH : w.heap.size + 1 = (w.alloc (.cells (four b v) 45)).heap.size := by simp
  have hH2 : w.heap.size + 1 + 1 = ((w.alloc (.cells (four b v) 45)).alloc (.cells (twelve r (.slice A r.g.stamp.length c) (.slice A2 r.stamp.length c2)) 28)).heap.size := by simp
  have HX := Lib.hid ((((Below.refl _ w).alloc (Nat.le_refl _) (.cells (four b v) 45)).alloc (by simp) (.cells (twelve r (.slice A r.g.stamp.length c) (.slice A2 r.stamp.length c2)) 28)).alloc (by simp; omega) (.cells z4 45))
  have HB := Lib.hid (hb.below HX.out)
  have HKB := Lib.hid (((Whole.new w 45 (four b v)).alloc (.cells (twelve r (.slice A r.g.stamp.length c) (.slice A2 r.stamp.length c2)) 28)).alloc (.cells z4 45))
  have HKR := Lib.hid (show Whole (((w.alloc (.cells (four b v) 45)).alloc (.cells (twelve r (.slice A r.g.stamp.length c) (.slice A2 r.stamp.length c2)) 28)).alloc (.cells z4 45)) (w.heap.size + 1) 28 (twelve r (.slice A r.g.stamp.length c) (.slice A2 r.stamp.length c2)) from by rw [hH]; exact (Whole.new _ _ _).alloc _)
  have HKZ := Lib.hid (show Whole (((w.alloc (.cells (four b v) 45)).alloc (.cells (twelve r (.slice A r.g.stamp.length c) (.slice A2 r.stamp.length c2)) 28)).alloc (.cells z4 45)) (w.heap.size + 1 + 1) 45 z4 from by rw [hH2]; exact Whole.new _ _ _)
  have HS := Lib.hid (show (((w.alloc (.cells (four b v) 45)).alloc (.cells (twelve r (.slice A r.g.stamp.length c) (.slice A2 r.stamp.length c2)) 28)).alloc (.cells z4 45)).heap.size = w.heap.size + 3 by simp)
  have HP := Lib.hid (BM.okBk_parts hok)
  have HFB := Lib.hid (show In64 b.next ∧ In64 b.boots ∧ In64 b.longest from ⟨hb.next, hb.boots, hb.longest⟩)
  have HFR := Lib.hid hr
  clear hb hr hH hH2
  have HTH := Lib.hid hth
  clear hth
  unfold z4 at HX HB HKB HKR HKZ HS
  obtain ⟨e0, e1, e2, e3⟩ := four_cells HKB.out
  go_enter Try.func31, Try.ntmps31
  go_wp2_with fail
  generalize (((w.alloc (.cells (four b v) 45)).alloc (.cells (twelve r (.slice A r.g.stamp.length c) (.slice A2 r.stamp.length c2)) 28)).alloc (.cells #[.int .i64 0, .int .i64 0, .int .i64 0, .slice none 0 0] 45)) = wa at HX HB HKB HKR HKZ HS e0 e1 e2 e3 ⊢
  refine (b_copiedAll v b.gs wa HB.out.gs (by have := HP.out.2.2.2.1; omega)).mono ?_
  rintro e w1 ⟨B, ps, rfl, hm, ho, hb1⟩
  have HM := Lib.hid hm
  have HKB1 := Lib.hid ((Mod.of_below hb1 []).whole HKB.out (by simp))
  have HT := Lib.hid (head_end hm HS.out HX.out hb1 HKB.out HKR.out HKZ.out ho HFR.out HFB.out)
  clear hm ho hb1 e0 e1 e2 e3 HB HX HKB HKR HKZ HS
  have HKR1 := Lib.hid HT.out.1
  replace HT := Lib.hid HT.out.2
  obtain ⟨e0, e1, e2, e3⟩ := four_cells HKB1.out
  have f0 := HKB1.out.frozen 0
  have f1 := HKB1.out.frozen 1
  have f2 := HKB1.out.frozen 2
  have f3 := HKB1.out.frozen 3
  have c0 : w1.cell? ⟨w.heap.size + 1, 0, none⟩ = some (.int .i64 6) := by rw [← hk]; exact HKR1.out.1.cell 0
  have hk' := Lib.hid hk
  clear hk
  obtain ⟨_, c1, c2', c3, c4, c5, c6, c7, c8, c9, c10, c11⟩ := rec_cells HKR1.out.1
  obtain ⟨⟨z0, z1, z2, z3⟩, g0', g1, g2, g3⟩ := zero_cells HKR1.out.2
  go_wp2_with fail
  have HR := Lib.hid (ok_rise hok)
  have HT1 : Hid (BhSt w (b) (.slice B b.gs.length b.gs.length) r (.slice A r.g.stamp.length c) (.slice A2 r.stamp.length c2) ps ((w1.setCell { block := w.heap.size, off := 3 } (Value.slice B b.gs.length b.gs.length)))) := HT
  clear HT HKB1 HKR1
  clear e0 e1 e2 e3 f0 f1 f2 f3 c0 c1 c2' c3 c4 c5 c6 c7 c8 c9 c10 c11 z0 z1 z2 z3 g0' g1 g2 g3
  generalize (w1.setCell { block := w.heap.size, off := 3 } (Value.slice B b.gs.length b.gs.length)) = w2 at HT1 ⊢
  refine (b_place (.slice B b.gs.length b.gs.length) (b) r.id w2 (HT1.out.bk HM.out) HR.out HFR.out.id (by have := HP.out.2.2.2.1; (try dsimp only); omega)).mono ?_
  rintro e w3 ⟨rfl, hb3⟩
  have HT := Lib.hid (HT1.out.on hb3)
  clear hb3 HT1
  obtain ⟨k, hkk⟩ : ∃ k, k = ahead b.gs r.id := ⟨_, rfl⟩
  have HKK := Lib.hid hkk
  have HKL := Lib.hid (show k ≤ b.gs.length by rw [hkk]; exact ahead_le _ _)
  rw [← hkk]
  clear hkk
  obtain ⟨e0, e1, e2, e3⟩ := four_cells HT.out.kb
  have f0 := HT.out.kb.frozen 0
  have f1 := HT.out.kb.frozen 1
  have f2 := HT.out.kb.frozen 2
  have f3 := HT.out.kb.frozen 3
  obtain ⟨c0, c1, c2', c3, c4, c5, c6, c7, c8, c9, c10, c11⟩ := rec_cells HT.out.kr
  obtain ⟨⟨z0, z1, z2, z3⟩, g0', g1, g2, g3⟩ := zero_cells HT.out.kz
  have jw : wrap64 ((k : Int) + 1) = (k : Int) + 1 := by have := HKL.out; have := HP.out.2.2.2.1; unfold wrap64; omega
  go_wp2_with fail
  have hl : ps.length = b.gs.length := by rw [← HM.out, List.length_map]
  obtain ⟨a, ha, _⟩ := there_get HR.out HTH.out
  have hkl : k < b.gs.length := by rw [HKK.out]; exact (List.getElem?_eq_some_iff.1 ha).1
  refine (Delete_any w3 hl HT.out.own hkl (by have := HP.out.2.2.2.1; omega) HT.out.size).mono ?_
  rintro e w5 ⟨v7, rfl, ho, hb5⟩
  clear ha hl
  clear e0 e1 e2 e3 f0 f1 f2 f3 c0 c1 c2' c3 c4 c5 c6 c7 c8 c9 c10 c11 z0 z1 z2 z3 g0' g1 g2 g3
  obtain ⟨A7, n7, hv7, _, _⟩ := own_shape ho.row
  subst hv7
  have HK5 := Lib.hid (And.intro (HT.out.kb.low hb5 (by omega)) (And.intro (HT.out.kr.low hb5 (by omega)) (HT.out.kz.low hb5 (by omega))))
  have HT5 := Lib.hid (HT.out.put HFR.out hb5 ho (BM.without r.id b.gs))
  clear ho hb5
  obtain ⟨e0, e1, e2, e3⟩ := four_cells HK5.out.1
  have f0 := HK5.out.1.frozen 0
  have f1 := HK5.out.1.frozen 1
  have f2 := HK5.out.1.frozen 2
  have f3 := HK5.out.1.frozen 3
  obtain ⟨c0, c1, c2', c3, c4, c5, c6, c7, c8, c9, c10, c11⟩ := rec_cells HK5.out.2.1
  obtain ⟨⟨z0, z1, z2, z3⟩, g0', g1, g2, g3⟩ := zero_cells HK5.out.2.2
  clear hkl
  go_wp2_with fail
  refine bodyPost_ret (v := .agg (four ({ b with gs := BM.without r.id b.gs }) (.slice A7 (rem ps k).length n7))) (by simp [results, Try.results31, go_sem, z0, z1, z2, z3, four]) rfl ?_
  have hv : BM.behind b r = { b with gs := BM.without r.id b.gs } := by unfold BM.behind; simp [hk'.out]
  rw [hv]
  exact HT5.out.done (by rw [HKK.out]; exact rem_fst HM.out HR.out HTH.out)
end Go.Proofs.Ytboflkadabagfab
