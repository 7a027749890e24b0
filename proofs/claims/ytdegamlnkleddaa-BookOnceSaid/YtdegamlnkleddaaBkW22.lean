/- What a record leaves: the state; a counter's, a longest's, a boot's. -/
import Derived.Test.YtdegamlnkleddaaBkW21
import Derived.Test.YtdegamlnkleddaaBkW20
import Derived.Test.YtdegamlnkleddaaBkW18
import Derived.OrdersHeld
namespace Go.Proofs.Ytdegamlnkleddaa
open Go.RowKit
open BM (Gr Rc Bk g0 r0 b0)
set_option linter.unusedVariables false
set_option linter.unusedSimpArgs false
set_option maxRecDepth 100000
/-- What stands while the record is put in: the book's box, the record's, the answer's, the list of the call's own. -/
structure BhSt (w0 : World) (b : Bk) (L : Value) (r : Rc) (s u : Value) (ps : List (Gr × Value)) (w : World) : Prop where
  kb : Whole w w0.heap.size 25 (four b L)
  kr : Whole w (w0.heap.size + 1) 32 (twelve r s u)
  kz : Whole w (w0.heap.size + 1 + 1) 25 z4
  own : OwnG w (w0.heap.size + 3) L ps
  fr : FitR w s u r
  fb : In64 b.next ∧ In64 b.boots ∧ In64 b.longest
  size : w0.heap.size + 3 ≤ w.heap.size
  below : Below w0.heap.size w0 w
/-- A book that the call answers, of its own. -/
def BkPost (w : World) (b : Bk) (e : Ending) (w' : World) : Prop := ∃ v ps, e = .returned (.agg (four b v)) ∧ ps.map Prod.fst = b.gs ∧ OwnG w' w.heap.size v ps ∧ Below w.heap.size w w'
section
variable {w0 w w' : World} {b : Bk} {L s u : Value} {r : Rc} {ps : List (Gr × Value)}
theorem BhSt.on (h : BhSt w0 b L r s u ps w) (hb : Below w.heap.size w w') : BhSt w0 b L r s u ps w' :=
  ⟨(Mod.of_below hb []).whole h.kb (by simp), (Mod.of_below hb []).whole h.kr (by simp), (Mod.of_below hb []).whole h.kz (by simp), h.own.below hb, h.fr.below hb, h.fb, Nat.le_trans h.size hb.size, below_on h.below hb⟩
theorem BhSt.drew (h : BhSt w0 b L r s u ps w) : BhSt w0 b L r s u ps w.drew := h.on (Below.refl _ _).drew
theorem FitR.mod {F : List Nat} (h : FitR w0 s u r) (hm : Below w0.heap.size w0 w) : FitR w s u r := h.below hm
/-- One cell of the book is stored. -/
theorem BhSt.store (h : BhSt w0 b L r s u ps w) (hf : FitR w0 s u r) {i : Nat} {v : Value} {b' : Bk} {L' : Value} {ps' : List (Gr × Value)} (he : (four b L).setIfInBounds i v = four b' L') (hL : OwnG w (w0.heap.size + 3) L' ps') (hb : In64 b'.next ∧ In64 b'.boots ∧ In64 b'.longest) : BhSt w0 b' L' r s u ps' (w.setCell ⟨w0.heap.size, i, none⟩ v) := by
  have hM : Mod [w0.heap.size] w (w.setCell ⟨w0.heap.size, i, none⟩ v) := (Mod.refl _ w).store (p := ⟨w0.heap.size, i, none⟩) (.inl (by simp)) v
  have hB : Below w0.heap.size w0 (w.setCell ⟨w0.heap.size, i, none⟩ v) := h.below.trans (hM.below (by have := h.size; omega) (by simp))
  refine ⟨?_, hM.whole h.kr (by simp), hM.whole h.kz (by simp; omega), hL.mod hM (by simp), hf.below hB, hb, by simpa using h.size, hB⟩
  have := h.kb.store i v
  rwa [he] at this
/-- The answer's box is written. -/
theorem BhSt.done (h : BhSt w0 b L r s u ps w) (hm : ps.map Prod.fst = b.gs) : BkPost w0 b (.returned (.agg (four b L))) ((((w.setCell ⟨w0.heap.size + 1 + 1, 0, none⟩ (.int .i64 b.next)).setCell ⟨w0.heap.size + 1 + 1, 1, none⟩ (.int .i64 b.boots)).setCell ⟨w0.heap.size + 1 + 1, 2, none⟩ (.int .i64 b.longest)).setCell ⟨w0.heap.size + 1 + 1, 3, none⟩ L) := by
  have hM : Mod [w0.heap.size + 1 + 1] w ((((w.setCell ⟨w0.heap.size + 1 + 1, 0, none⟩ (.int .i64 b.next)).setCell ⟨w0.heap.size + 1 + 1, 1, none⟩ (.int .i64 b.boots)).setCell ⟨w0.heap.size + 1 + 1, 2, none⟩ (.int .i64 b.longest)).setCell ⟨w0.heap.size + 1 + 1, 3, none⟩ L) :=
    ((((Mod.refl _ w).store (p := ⟨w0.heap.size + 1 + 1, 0, none⟩) (.inl (by simp)) _).store (p := ⟨w0.heap.size + 1 + 1, 1, none⟩) (.inl (by simp)) _).store (p := ⟨w0.heap.size + 1 + 1, 2, none⟩) (.inl (by simp)) _).store (p := ⟨w0.heap.size + 1 + 1, 3, none⟩) (.inl (by simp)) _
  refine ⟨L, ps, rfl, hm, (h.own.mod hM (by simp)).low (by omega), h.below.trans (hM.below (by have := h.size; omega) (by intro x hx; simp at hx; omega))⟩
theorem zero_cells {g : Nat} (h : Whole w g 25 z4) : (w.cell? ⟨g, 0, none⟩ = some (.int .i64 0) ∧ w.cell? ⟨g, 1, none⟩ = some (.int .i64 0) ∧ w.cell? ⟨g, 2, none⟩ = some (.int .i64 0) ∧ w.cell? ⟨g, 3, none⟩ = some (.slice none 0 0)) ∧
    w.frozen? ⟨g, 0, none⟩ = false ∧ w.frozen? ⟨g, 1, none⟩ = false ∧ w.frozen? ⟨g, 2, none⟩ = false ∧ w.frozen? ⟨g, 3, none⟩ = false :=
  ⟨⟨h.cell 0, h.cell 1, h.cell 2, h.cell 3⟩, h.frozen 0, h.frozen 1, h.frozen 2, h.frozen 3⟩
end
/-- The list of the call's own is in its place. -/
theorem head_end {w wa w1 : World} {b : Bk} {v s u B : Value} {r : Rc} {ps : List (Gr × Value)} (hm : ps.map Prod.fst = b.gs) (hS : wa.heap.size = w.heap.size + 3) (hX : Below w.heap.size w wa) (hb : Below wa.heap.size wa w1) (hkb : Whole wa w.heap.size 25 (four b v)) (hkr : Whole wa (w.heap.size + 1) 32 (twelve r s u)) (hkz : Whole wa (w.heap.size + 1 + 1) 25 z4)
    (ho : OwnG w1 wa.heap.size B ps) (hr : FitR w s u r) (hf : In64 b.next ∧ In64 b.boots ∧ In64 b.longest) : (Whole w1 (w.heap.size + 1) 32 (twelve r s u) ∧ Whole w1 (w.heap.size + 1 + 1) 25 z4) ∧ BhSt w b B r s u ps (w1.setCell ⟨w.heap.size, 3, none⟩ B) := by
  have hB1 := below_on hX hb
  have hM : Mod [w.heap.size] w1 (w1.setCell ⟨w.heap.size, 3, none⟩ B) := (Mod.refl _ w1).store (p := ⟨w.heap.size, 3, none⟩) (.inl (by simp)) B
  have hB : Below w.heap.size w (w1.setCell ⟨w.heap.size, 3, none⟩ B) := hB1.trans (hM.below hB1.size (by simp))
  have k1 := (Mod.of_below hb []).whole hkb (by simp)
  have k2 := (Mod.of_below hb []).whole hkr (by simp)
  have k3 := (Mod.of_below hb []).whole hkz (by simp)
  have hs1 := hb.size
  rw [hS] at ho
  exact ⟨⟨k2, k3⟩, k1.store 3 B, hM.whole k2 (by simp), hM.whole k3 (by simp; omega), ho.mod hM (by simp), hr.below hB, hf, by simp; omega, hB⟩
set_option maxHeartbeats 8000000 in
theorem b2 {A A2 : Option Addr} {c c2 : Nat} (v : Value) (b : Bk) (r : Rc) (w : World) (hb : FitB w v b) (hr : FitR w (.slice A r.g.stamp.length c) (.slice A2 r.stamp.length c2) r) (hok : BM.okBk b = true) (hk : r.kind = 2) :
    Calls Try.prog 34 #[.agg (four b v), .agg (twelve r (.slice A r.g.stamp.length c) (.slice A2 r.stamp.length c2))] w (BkPost w (BM.behind b r)) := by
  have hH : w.heap.size + 1 = (w.alloc (.cells (four b v) 25)).heap.size := by simp
  have hH2 : w.heap.size + 1 + 1 = ((w.alloc (.cells (four b v) 25)).alloc (.cells (twelve r (.slice A r.g.stamp.length c) (.slice A2 r.stamp.length c2)) 32)).heap.size := by simp
  have HX := Lib.hid ((((Below.refl _ w).alloc (Nat.le_refl _) (.cells (four b v) 25)).alloc (by simp) (.cells (twelve r (.slice A r.g.stamp.length c) (.slice A2 r.stamp.length c2)) 32)).alloc (by simp; omega) (.cells z4 25))
  have HB := Lib.hid (hb.below HX.out)
  have HKB := Lib.hid (((Whole.new w 25 (four b v)).alloc (.cells (twelve r (.slice A r.g.stamp.length c) (.slice A2 r.stamp.length c2)) 32)).alloc (.cells z4 25))
  have HKR := Lib.hid (show Whole (((w.alloc (.cells (four b v) 25)).alloc (.cells (twelve r (.slice A r.g.stamp.length c) (.slice A2 r.stamp.length c2)) 32)).alloc (.cells z4 25)) (w.heap.size + 1) 32 (twelve r (.slice A r.g.stamp.length c) (.slice A2 r.stamp.length c2)) from by rw [hH]; exact (Whole.new _ _ _).alloc _)
  have HKZ := Lib.hid (show Whole (((w.alloc (.cells (four b v) 25)).alloc (.cells (twelve r (.slice A r.g.stamp.length c) (.slice A2 r.stamp.length c2)) 32)).alloc (.cells z4 25)) (w.heap.size + 1 + 1) 25 z4 from by rw [hH2]; exact Whole.new _ _ _)
  have HS := Lib.hid (show (((w.alloc (.cells (four b v) 25)).alloc (.cells (twelve r (.slice A r.g.stamp.length c) (.slice A2 r.stamp.length c2)) 32)).alloc (.cells z4 25)).heap.size = w.heap.size + 3 by simp)
  have HP := Lib.hid (BM.okBk_parts hok)
  have HFB := Lib.hid (show In64 b.next ∧ In64 b.boots ∧ In64 b.longest from ⟨hb.next, hb.boots, hb.longest⟩)
  have HFR := Lib.hid hr
  clear hb hr hH hH2
  unfold z4 at HX HB HKB HKR HKZ HS
  obtain ⟨e0, e1, e2, e3⟩ := four_cells HKB.out
  go_enter Try.func34, Try.ntmps34
  go_wp2_with fail
  generalize (((w.alloc (.cells (four b v) 25)).alloc (.cells (twelve r (.slice A r.g.stamp.length c) (.slice A2 r.stamp.length c2)) 32)).alloc (.cells #[.int .i64 0, .int .i64 0, .int .i64 0, .slice none 0 0] 25)) = wa at HX HB HKB HKR HKZ HS e0 e1 e2 e3 ⊢
  refine (b_copiedAll v b.gs wa HB.out.gs (by have := HP.out.2.2.2.1; omega)).mono ?_
  rintro e w1 ⟨B, ps, rfl, hm, ho, hb1⟩
  have HM := Lib.hid hm
  have HKB1 := Lib.hid ((Mod.of_below hb1 []).whole HKB.out (by simp))
  have HT := Lib.hid (head_end hm HS.out HX.out hb1 HKB.out HKR.out HKZ.out ho HFR.out HFB.out)
  clear hm ho hb1 e0 e1 e2 e3 HB HX HKB HKR HKZ HS
  have HKR1 := Lib.hid HT.out.1
  replace HT := Lib.hid HT.out.2
  obtain ⟨e0, e1, e2, e3⟩ := four_cells HKB1.out
  have f0 := HKB1.out.frozen 0
  have f1 := HKB1.out.frozen 1
  have f2 := HKB1.out.frozen 2
  have f3 := HKB1.out.frozen 3
  have c0 : w1.cell? ⟨w.heap.size + 1, 0, none⟩ = some (.int .i64 2) := by rw [← hk]; exact HKR1.out.1.cell 0
  have hk' := Lib.hid hk
  clear hk
  obtain ⟨_, c1, c2', c3, c4, c5, c6, c7, c8, c9, c10, c11⟩ := rec_cells HKR1.out.1
  obtain ⟨⟨z0, z1, z2, z3⟩, g0', g1, g2, g3⟩ := zero_cells HKR1.out.2
  go_wp2_with fail
  refine bodyPost_ret (v := .agg (four ({ b with longest := r.longest }) (.slice B b.gs.length b.gs.length))) (by simp [results, Try.results34, go_sem, z0, z1, z2, z3, four]) rfl ?_
  have hv : BM.behind b r = { b with longest := r.longest } := by unfold BM.behind; simp [hk'.out]
  rw [hv]
  exact (HT.out.store HFR.out (i := 2) (v := .int .i64 r.longest) (b' := { b with longest := r.longest }) (L' := (.slice B b.gs.length b.gs.length)) rfl HT.out.own ⟨HFB.out.1, HFB.out.2.1, HFR.out.longest⟩).done HM.out
set_option maxHeartbeats 8000000 in
theorem b7 {A A2 : Option Addr} {c c2 : Nat} (v : Value) (b : Bk) (r : Rc) (w : World) (hb : FitB w v b) (hr : FitR w (.slice A r.g.stamp.length c) (.slice A2 r.stamp.length c2) r) (hok : BM.okBk b = true) (hk : r.kind = 7) :
    Calls Try.prog 34 #[.agg (four b v), .agg (twelve r (.slice A r.g.stamp.length c) (.slice A2 r.stamp.length c2))] w (BkPost w (BM.behind b r)) := by
  have hH : w.heap.size + 1 = (w.alloc (.cells (four b v) 25)).heap.size := by simp
  have hH2 : w.heap.size + 1 + 1 = ((w.alloc (.cells (four b v) 25)).alloc (.cells (twelve r (.slice A r.g.stamp.length c) (.slice A2 r.stamp.length c2)) 32)).heap.size := by simp
  have HX := Lib.hid ((((Below.refl _ w).alloc (Nat.le_refl _) (.cells (four b v) 25)).alloc (by simp) (.cells (twelve r (.slice A r.g.stamp.length c) (.slice A2 r.stamp.length c2)) 32)).alloc (by simp; omega) (.cells z4 25))
  have HB := Lib.hid (hb.below HX.out)
  have HKB := Lib.hid (((Whole.new w 25 (four b v)).alloc (.cells (twelve r (.slice A r.g.stamp.length c) (.slice A2 r.stamp.length c2)) 32)).alloc (.cells z4 25))
  have HKR := Lib.hid (show Whole (((w.alloc (.cells (four b v) 25)).alloc (.cells (twelve r (.slice A r.g.stamp.length c) (.slice A2 r.stamp.length c2)) 32)).alloc (.cells z4 25)) (w.heap.size + 1) 32 (twelve r (.slice A r.g.stamp.length c) (.slice A2 r.stamp.length c2)) from by rw [hH]; exact (Whole.new _ _ _).alloc _)
  have HKZ := Lib.hid (show Whole (((w.alloc (.cells (four b v) 25)).alloc (.cells (twelve r (.slice A r.g.stamp.length c) (.slice A2 r.stamp.length c2)) 32)).alloc (.cells z4 25)) (w.heap.size + 1 + 1) 25 z4 from by rw [hH2]; exact Whole.new _ _ _)
  have HS := Lib.hid (show (((w.alloc (.cells (four b v) 25)).alloc (.cells (twelve r (.slice A r.g.stamp.length c) (.slice A2 r.stamp.length c2)) 32)).alloc (.cells z4 25)).heap.size = w.heap.size + 3 by simp)
  have HP := Lib.hid (BM.okBk_parts hok)
  have HFB := Lib.hid (show In64 b.next ∧ In64 b.boots ∧ In64 b.longest from ⟨hb.next, hb.boots, hb.longest⟩)
  have HFR := Lib.hid hr
  clear hb hr hH hH2
  unfold z4 at HX HB HKB HKR HKZ HS
  obtain ⟨e0, e1, e2, e3⟩ := four_cells HKB.out
  have jw : wrap64 (b.boots + 1) = b.boots + 1 := by have := HP.out.2.1; unfold wrap64; omega
  go_enter Try.func34, Try.ntmps34
  go_wp2_with fail
  generalize (((w.alloc (.cells (four b v) 25)).alloc (.cells (twelve r (.slice A r.g.stamp.length c) (.slice A2 r.stamp.length c2)) 32)).alloc (.cells #[.int .i64 0, .int .i64 0, .int .i64 0, .slice none 0 0] 25)) = wa at HX HB HKB HKR HKZ HS e0 e1 e2 e3 ⊢
  refine (b_copiedAll v b.gs wa HB.out.gs (by have := HP.out.2.2.2.1; omega)).mono ?_
  rintro e w1 ⟨B, ps, rfl, hm, ho, hb1⟩
  have HM := Lib.hid hm
  have HKB1 := Lib.hid ((Mod.of_below hb1 []).whole HKB.out (by simp))
  have HT := Lib.hid (head_end hm HS.out HX.out hb1 HKB.out HKR.out HKZ.out ho HFR.out HFB.out)
  clear hm ho hb1 e0 e1 e2 e3 HB HX HKB HKR HKZ HS
  have HKR1 := Lib.hid HT.out.1
  replace HT := Lib.hid HT.out.2
  obtain ⟨e0, e1, e2, e3⟩ := four_cells HKB1.out
  have f0 := HKB1.out.frozen 0
  have f1 := HKB1.out.frozen 1
  have f2 := HKB1.out.frozen 2
  have f3 := HKB1.out.frozen 3
  have c0 : w1.cell? ⟨w.heap.size + 1, 0, none⟩ = some (.int .i64 7) := by rw [← hk]; exact HKR1.out.1.cell 0
  have hk' := Lib.hid hk
  clear hk
  obtain ⟨_, c1, c2', c3, c4, c5, c6, c7, c8, c9, c10, c11⟩ := rec_cells HKR1.out.1
  obtain ⟨⟨z0, z1, z2, z3⟩, g0', g1, g2, g3⟩ := zero_cells HKR1.out.2
  go_wp2_with fail
  refine bodyPost_ret (v := .agg (four ({ b with boots := b.boots + 1 }) (.slice B b.gs.length b.gs.length))) (by simp [results, Try.results34, go_sem, z0, z1, z2, z3, four]) rfl ?_
  have hv : BM.behind b r = { b with boots := b.boots + 1 } := by unfold BM.behind; simp [hk'.out]
  rw [hv]
  exact (HT.out.store HFR.out (i := 1) (v := .int .i64 (b.boots + 1)) (b' := { b with boots := b.boots + 1 }) (L' := (.slice B b.gs.length b.gs.length)) rfl HT.out.own ⟨HFB.out.1, by have := HP.out.2.1; unfold In64; constructor <;> dsimp only <;> omega, HFB.out.2.2⟩).done HM.out
set_option maxHeartbeats 8000000 in
theorem b1 {A A2 : Option Addr} {c c2 : Nat} (v : Value) (b : Bk) (r : Rc) (w : World) (hb : FitB w v b) (hr : FitR w (.slice A r.g.stamp.length c) (.slice A2 r.stamp.length c2) r) (hok : BM.okBk b = true) (hk : r.kind = 1) :
    Calls Try.prog 34 #[.agg (four b v), .agg (twelve r (.slice A r.g.stamp.length c) (.slice A2 r.stamp.length c2))] w (BkPost w (BM.behind b r)) := by
  have hH : w.heap.size + 1 = (w.alloc (.cells (four b v) 25)).heap.size := by simp
  have hH2 : w.heap.size + 1 + 1 = ((w.alloc (.cells (four b v) 25)).alloc (.cells (twelve r (.slice A r.g.stamp.length c) (.slice A2 r.stamp.length c2)) 32)).heap.size := by simp
  have HX := Lib.hid ((((Below.refl _ w).alloc (Nat.le_refl _) (.cells (four b v) 25)).alloc (by simp) (.cells (twelve r (.slice A r.g.stamp.length c) (.slice A2 r.stamp.length c2)) 32)).alloc (by simp; omega) (.cells z4 25))
  have HB := Lib.hid (hb.below HX.out)
  have HKB := Lib.hid (((Whole.new w 25 (four b v)).alloc (.cells (twelve r (.slice A r.g.stamp.length c) (.slice A2 r.stamp.length c2)) 32)).alloc (.cells z4 25))
  have HKR := Lib.hid (show Whole (((w.alloc (.cells (four b v) 25)).alloc (.cells (twelve r (.slice A r.g.stamp.length c) (.slice A2 r.stamp.length c2)) 32)).alloc (.cells z4 25)) (w.heap.size + 1) 32 (twelve r (.slice A r.g.stamp.length c) (.slice A2 r.stamp.length c2)) from by rw [hH]; exact (Whole.new _ _ _).alloc _)
  have HKZ := Lib.hid (show Whole (((w.alloc (.cells (four b v) 25)).alloc (.cells (twelve r (.slice A r.g.stamp.length c) (.slice A2 r.stamp.length c2)) 32)).alloc (.cells z4 25)) (w.heap.size + 1 + 1) 25 z4 from by rw [hH2]; exact Whole.new _ _ _)
  have HS := Lib.hid (show (((w.alloc (.cells (four b v) 25)).alloc (.cells (twelve r (.slice A r.g.stamp.length c) (.slice A2 r.stamp.length c2)) 32)).alloc (.cells z4 25)).heap.size = w.heap.size + 3 by simp)
  have HP := Lib.hid (BM.okBk_parts hok)
  have HFB := Lib.hid (show In64 b.next ∧ In64 b.boots ∧ In64 b.longest from ⟨hb.next, hb.boots, hb.longest⟩)
  have HFR := Lib.hid hr
  clear hb hr hH hH2
  unfold z4 at HX HB HKB HKR HKZ HS
  obtain ⟨e0, e1, e2, e3⟩ := four_cells HKB.out
  go_enter Try.func34, Try.ntmps34
  go_wp2_with fail
  generalize (((w.alloc (.cells (four b v) 25)).alloc (.cells (twelve r (.slice A r.g.stamp.length c) (.slice A2 r.stamp.length c2)) 32)).alloc (.cells #[.int .i64 0, .int .i64 0, .int .i64 0, .slice none 0 0] 25)) = wa at HX HB HKB HKR HKZ HS e0 e1 e2 e3 ⊢
  refine (b_copiedAll v b.gs wa HB.out.gs (by have := HP.out.2.2.2.1; omega)).mono ?_
  rintro e w1 ⟨B, ps, rfl, hm, ho, hb1⟩
  have HM := Lib.hid hm
  have HKB1 := Lib.hid ((Mod.of_below hb1 []).whole HKB.out (by simp))
  have HT := Lib.hid (head_end hm HS.out HX.out hb1 HKB.out HKR.out HKZ.out ho HFR.out HFB.out)
  clear hm ho hb1 e0 e1 e2 e3 HB HX HKB HKR HKZ HS
  have HKR1 := Lib.hid HT.out.1
  replace HT := Lib.hid HT.out.2
  obtain ⟨e0, e1, e2, e3⟩ := four_cells HKB1.out
  have f0 := HKB1.out.frozen 0
  have f1 := HKB1.out.frozen 1
  have f2 := HKB1.out.frozen 2
  have f3 := HKB1.out.frozen 3
  have c0 : w1.cell? ⟨w.heap.size + 1, 0, none⟩ = some (.int .i64 1) := by rw [← hk]; exact HKR1.out.1.cell 0
  have hk' := Lib.hid hk
  clear hk
  obtain ⟨_, c1, c2', c3, c4, c5, c6, c7, c8, c9, c10, c11⟩ := rec_cells HKR1.out.1
  obtain ⟨⟨z0, z1, z2, z3⟩, g0', g1, g2, g3⟩ := zero_cells HKR1.out.2
  go_wp2_with fail
  go_region
  have HT1 : Hid (BhSt w ({ b with next := r.next, boots := r.boots }) (.slice B b.gs.length b.gs.length) r (.slice A r.g.stamp.length c) (.slice A2 r.stamp.length c2) ps ((((w1.setCell { block := w.heap.size, off := 3 } (Value.slice B b.gs.length b.gs.length)).setCell { block := w.heap.size, off := 0 } (Value.int IntKind.i64 r.next)).setCell { block := w.heap.size, off := 1 } (Value.int IntKind.i64 r.boots)).drew)) := Lib.hid ((HT.out.store HFR.out (i := 0) (v := .int .i64 r.next) (b' := { b with next := r.next }) (L' := (.slice B b.gs.length b.gs.length)) rfl HT.out.own ⟨HFR.out.next, HFB.out.2.1, HFB.out.2.2⟩).store HFR.out (i := 1) (v := .int .i64 r.boots) (b' := { b with next := r.next, boots := r.boots }) (L' := (.slice B b.gs.length b.gs.length)) rfl (HT.out.own.mod ((Mod.refl [w.heap.size] _).store (p := ⟨w.heap.size, 0, none⟩) (.inl (by simp)) _) (by simp)) ⟨HFR.out.next, HFR.out.boots, HFB.out.2.2⟩).drew
  clear HT HKB1 HKR1
  clear e0 e1 e2 e3 f0 f1 f2 f3 c0 c1 c2' c3 c4 c5 c6 c7 c8 c9 c10 c11 z0 z1 z2 z3 g0' g1 g2 g3
  generalize (((w1.setCell { block := w.heap.size, off := 3 } (Value.slice B b.gs.length b.gs.length)).setCell { block := w.heap.size, off := 0 } (Value.int IntKind.i64 r.next)).setCell { block := w.heap.size, off := 1 } (Value.int IntKind.i64 r.boots)).drew = w2 at HT1 ⊢
  have HT := HT1
  clear HT1
  obtain ⟨e0, e1, e2, e3⟩ := four_cells HT.out.kb
  have f0 := HT.out.kb.frozen 0
  have f1 := HT.out.kb.frozen 1
  have f2 := HT.out.kb.frozen 2
  have f3 := HT.out.kb.frozen 3
  obtain ⟨c0, c1, c2', c3, c4, c5, c6, c7, c8, c9, c10, c11⟩ := rec_cells HT.out.kr
  obtain ⟨⟨z0, z1, z2, z3⟩, g0', g1, g2, g3⟩ := zero_cells HT.out.kz
  go_wp2_with fail
  refine bodyPost_ret (v := .agg (four ({ b with next := r.next, boots := r.boots }) (.slice B b.gs.length b.gs.length))) (by simp [results, Try.results34, go_sem, z0, z1, z2, z3, four]) rfl ?_
  have hv : BM.behind b r = { b with next := r.next, boots := r.boots } := by unfold BM.behind; simp [hk'.out]
  rw [hv]
  exact HT.out.done HM.out
end Go.Proofs.Ytdegamlnkleddaa
