/- Why a record is not applied: the package's refusal. -/
import Derived.Test.YtdegamlnkleddaaBkW17
namespace Go.Proofs.Ytdegamlnkleddaa
open Go.RowKit
open BM (Gr Rc Bk g0 r0 b0)
set_option linter.unusedVariables false
set_option linter.unusedSimpArgs false
set_option maxRecDepth 100000
theorem four_cells {w : World} {g : Nat} {b : Bk} {v : Value} (h : Whole w g 25 (four b v)) : w.cell? ⟨g, 0, none⟩ = some (.int .i64 b.next) ∧ w.cell? ⟨g, 1, none⟩ = some (.int .i64 b.boots) ∧ w.cell? ⟨g, 2, none⟩ = some (.int .i64 b.longest) ∧ w.cell? ⟨g, 3, none⟩ = some v :=
  ⟨h.cell 0, h.cell 1, h.cell 2, h.cell 3⟩
theorem rec_cells {w : World} {g : Nat} {m : Rc} {sv tv : Value} (h : Whole w g 32 (twelve m sv tv)) : w.cell? ⟨g, 0, none⟩ = some (.int .i64 m.kind) ∧ w.cell? ⟨g, 1, none⟩ = some (.int .i64 m.g.id) ∧ w.cell? ⟨g, 2, none⟩ = some (.int .i64 m.g.holder) ∧ w.cell? ⟨g, 3, none⟩ = some (.string m.g.path) ∧ w.cell? ⟨g, 4, none⟩ = some (.int .i64 m.g.mode) ∧ w.cell? ⟨g, 5, none⟩ = some sv ∧ w.cell? ⟨g, 6, none⟩ = some (.int .i64 m.g.term) ∧
    w.cell? ⟨g, 7, none⟩ = some (.int .i64 m.id) ∧ w.cell? ⟨g, 8, none⟩ = some tv ∧ w.cell? ⟨g, 9, none⟩ = some (.int .i64 m.next) ∧ w.cell? ⟨g, 10, none⟩ = some (.int .i64 m.boots) ∧ w.cell? ⟨g, 11, none⟩ = some (.int .i64 m.longest) :=
  ⟨h.cell 0, h.cell 1, h.cell 2, h.cell 3, h.cell 4, h.cell 5, h.cell 6, h.cell 7, h.cell 8, h.cell 9, h.cell 10, h.cell 11⟩
theorem ints {a b : Int} {w w' : World} (h : a = b) (hb : Below w.heap.size w w') : Ending.returned (.int .i64 a) = .returned (.int .i64 b) ∧ Below w.heap.size w w' := ⟨ret_int h, hb⟩
set_option maxHeartbeats 4000000 in
theorem b_refusal (v s u : Value) (b : Bk) (r : Rc) (w : World) (hb : FitB w v b) (hr : FitR w s u r) (hok : BM.okBk b = true) (hmu : BM.mayUse r = true) :
    Calls Try.prog 33 #[.agg (four b v), .agg (twelve r s u)] w fun e w' => e = .returned (.int .i64 (BM.refusal b r)) ∧ Below w.heap.size w w' := by
  have HX := Lib.hid (((Below.refl _ w).alloc (Nat.le_refl _) (.cells (four b v) 25)).alloc (by simp) (.cells (twelve r s u) 32))
  have HB := Lib.hid (hb.below HX.out)
  have HR := Lib.hid (hr.below HX.out)
  have HKB := Lib.hid ((Whole.new w 25 (four b v)).alloc (.cells (twelve r s u) 32))
  have HKR := Lib.hid (show Whole ((w.alloc (.cells (four b v) 25)).alloc (.cells (twelve r s u) 32)) (w.heap.size + 1) 32 (twelve r s u) from by have h := Whole.new (w.alloc (.cells (four b v) 25)) 32 (twelve r s u); have e : (w.alloc (.cells (four b v) 25)).heap.size = w.heap.size + 1 := (by simp); rw [e] at h; exact h)
  have HE := Lib.hid (show BM.refusal b r = if BM.spent b r.kind then 66 else if BM.full b r.kind then 51 else if BM.fits b r then 0 else 43 from rfl)
  clear hb hr
  obtain ⟨b0', b1, b2, b3⟩ := four_cells HKB.out
  obtain ⟨c0, c1, c2, c3, c4, c5, c6, c7, c8, c9, c10, c11⟩ := rec_cells HKR.out
  go_enter Try.func33, Try.ntmps33
  go_wp2_with fail
  refine (b_isSpent v b r.kind _).mono ?_
  rintro e w1 ⟨rfl, hb1⟩
  have HX1 := Lib.hid (below_on HX.out hb1)
  have HB1 := Lib.hid (HB.out.below hb1)
  have HR1 := Lib.hid (HR.out.below hb1)
  have HKB1 := Lib.hid ((Mod.of_below hb1 []).whole HKB.out (by simp))
  have HKR1 := Lib.hid ((Mod.of_below hb1 []).whole HKR.out (by simp))
  clear hb1 b0' b1 b2 b3 c0 c1 c2 c3 c4 c5 c6 c7 c8 c9 c10 c11
  obtain ⟨b0', b1, b2, b3⟩ := four_cells HKB1.out
  obtain ⟨c0, c1, c2, c3, c4, c5, c6, c7, c8, c9, c10, c11⟩ := rec_cells HKR1.out
  cases h1 : BM.spent b r.kind with
  | true =>
    rw [h1] at HE
    clear h1
    go_wp2_with fail
    go_ret
    exact ints (by rw [HE.out]; rfl) HX1.out
  | false =>
    rw [h1] at HE
    clear h1
    go_wp2_with fail
    refine (b_isFull v b r.kind _ HB1.out.gs).mono ?_
    rintro e w2 ⟨rfl, hb2⟩
    have HX2 := Lib.hid (below_on HX1.out hb2)
    have HB2 := Lib.hid (HB1.out.below hb2)
    have HR2 := Lib.hid (HR1.out.below hb2)
    have HKB2 := Lib.hid ((Mod.of_below hb2 []).whole HKB1.out (by simp))
    have HKR2 := Lib.hid ((Mod.of_below hb2 []).whole HKR1.out (by simp))
    clear hb2 b0' b1 b2 b3 c0 c1 c2 c3 c4 c5 c6 c7 c8 c9 c10 c11
    obtain ⟨b0', b1, b2, b3⟩ := four_cells HKB2.out
    obtain ⟨c0, c1, c2, c3, c4, c5, c6, c7, c8, c9, c10, c11⟩ := rec_cells HKR2.out
    cases h2 : BM.full b r.kind with
    | true =>
      rw [h2] at HE
      clear h2
      go_wp2_with fail
      go_ret
      exact ints (by rw [HE.out]; rfl) HX2.out
    | false =>
      rw [h2] at HE
      clear h2
      go_wp2_with fail
      refine (b_fits v s u b r _ HB2.out HR2.out hok hmu).mono ?_
      rintro e w3 ⟨rfl, hb3⟩
      have HX3 := Lib.hid (below_on HX2.out hb3)
      clear hb3 b0' b1 b2 b3 c0 c1 c2 c3 c4 c5 c6 c7 c8 c9 c10 c11
      cases h3 : BM.fits b r with
      | true =>
        rw [h3] at HE
        clear h3
        go_wp2_with fail
        go_ret
        exact ints (by rw [HE.out]; rfl) HX3.out
      | false =>
        rw [h3] at HE
        clear h3
        go_wp2_with fail
        go_ret
        exact ints (by rw [HE.out]; rfl) HX3.out
end Go.Proofs.Ytdegamlnkleddaa
