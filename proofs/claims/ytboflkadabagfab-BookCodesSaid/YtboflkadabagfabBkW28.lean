/- What a record leaves, and Apply: the package's calls. -/
import Derived.Test.YtboflkadabagfabBkWX
import Derived.Test.YtboflkadabagfabBkWY
import Derived.Test.YtboflkadabagfabBkW11
namespace Go.Proofs.Ytboflkadabagfab
open Go.RowKit
open BM (Gr Rc Bk g0 r0 b0)
set_option linter.unusedVariables false
set_option linter.unusedSimpArgs false
set_option maxRecDepth 100000
theorem b_behind (v s u : Value) (b : Bk) (r : Rc) (w : World) (hb : FitB w v b) (hr : FitR w s u r) (hok : BM.okBk b = true) (hmu : BM.mayUse r = true) (hfit : BM.fits b r = true) :
    Calls Try.prog 31 #[.agg (four b v), .agg (twelve r s u)] w (BkPost w (BM.behind b r)) := by
  obtain ⟨A, c, hv, _⟩ := hr.g.hd
  obtain ⟨B, d, hu, _⟩ := hr.st
  subst hv hu
  rcases BM.may_kind hmu with hk | hk | hk | hk | hk | hk | hk
  · exact b1 v b r w hb hr hok hk
  · exact b2 v b r w hb hr hok hk
  · exact b3 v b r w hb hr hok hk
  · exact b4 v b r w hb hr hok hk
  · exact b5 v b r w hb hr hok hk (by unfold BM.fits at hfit; simp [hk] at hfit; exact hfit.1)
  · exact b6 v b r w hb hr hok hk (by unfold BM.fits at hfit; simp [hk] at hfit; exact hfit)
  · exact b7 v b r w hb hr hok hk
/-- What Apply answers: a book of the call's own, and the error. -/
def AppPost (w : World) (b : Bk) (r : Rc) (e : Ending) (w' : World) : Prop := ∃ v ps, e = .returned (.tuple #[.agg (four (BM.apply b r).1 v), .int .i64 (BM.apply b r).2]) ∧ ps.map Prod.fst = (BM.apply b r).1.gs ∧ OwnG w' w.heap.size v ps ∧ Below w.heap.size w w'
/-- The three boxes of a call that has a book, a record and a book to answer. -/
structure ApSt (w0 : World) (b : Bk) (r : Rc) (v s u : Value) (w : World) : Prop where
  kb : Whole w w0.heap.size 45 (four b v)
  kr : Whole w (w0.heap.size + 1) 28 (twelve r s u)
  kz : Whole w (w0.heap.size + 1 + 1) 45 z4
  fb : FitB w v b
  fr : FitR w s u r
  size : w0.heap.size + 3 ≤ w.heap.size
  below : Below w0.heap.size w0 w
section
variable {w0 w w' : World} {b : Bk} {v s u : Value} {r : Rc}
theorem ApSt.on (h : ApSt w0 b r v s u w) (hb : Below w.heap.size w w') : ApSt w0 b r v s u w' :=
  ⟨(Mod.of_below hb []).whole h.kb (by simp), (Mod.of_below hb []).whole h.kr (by simp), (Mod.of_below hb []).whole h.kz (by simp), h.fb.below hb, h.fr.below hb, Nat.le_trans h.size hb.size, below_on h.below hb⟩
theorem ApSt.drew (h : ApSt w0 b r v s u w) : ApSt w0 b r v s u w.drew := h.on (Below.refl _ _).drew
theorem ApSt.start (w : World) (hb : FitB w v b) (hr : FitR w s u r) : ApSt w b r v s u (((w.alloc (.cells (four b v) 45)).alloc (.cells (twelve r s u) 28)).alloc (.cells z4 45)) := by
  have hH : w.heap.size + 1 = (w.alloc (.cells (four b v) 45)).heap.size := by simp
  have hH2 : w.heap.size + 1 + 1 = ((w.alloc (.cells (four b v) 45)).alloc (.cells (twelve r s u) 28)).heap.size := by simp
  have hX := (((Below.refl _ w).alloc (Nat.le_refl _) (.cells (four b v) 45)).alloc (by simp) (.cells (twelve r s u) 28)).alloc (by simp; omega) (.cells z4 45)
  exact ⟨((Whole.new w 45 (four b v)).alloc _).alloc _, by rw [hH]; exact (Whole.new _ _ _).alloc _, by rw [hH2]; exact Whole.new _ _ _, hb.below hX, hr.below hX, by simp, hX⟩
/-- The answer's box is written. -/
theorem ApSt.done (h : ApSt w0 b r v s u w) {x0 x1 x2 x3 : Value} {F : Prop} {v' : Value} {ps : List (Gr × Value)} (ho : OwnG w (w0.heap.size + 3) v' ps) : OwnG ((((w.setCell ⟨w0.heap.size + 1 + 1, 0, none⟩ x0).setCell ⟨w0.heap.size + 1 + 1, 1, none⟩ x1).setCell ⟨w0.heap.size + 1 + 1, 2, none⟩ x2).setCell ⟨w0.heap.size + 1 + 1, 3, none⟩ x3) w0.heap.size v' ps ∧
    Below w0.heap.size w0 ((((w.setCell ⟨w0.heap.size + 1 + 1, 0, none⟩ x0).setCell ⟨w0.heap.size + 1 + 1, 1, none⟩ x1).setCell ⟨w0.heap.size + 1 + 1, 2, none⟩ x2).setCell ⟨w0.heap.size + 1 + 1, 3, none⟩ x3) := by
  have hM : Mod [w0.heap.size + 1 + 1] w ((((w.setCell ⟨w0.heap.size + 1 + 1, 0, none⟩ x0).setCell ⟨w0.heap.size + 1 + 1, 1, none⟩ x1).setCell ⟨w0.heap.size + 1 + 1, 2, none⟩ x2).setCell ⟨w0.heap.size + 1 + 1, 3, none⟩ x3) :=
    ((((Mod.refl _ w).store (p := ⟨w0.heap.size + 1 + 1, 0, none⟩) (.inl (by simp)) _).store (p := ⟨w0.heap.size + 1 + 1, 1, none⟩) (.inl (by simp)) _).store (p := ⟨w0.heap.size + 1 + 1, 2, none⟩) (.inl (by simp)) _).store (p := ⟨w0.heap.size + 1 + 1, 3, none⟩) (.inl (by simp)) _
  exact ⟨(ho.mod hM (by simp)).low (by omega), h.below.trans (hM.below (by have := h.size; omega) (by intro x hx; simp at hx; omega))⟩
end
set_option maxHeartbeats 8000000 in
theorem ap_bk (v s u : Value) (b : Bk) (r : Rc) (w : World) (hb : FitB w v b) (hr : FitR w s u r) (hok : BM.okBk b = false) :
    Calls Try.prog 11 #[.agg (four b v), .agg (twelve r s u)] w (AppPost w b r) := by
  have HT := Lib.hid (ApSt.start w hb hr)
  clear hb hr
  unfold z4 at HT
  have HOK := Lib.hid hok
  have HE := Lib.hid (show BM.apply b r = (b0, 43) by unfold BM.apply BM.fault; simp [hok])
  clear hok
  obtain ⟨e0, e1, e2, e3⟩ := four_cells HT.out.kb
  obtain ⟨c0, c1, c2', c3, c4, c5, c6, c7, c8, c9, c10, c11⟩ := rec_cells HT.out.kr
  obtain ⟨⟨z0, z1, z2, z3⟩, g0', g1, g2, g3⟩ := zero_cells HT.out.kz
  go_enter Try.func11, Try.ntmps11
  go_wp2_with fail
  generalize (((w.alloc (.cells (four b v) 45)).alloc (.cells (twelve r s u) 28)).alloc (.cells #[.int .i64 0, .int .i64 0, .int .i64 0, .slice none 0 0] 45)) = wa at *
  refine (b_Valid v b _ HT.out.fb).mono ?_
  rintro e w5 ⟨rfl, hb5⟩
  have HT5 := Lib.hid (HT.out.on hb5)
  clear hb5 HT
  clear e0 e1 e2 e3 c0 c1 c2' c3 c4 c5 c6 c7 c8 c9 c10 c11 z0 z1 z2 z3 g0' g1 g2 g3
  obtain ⟨e0, e1, e2, e3⟩ := four_cells HT5.out.kb
  obtain ⟨c0, c1, c2', c3, c4, c5, c6, c7, c8, c9, c10, c11⟩ := rec_cells HT5.out.kr
  obtain ⟨⟨z0, z1, z2, z3⟩, g0', g1, g2, g3⟩ := zero_cells HT5.out.kz
  rw [HOK.out]
  go_wp2_with fail
  have HT := HT5
  refine bodyPost_ret (v := .tuple #[.agg z4, .int .i64 (43)]) (by simp [results, Try.results11, go_sem, z0, z1, z2, z3, z4]) rfl ?_
  unfold AppPost
  rw [HE.out]
  have hd := HT.out.done (x0 := .int .i64 0) (x1 := .int .i64 0) (x2 := .int .i64 0) (x3 := .slice none 0 0) (F := True) (v' := .slice none 0 0) (ps := []) OwnG.nil
  exact ⟨.slice none 0 0, [], rfl, rfl, hd.1, hd.2⟩
set_option maxHeartbeats 8000000 in
theorem ap_rc (v s u : Value) (b : Bk) (r : Rc) (w : World) (hb : FitB w v b) (hr : FitR w s u r) (hok : BM.okBk b = true) (hor : BM.okRc r = false) :
    Calls Try.prog 11 #[.agg (four b v), .agg (twelve r s u)] w (AppPost w b r) := by
  have HT := Lib.hid (ApSt.start w hb hr)
  clear hb hr
  unfold z4 at HT
  have HOK := Lib.hid hok
  have HOR := Lib.hid hor
  have HE := Lib.hid (show BM.apply b r = (b0, 43) by unfold BM.apply BM.fault; simp [hok, hor])
  clear hok hor
  obtain ⟨e0, e1, e2, e3⟩ := four_cells HT.out.kb
  obtain ⟨c0, c1, c2', c3, c4, c5, c6, c7, c8, c9, c10, c11⟩ := rec_cells HT.out.kr
  obtain ⟨⟨z0, z1, z2, z3⟩, g0', g1, g2, g3⟩ := zero_cells HT.out.kz
  go_enter Try.func11, Try.ntmps11
  go_wp2_with fail
  generalize (((w.alloc (.cells (four b v) 45)).alloc (.cells (twelve r s u) 28)).alloc (.cells #[.int .i64 0, .int .i64 0, .int .i64 0, .slice none 0 0] 45)) = wa at *
  refine (b_Valid v b _ HT.out.fb).mono ?_
  rintro e w5 ⟨rfl, hb5⟩
  have HT5 := Lib.hid (HT.out.on hb5)
  clear hb5 HT
  clear e0 e1 e2 e3 c0 c1 c2' c3 c4 c5 c6 c7 c8 c9 c10 c11 z0 z1 z2 z3 g0' g1 g2 g3
  obtain ⟨e0, e1, e2, e3⟩ := four_cells HT5.out.kb
  obtain ⟨c0, c1, c2', c3, c4, c5, c6, c7, c8, c9, c10, c11⟩ := rec_cells HT5.out.kr
  obtain ⟨⟨z0, z1, z2, z3⟩, g0', g1, g2, g3⟩ := zero_cells HT5.out.kz
  rw [HOK.out]
  go_wp2_with fail
  refine (b_mayRecord s u r _ HT5.out.fr).mono ?_
  rintro e w6 ⟨rfl, hb6⟩
  have HT6 := Lib.hid (HT5.out.on hb6)
  clear hb6 HT5
  clear e0 e1 e2 e3 c0 c1 c2' c3 c4 c5 c6 c7 c8 c9 c10 c11 z0 z1 z2 z3 g0' g1 g2 g3
  obtain ⟨e0, e1, e2, e3⟩ := four_cells HT6.out.kb
  obtain ⟨c0, c1, c2', c3, c4, c5, c6, c7, c8, c9, c10, c11⟩ := rec_cells HT6.out.kr
  obtain ⟨⟨z0, z1, z2, z3⟩, g0', g1, g2, g3⟩ := zero_cells HT6.out.kz
  rw [HOR.out]
  go_wp2_with fail
  have HT := HT6
  refine bodyPost_ret (v := .tuple #[.agg z4, .int .i64 (43)]) (by simp [results, Try.results11, go_sem, z0, z1, z2, z3, z4]) rfl ?_
  unfold AppPost
  rw [HE.out]
  have hd := HT.out.done (x0 := .int .i64 0) (x1 := .int .i64 0) (x2 := .int .i64 0) (x3 := .slice none 0 0) (F := True) (v' := .slice none 0 0) (ps := []) OwnG.nil
  exact ⟨.slice none 0 0, [], rfl, rfl, hd.1, hd.2⟩
set_option maxHeartbeats 8000000 in
theorem ap_no (v s u : Value) (b : Bk) (r : Rc) (w : World) (hb : FitB w v b) (hr : FitR w s u r) (hok : BM.okBk b = true) (hor : BM.okRc r = true) (hrf : BM.refusal b r ≠ 0) :
    Calls Try.prog 11 #[.agg (four b v), .agg (twelve r s u)] w (AppPost w b r) := by
  have HT := Lib.hid (ApSt.start w hb hr)
  clear hb hr
  unfold z4 at HT
  have HOK := Lib.hid hok
  have HOR := Lib.hid hor
  have HE := Lib.hid (show BM.apply b r = (b0, BM.refusal b r) by unfold BM.apply BM.fault; simp [hok, hor, hrf])
  have HN := Lib.hid hrf
  clear hok hor hrf
  obtain ⟨e0, e1, e2, e3⟩ := four_cells HT.out.kb
  obtain ⟨c0, c1, c2', c3, c4, c5, c6, c7, c8, c9, c10, c11⟩ := rec_cells HT.out.kr
  obtain ⟨⟨z0, z1, z2, z3⟩, g0', g1, g2, g3⟩ := zero_cells HT.out.kz
  go_enter Try.func11, Try.ntmps11
  go_wp2_with fail
  generalize (((w.alloc (.cells (four b v) 45)).alloc (.cells (twelve r s u) 28)).alloc (.cells #[.int .i64 0, .int .i64 0, .int .i64 0, .slice none 0 0] 45)) = wa at *
  refine (b_Valid v b _ HT.out.fb).mono ?_
  rintro e w5 ⟨rfl, hb5⟩
  have HT5 := Lib.hid (HT.out.on hb5)
  clear hb5 HT
  clear e0 e1 e2 e3 c0 c1 c2' c3 c4 c5 c6 c7 c8 c9 c10 c11 z0 z1 z2 z3 g0' g1 g2 g3
  obtain ⟨e0, e1, e2, e3⟩ := four_cells HT5.out.kb
  obtain ⟨c0, c1, c2', c3, c4, c5, c6, c7, c8, c9, c10, c11⟩ := rec_cells HT5.out.kr
  obtain ⟨⟨z0, z1, z2, z3⟩, g0', g1, g2, g3⟩ := zero_cells HT5.out.kz
  rw [HOK.out]
  go_wp2_with fail
  refine (b_mayRecord s u r _ HT5.out.fr).mono ?_
  rintro e w6 ⟨rfl, hb6⟩
  have HT6 := Lib.hid (HT5.out.on hb6)
  clear hb6 HT5
  clear e0 e1 e2 e3 c0 c1 c2' c3 c4 c5 c6 c7 c8 c9 c10 c11 z0 z1 z2 z3 g0' g1 g2 g3
  obtain ⟨e0, e1, e2, e3⟩ := four_cells HT6.out.kb
  obtain ⟨c0, c1, c2', c3, c4, c5, c6, c7, c8, c9, c10, c11⟩ := rec_cells HT6.out.kr
  obtain ⟨⟨z0, z1, z2, z3⟩, g0', g1, g2, g3⟩ := zero_cells HT6.out.kz
  rw [HOR.out]
  go_wp2_with fail
  refine (b_refusal v s u b r w6 HT6.out.fb HT6.out.fr HOK.out (BM.ok_may HOR.out).1).mono ?_
  rintro e w7 ⟨rfl, hb7⟩
  have HT := Lib.hid (HT6.out.on hb7)
  clear hb7 HT6
  clear e0 e1 e2 e3 c0 c1 c2' c3 c4 c5 c6 c7 c8 c9 c10 c11 z0 z1 z2 z3 g0' g1 g2 g3
  obtain ⟨e0, e1, e2, e3⟩ := four_cells HT.out.kb
  obtain ⟨c0, c1, c2', c3, c4, c5, c6, c7, c8, c9, c10, c11⟩ := rec_cells HT.out.kr
  obtain ⟨⟨z0, z1, z2, z3⟩, g0', g1, g2, g3⟩ := zero_cells HT.out.kz
  generalize BM.refusal b r = rf at HE HN ⊢
  have hn := HN.out
  go_wp2_with fail
  refine bodyPost_ret (v := .tuple #[.agg z4, .int .i64 (rf)]) (by simp [results, Try.results11, go_sem, z0, z1, z2, z3, z4]) rfl ?_
  unfold AppPost
  rw [HE.out]
  have hd := HT.out.done (x0 := .int .i64 0) (x1 := .int .i64 0) (x2 := .int .i64 0) (x3 := .slice none 0 0) (F := True) (v' := .slice none 0 0) (ps := []) OwnG.nil
  exact ⟨.slice none 0 0, [], rfl, rfl, hd.1, hd.2⟩
set_option maxHeartbeats 8000000 in
theorem ap_yes (v s u : Value) (b : Bk) (r : Rc) (w : World) (hb : FitB w v b) (hr : FitR w s u r) (hok : BM.okBk b = true) (hor : BM.okRc r = true) (hrf : BM.refusal b r = 0) :
    Calls Try.prog 11 #[.agg (four b v), .agg (twelve r s u)] w (AppPost w b r) := by
  have HT := Lib.hid (ApSt.start w hb hr)
  clear hb hr
  unfold z4 at HT
  have HOK := Lib.hid hok
  have HOR := Lib.hid hor
  have HE := Lib.hid (show BM.apply b r = (BM.behind b r, 0) by unfold BM.apply BM.fault; simp [hok, hor, hrf])
  have HFI := Lib.hid (show BM.fits b r = true from by cases hx : BM.fits b r with | true => rfl | false => exact absurd hrf (by unfold BM.refusal; rw [hx]; split <;> (try split) <;> simp))
  have HN := Lib.hid hrf
  clear hok hor hrf
  obtain ⟨e0, e1, e2, e3⟩ := four_cells HT.out.kb
  obtain ⟨c0, c1, c2', c3, c4, c5, c6, c7, c8, c9, c10, c11⟩ := rec_cells HT.out.kr
  obtain ⟨⟨z0, z1, z2, z3⟩, g0', g1, g2, g3⟩ := zero_cells HT.out.kz
  go_enter Try.func11, Try.ntmps11
  go_wp2_with fail
  generalize (((w.alloc (.cells (four b v) 45)).alloc (.cells (twelve r s u) 28)).alloc (.cells #[.int .i64 0, .int .i64 0, .int .i64 0, .slice none 0 0] 45)) = wa at *
  refine (b_Valid v b _ HT.out.fb).mono ?_
  rintro e w5 ⟨rfl, hb5⟩
  have HT5 := Lib.hid (HT.out.on hb5)
  clear hb5 HT
  clear e0 e1 e2 e3 c0 c1 c2' c3 c4 c5 c6 c7 c8 c9 c10 c11 z0 z1 z2 z3 g0' g1 g2 g3
  obtain ⟨e0, e1, e2, e3⟩ := four_cells HT5.out.kb
  obtain ⟨c0, c1, c2', c3, c4, c5, c6, c7, c8, c9, c10, c11⟩ := rec_cells HT5.out.kr
  obtain ⟨⟨z0, z1, z2, z3⟩, g0', g1, g2, g3⟩ := zero_cells HT5.out.kz
  rw [HOK.out]
  go_wp2_with fail
  refine (b_mayRecord s u r _ HT5.out.fr).mono ?_
  rintro e w6 ⟨rfl, hb6⟩
  have HT6 := Lib.hid (HT5.out.on hb6)
  clear hb6 HT5
  clear e0 e1 e2 e3 c0 c1 c2' c3 c4 c5 c6 c7 c8 c9 c10 c11 z0 z1 z2 z3 g0' g1 g2 g3
  obtain ⟨e0, e1, e2, e3⟩ := four_cells HT6.out.kb
  obtain ⟨c0, c1, c2', c3, c4, c5, c6, c7, c8, c9, c10, c11⟩ := rec_cells HT6.out.kr
  obtain ⟨⟨z0, z1, z2, z3⟩, g0', g1, g2, g3⟩ := zero_cells HT6.out.kz
  rw [HOR.out]
  go_wp2_with fail
  refine (b_refusal v s u b r w6 HT6.out.fb HT6.out.fr HOK.out (BM.ok_may HOR.out).1).mono ?_
  rintro e w7 ⟨rfl, hb7⟩
  have HT := Lib.hid (HT6.out.on hb7)
  clear hb7 HT6
  clear e0 e1 e2 e3 c0 c1 c2' c3 c4 c5 c6 c7 c8 c9 c10 c11 z0 z1 z2 z3 g0' g1 g2 g3
  obtain ⟨e0, e1, e2, e3⟩ := four_cells HT.out.kb
  obtain ⟨c0, c1, c2', c3, c4, c5, c6, c7, c8, c9, c10, c11⟩ := rec_cells HT.out.kr
  obtain ⟨⟨z0, z1, z2, z3⟩, g0', g1, g2, g3⟩ := zero_cells HT.out.kz
  rw [HN.out]
  go_wp2_with fail
  refine (b_behind v s u b r w7 HT.out.fb HT.out.fr HOK.out (BM.ok_may HOR.out).1 HFI.out).mono ?_
  rintro e w8 ⟨bv, ps, rfl, hm, ho, hb8⟩
  have HM := Lib.hid hm
  have HT8 := Lib.hid (HT.out.on hb8)
  have HO := Lib.hid (ho.low (show w.heap.size + 3 ≤ _ from HT.out.size))
  obtain ⟨A9, n9, hv9, _, _⟩ := own_shape ho.row
  subst hv9
  clear hm ho hb8 HT
  clear e0 e1 e2 e3 c0 c1 c2' c3 c4 c5 c6 c7 c8 c9 c10 c11 z0 z1 z2 z3 g0' g1 g2 g3
  obtain ⟨e0, e1, e2, e3⟩ := four_cells HT8.out.kb
  obtain ⟨c0, c1, c2', c3, c4, c5, c6, c7, c8, c9, c10, c11⟩ := rec_cells HT8.out.kr
  obtain ⟨⟨z0, z1, z2, z3⟩, g0', g1, g2, g3⟩ := zero_cells HT8.out.kz
  unfold four
  go_wp2_with fail
  refine bodyPost_ret (v := .tuple #[.agg (four (BM.behind b r) (.slice A9 ps.length n9)), .int .i64 0]) (by simp [results, Try.results11, go_sem, z0, z1, z2, z3, four]) rfl ?_
  unfold AppPost
  rw [HE.out]
  have hd := HT8.out.done (x0 := .int .i64 (BM.behind b r).next) (x1 := .int .i64 (BM.behind b r).boots) (x2 := .int .i64 (BM.behind b r).longest) (x3 := .slice A9 ps.length n9) (F := True) HO.out
  exact ⟨_, ps, rfl, HM.out, hd.1, hd.2⟩
theorem b_Apply (v s u : Value) (b : Bk) (r : Rc) (w : World) (hb : FitB w v b) (hr : FitR w s u r) :
    Calls Try.prog 11 #[.agg (four b v), .agg (twelve r s u)] w (AppPost w b r) := by
  cases hok : BM.okBk b with
  | false => exact ap_bk v s u b r w hb hr hok
  | true =>
    cases hor : BM.okRc r with
    | false => exact ap_rc v s u b r w hb hr hok hor
    | true =>
      by_cases hrf : BM.refusal b r = 0
      · exact ap_yes v s u b r w hb hr hok hor hrf
      · exact ap_no v s u b r w hb hr hok hor hrf
end Go.Proofs.Ytboflkadabagfab
