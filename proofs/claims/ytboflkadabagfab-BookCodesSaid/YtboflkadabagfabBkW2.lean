/- May a grant be? The package's question, and the document's. -/
import Derived.Test.YtboflkadabagfabBkW1
namespace Go.Proofs.Ytboflkadabagfab
open Go.RowKit
open BM (Gr Rc Bk g0 r0 b0)
set_option linter.unusedVariables false
set_option linter.unusedSimpArgs false
set_option maxRecDepth 100000
theorem cs6BkW2 {w : World} {g : Nat} {t : TypeId} {a0 a1 a2 a3 a4 a5 : Value} (h : Whole w g t #[a0, a1, a2, a3, a4, a5]) : w.cell? ⟨g, 0, none⟩ = some a0 ∧ w.cell? ⟨g, 1, none⟩ = some a1 ∧ w.cell? ⟨g, 2, none⟩ = some a2 ∧ w.cell? ⟨g, 3, none⟩ = some a3 ∧ w.cell? ⟨g, 4, none⟩ = some a4 ∧ w.cell? ⟨g, 5, none⟩ = some a5 :=
  ⟨h.cell 0, h.cell 1, h.cell 2, h.cell 3, h.cell 4, h.cell 5⟩
theorem gcs2 {w : World} {g : Nat} {x : Gr} {V : Value} (h : Whole w g 26 (six x V)) : w.cell? ⟨g, 0, none⟩ = some (.int .i64 x.id) ∧ w.cell? ⟨g, 1, none⟩ = some (.int .i64 x.holder) ∧ w.cell? ⟨g, 2, none⟩ = some (.string x.path) ∧ w.cell? ⟨g, 3, none⟩ = some (.int .i64 x.mode) ∧ w.cell? ⟨g, 4, none⟩ = some V ∧ w.cell? ⟨g, 5, none⟩ = some (.int .i64 x.term) :=
  ⟨h.cell 0, h.cell 1, h.cell 2, h.cell 3, h.cell 4, h.cell 5⟩
theorem r_Mode (m : Int) (w : World) : Calls Try.prog 78 #[.int .i64 m] w fun e w' => e = .returned (.bool (WM.okMode m)) ∧ w = w' := Mode_any m w
set_option maxHeartbeats 4000000 in
theorem b_mayGrant (u : Value) (g : Gr) (w : World) (h : FitG w u g) :
    Calls Try.prog 69 #[.agg (six g u)] w fun e w' => e = .returned (.bool (BM.okGr g)) ∧ Below w.heap.size w w' := by
  have HX := Lib.hid ((Below.refl _ w).alloc (Nat.le_refl _) (.cells (six g u) 26))
  have HA := Lib.hid (fun w' (hb : Below w.heap.size w w') => h.hd.below hb)
  have HW := Lib.hid h.wide
  have HK := Lib.hid (Whole.new w 26 (six g u))
  clear h
  by_cases e0 : SM.count g.id = true
  rotate_left
  ·
    have HF := Lib.hid (show BM.okGr g = false from by
      unfold BM.okGr
      simp [e0])
    have Q0 := Lib.hid (b_isCounter g.id)
    rw [show SM.count g.id = false from by simpa using e0] at Q0
    clear e0
    obtain ⟨c0, c1, c2, c3, c4, c5⟩ := gcs2 HK.out
    go_enter Try.func69, Try.ntmps69
    go_wp2_with fail
    go_quiet ((first | (go_at_call 72; exact Calls.quiet_of_same ((Q0.out _).mono fun e w' h => ⟨h.1, h.2.symm⟩))))
    go_wp2_with fail
    go_ret
    exact bools HF.out.symm (below_drewN HX.out _)
  have E0 := Lib.hid e0; clear e0
  by_cases e1 : WM.node g.holder = true
  rotate_left
  ·
    have HF := Lib.hid (show BM.okGr g = false from by
      unfold BM.okGr
      simp [E0.out, e1])
    have Q0 := Lib.hid (b_isCounter g.id)
    rw [E0.out] at Q0
    have Q1 := Lib.hid (b_isNode g.holder)
    rw [show WM.node g.holder = false from by simpa using e1] at Q1
    clear e1
    obtain ⟨c0, c1, c2, c3, c4, c5⟩ := gcs2 HK.out
    go_enter Try.func69, Try.ntmps69
    go_wp2_with fail
    go_quiet ((first | (go_at_call 72; exact Calls.quiet_of_same ((Q0.out _).mono fun e w' h => ⟨h.1, h.2.symm⟩)) | (go_at_call 89; exact Calls.quiet_of_same ((Q1.out _).mono fun e w' h => ⟨h.1, h.2.symm⟩))))
    go_wp2_with fail
    go_ret
    exact bools HF.out.symm (below_drewN HX.out _)
  have E1 := Lib.hid e1; clear e1
  by_cases e2 : PM.okB g.path.data.toList = true
  rotate_left
  ·
    have HF := Lib.hid (show BM.okGr g = false from by
      unfold BM.okGr
      simp [E0.out, E1.out, e2])
    have Q0 := Lib.hid (b_isCounter g.id)
    rw [E0.out] at Q0
    have Q1 := Lib.hid (b_isNode g.holder)
    rw [E1.out] at Q1
    have Q2 := Lib.hid (fun w => Valid_any g.path w (by have := HW.out.path; omega))
    rw [show PM.okB g.path.data.toList = false from by simpa using e2] at Q2
    clear e2
    obtain ⟨c0, c1, c2, c3, c4, c5⟩ := gcs2 HK.out
    go_enter Try.func69, Try.ntmps69
    go_wp2_with fail
    go_quiet ((first | (go_at_call 72; exact Calls.quiet_of_same ((Q0.out _).mono fun e w' h => ⟨h.1, h.2.symm⟩)) | (go_at_call 89; exact Calls.quiet_of_same ((Q1.out _).mono fun e w' h => ⟨h.1, h.2.symm⟩)) | (go_at_call 90; exact Calls.quiet_of_same ((Q2.out _).mono fun e w' h => ⟨h.1, h.2.symm⟩))))
    go_wp2_with fail
    go_ret
    exact bools HF.out.symm (below_drewN HX.out _)
  have E2 := Lib.hid e2; clear e2
  by_cases e3 : WM.okMode g.mode = true
  rotate_left
  ·
    have HF := Lib.hid (show BM.okGr g = false from by
      unfold BM.okGr
      simp [E0.out, E1.out, E2.out, e3])
    have Q0 := Lib.hid (b_isCounter g.id)
    rw [E0.out] at Q0
    have Q1 := Lib.hid (b_isNode g.holder)
    rw [E1.out] at Q1
    have Q2 := Lib.hid (fun w => Valid_any g.path w (by have := HW.out.path; omega))
    rw [E2.out] at Q2
    have Q3 := Lib.hid (b_isMode g.mode)
    rw [show WM.okMode g.mode = false from by simpa using e3] at Q3
    clear e3
    obtain ⟨c0, c1, c2, c3, c4, c5⟩ := gcs2 HK.out
    go_enter Try.func69, Try.ntmps69
    go_wp2_with fail
    go_quiet ((first | (go_at_call 72; exact Calls.quiet_of_same ((Q0.out _).mono fun e w' h => ⟨h.1, h.2.symm⟩)) | (go_at_call 89; exact Calls.quiet_of_same ((Q1.out _).mono fun e w' h => ⟨h.1, h.2.symm⟩)) | (go_at_call 90; exact Calls.quiet_of_same ((Q2.out _).mono fun e w' h => ⟨h.1, h.2.symm⟩)) | (go_at_call 91; exact Calls.quiet_of_same ((Q3.out _).mono fun e w' h => ⟨h.1, h.2.symm⟩))))
    go_wp2_with fail
    go_ret
    exact bools HF.out.symm (below_drewN HX.out _)
  have E3 := Lib.hid e3; clear e3
  by_cases e4 : BM.isStamp g.stamp = true
  rotate_left
  ·
    have HF := Lib.hid (show BM.okGr g = false from by
      unfold BM.okGr
      simp [E0.out, E1.out, E2.out, E3.out, e4])
    have Q0 := Lib.hid (b_isCounter g.id)
    rw [E0.out] at Q0
    have Q1 := Lib.hid (b_isNode g.holder)
    rw [E1.out] at Q1
    have Q2 := Lib.hid (fun w => Valid_any g.path w (by have := HW.out.path; omega))
    rw [E2.out] at Q2
    have Q3 := Lib.hid (b_isMode g.mode)
    rw [E3.out] at Q3
    have Q4 := Lib.hid (fun w' (hb : Below w.heap.size w w') => b_isGrantStamp u g.stamp w' (HA.out w' hb))
    rw [show BM.isStamp g.stamp = false from by simpa using e4] at Q4
    clear e4
    obtain ⟨c0, c1, c2, c3, c4, c5⟩ := gcs2 HK.out
    go_enter Try.func69, Try.ntmps69
    go_wp2_with fail
    go_quiet ((first | (go_at_call 72; exact Calls.quiet_of_same ((Q0.out _).mono fun e w' h => ⟨h.1, h.2.symm⟩)) | (go_at_call 89; exact Calls.quiet_of_same ((Q1.out _).mono fun e w' h => ⟨h.1, h.2.symm⟩)) | (go_at_call 90; exact Calls.quiet_of_same ((Q2.out _).mono fun e w' h => ⟨h.1, h.2.symm⟩)) | (go_at_call 91; exact Calls.quiet_of_same ((Q3.out _).mono fun e w' h => ⟨h.1, h.2.symm⟩)) | (go_at_call 73; exact Calls.quiet_of_same ((Q4.out _ (below_drewN HX.out _)).mono fun e w' h => ⟨h.1, h.2.symm⟩))))
    go_wp2_with fail
    go_ret
    exact bools HF.out.symm (below_drewN HX.out _)
  have E4 := Lib.hid e4; clear e4
  by_cases e5 : g.id ≤ BM.last g.stamp
  rotate_left
  ·
    have HF := Lib.hid (show BM.okGr g = false from by
      unfold BM.okGr
      simp [E0.out, E1.out, E2.out, E3.out, E4.out, e5])
    have Q0 := Lib.hid (b_isCounter g.id)
    rw [E0.out] at Q0
    have Q1 := Lib.hid (b_isNode g.holder)
    rw [E1.out] at Q1
    have Q2 := Lib.hid (fun w => Valid_any g.path w (by have := HW.out.path; omega))
    rw [E2.out] at Q2
    have Q3 := Lib.hid (b_isMode g.mode)
    rw [E3.out] at Q3
    have Q4 := Lib.hid (fun w' (hb : Below w.heap.size w w') => b_isGrantStamp u g.stamp w' (HA.out w' hb))
    rw [E4.out] at Q4
    have HL := Lib.hid (fun w' (hb : Below w.heap.size w w') => b_last u g.stamp w' (HA.out w' hb) (BM.stamp_parts E4.out).1)
    have hx5 : BM.last g.stamp < g.id := by omega
    have hx6 : decide (g.id ≤ BM.last g.stamp) = false := decide_eq_false e5
    clear e5
    obtain ⟨c0, c1, c2, c3, c4, c5⟩ := gcs2 HK.out
    go_enter Try.func69, Try.ntmps69
    go_wp2_with fail
    go_quiet ((first | (go_at_call 72; exact Calls.quiet_of_same ((Q0.out _).mono fun e w' h => ⟨h.1, h.2.symm⟩)) | (go_at_call 89; exact Calls.quiet_of_same ((Q1.out _).mono fun e w' h => ⟨h.1, h.2.symm⟩)) | (go_at_call 90; exact Calls.quiet_of_same ((Q2.out _).mono fun e w' h => ⟨h.1, h.2.symm⟩)) | (go_at_call 91; exact Calls.quiet_of_same ((Q3.out _).mono fun e w' h => ⟨h.1, h.2.symm⟩)) | (go_at_call 73; exact Calls.quiet_of_same ((Q4.out _ (below_drewN HX.out _)).mono fun e w' h => ⟨h.1, h.2.symm⟩)) | (go_at_call 70; exact Calls.quiet_of_same ((HL.out _ (below_drewN HX.out _)).mono fun e w' h => ⟨h.1, h.2.symm⟩))))
    go_wp2_with fail
    go_ret
    exact bools HF.out.symm (below_drewN HX.out _)
  have E5 := Lib.hid e5; clear e5
  by_cases e6 : TM.legal g.term = true
  rotate_left
  ·
    have HF := Lib.hid (show BM.okGr g = false from by
      unfold BM.okGr
      simp [E0.out, E1.out, E2.out, E3.out, E4.out, E5.out, e6])
    have Q0 := Lib.hid (b_isCounter g.id)
    rw [E0.out] at Q0
    have Q1 := Lib.hid (b_isNode g.holder)
    rw [E1.out] at Q1
    have Q2 := Lib.hid (fun w => Valid_any g.path w (by have := HW.out.path; omega))
    rw [E2.out] at Q2
    have Q3 := Lib.hid (b_isMode g.mode)
    rw [E3.out] at Q3
    have Q4 := Lib.hid (fun w' (hb : Below w.heap.size w w') => b_isGrantStamp u g.stamp w' (HA.out w' hb))
    rw [E4.out] at Q4
    have HL := Lib.hid (fun w' (hb : Below w.heap.size w w') => b_last u g.stamp w' (HA.out w' hb) (BM.stamp_parts E4.out).1)
    have hx5 : g.id ≤ BM.last g.stamp := E5.out
    have hx6 : decide (g.id ≤ BM.last g.stamp) = true := decide_eq_true E5.out
    have Q6 := Lib.hid (fun w => Legal_any g.term w HW.out.term)
    rw [show TM.legal g.term = false from by simpa using e6] at Q6
    clear e6
    obtain ⟨c0, c1, c2, c3, c4, c5⟩ := gcs2 HK.out
    go_enter Try.func69, Try.ntmps69
    go_wp2_with fail
    go_quiet ((first | (go_at_call 72; exact Calls.quiet_of_same ((Q0.out _).mono fun e w' h => ⟨h.1, h.2.symm⟩)) | (go_at_call 89; exact Calls.quiet_of_same ((Q1.out _).mono fun e w' h => ⟨h.1, h.2.symm⟩)) | (go_at_call 90; exact Calls.quiet_of_same ((Q2.out _).mono fun e w' h => ⟨h.1, h.2.symm⟩)) | (go_at_call 91; exact Calls.quiet_of_same ((Q3.out _).mono fun e w' h => ⟨h.1, h.2.symm⟩)) | (go_at_call 73; exact Calls.quiet_of_same ((Q4.out _ (below_drewN HX.out _)).mono fun e w' h => ⟨h.1, h.2.symm⟩)) | (go_at_call 70; exact Calls.quiet_of_same ((HL.out _ (below_drewN HX.out _)).mono fun e w' h => ⟨h.1, h.2.symm⟩)) | (go_at_call 68; exact Calls.quiet_of_same ((Q6.out _).mono fun e w' h => ⟨h.1, h.2.symm⟩))))
    go_wp2_with fail
    go_ret
    exact bools HF.out.symm (below_drewN HX.out _)
  have E6 := Lib.hid e6; clear e6
  have HF := Lib.hid (show BM.okGr g = true from by
    unfold BM.okGr
    simp [E0.out, E1.out, E2.out, E3.out, E4.out, E5.out, E6.out])
  have Q0 := Lib.hid (b_isCounter g.id)
  rw [E0.out] at Q0
  have Q1 := Lib.hid (b_isNode g.holder)
  rw [E1.out] at Q1
  have Q2 := Lib.hid (fun w => Valid_any g.path w (by have := HW.out.path; omega))
  rw [E2.out] at Q2
  have Q3 := Lib.hid (b_isMode g.mode)
  rw [E3.out] at Q3
  have Q4 := Lib.hid (fun w' (hb : Below w.heap.size w w') => b_isGrantStamp u g.stamp w' (HA.out w' hb))
  rw [E4.out] at Q4
  have HL := Lib.hid (fun w' (hb : Below w.heap.size w w') => b_last u g.stamp w' (HA.out w' hb) (BM.stamp_parts E4.out).1)
  have hx5 : g.id ≤ BM.last g.stamp := E5.out
  have hx6 : decide (g.id ≤ BM.last g.stamp) = true := decide_eq_true E5.out
  have Q6 := Lib.hid (fun w => Legal_any g.term w HW.out.term)
  rw [E6.out] at Q6
  obtain ⟨c0, c1, c2, c3, c4, c5⟩ := gcs2 HK.out
  go_enter Try.func69, Try.ntmps69
  go_wp2_with fail
  go_quiet ((first | (go_at_call 72; exact Calls.quiet_of_same ((Q0.out _).mono fun e w' h => ⟨h.1, h.2.symm⟩)) | (go_at_call 89; exact Calls.quiet_of_same ((Q1.out _).mono fun e w' h => ⟨h.1, h.2.symm⟩)) | (go_at_call 90; exact Calls.quiet_of_same ((Q2.out _).mono fun e w' h => ⟨h.1, h.2.symm⟩)) | (go_at_call 91; exact Calls.quiet_of_same ((Q3.out _).mono fun e w' h => ⟨h.1, h.2.symm⟩)) | (go_at_call 73; exact Calls.quiet_of_same ((Q4.out _ (below_drewN HX.out _)).mono fun e w' h => ⟨h.1, h.2.symm⟩)) | (go_at_call 70; exact Calls.quiet_of_same ((HL.out _ (below_drewN HX.out _)).mono fun e w' h => ⟨h.1, h.2.symm⟩)) | (go_at_call 68; exact Calls.quiet_of_same ((Q6.out _).mono fun e w' h => ⟨h.1, h.2.symm⟩))))
  go_wp2_with fail
  go_ret
  exact bools HF.out.symm (below_drewN HX.out _)
set_option maxHeartbeats 8000000 in
theorem r_Grant (u : Value) (g : Gr) (w : World) (h : FitG w u g) :
    Calls Try.prog 49 #[.agg (six g u)] w fun e w' => e = .returned (.bool (BM.okGr g)) ∧ Below w.heap.size w w' := by
  have HX := Lib.hid ((Below.refl _ w).alloc (Nat.le_refl _) (.cells (six g u) 26))
  have HA := Lib.hid (fun w' (hb : Below w.heap.size w w') => h.hd.below hb)
  have HW := Lib.hid h.wide
  have HK := Lib.hid (Whole.new w 26 (six g u))
  obtain ⟨A0, c0, hu, hs0⟩ := h.hd
  have hle := hs0.le
  have hca := hs0.cap
  clear h hs0
  subst hu
  have QP := Lib.hid (fun w => RValid_any g.path w (by have := HW.out.path; omega))
  have QV := Lib.hid (fun w' (hb : Below w.heap.size w w') => rvalid_hd _ g.stamp w' (HA.out w' hb))
  have QC := Lib.hid (r_counter g.id)
  have QM := Lib.hid (r_Mode g.mode)
  have QL := Lib.hid (fun w' (hb : Below w.heap.size w w') => r_last _ g.stamp w' (HA.out w' hb))
  have QT := Lib.hid (fun w => RefLegal_any g.term w HW.out.term)
  obtain ⟨bp, hbp⟩ : ∃ b, PM.okB g.path.data.toList = b := ⟨_, rfl⟩
  obtain ⟨bv, hbv⟩ : ∃ b, SM.valid g.stamp = b := ⟨_, rfl⟩
  rw [hbp] at QP
  rw [hbv] at QV
  obtain ⟨_, _, c2, _, _, _⟩ := gcs2 HK.out
  obtain ⟨bs, hbs⟩ : ∃ b, BM.isStamp g.stamp = b := ⟨_, rfl⟩
  have HBS := Lib.hid hbs
  have HBP := Lib.hid hbp
  have HBV := Lib.hid hbv
  clear hbs hbp hbv
  by_cases eid : SM.count g.id = true
  rotate_left
  ·
    have HF := Lib.hid (show BM.okGr g = false from by
      unfold BM.okGr WM.node
      rw [HBP.out, HBS.out]
      simp [eid])
    rw [show SM.count g.id = false from by simpa using eid] at QC
    clear eid
    cases bv with
    | true =>
      by_cases h0 : g.stamp = []
      · have hp0 : g.stamp.length ≤ 0 := by rw [h0]; exact Nat.le_refl _
        have hp2 : decide (0 < g.stamp.length) = false := by rw [h0]; rfl
        have hbsf : bs = false := by rw [← HBS.out]; unfold BM.isStamp; simp [h0]
        subst hbsf
        clear h0
        go_enter Try.func49, Try.ntmps49
        go_wp2_with fail
        refine (QP.out _).mono ?_
        rintro e w1 ⟨rfl, hb⟩
        have HX1 := Lib.hid (below_on HX.out hb)
        have HK1 := Lib.hid ((Mod.of_below hb []).whole HK.out (by simp))
        clear hb c2
        obtain ⟨c0', c1', c2', c3', c4', c5'⟩ := cs6BkW2 HK1.out
        go_wp2_with (go_at_call 52; refine (QV.out _ HX1.out).mono ?_; rintro e w2 ⟨rfl, rfl⟩)
        go_quiet ((first | (go_at_call 51; exact Calls.quiet_of_same ((QC.out _).mono fun e w' h => ⟨h.1, h.2.symm⟩)) | (go_at_call 78; exact Calls.quiet_of_same ((QM.out _).mono fun e w' h => ⟨h.1, h.2.symm⟩)) | (go_at_call 50; exact Calls.quiet_of_same ((QL.out _ (below_drewN HX1.out _)).mono fun e w' h => ⟨h.1, h.2.symm⟩)) | (go_at_call 48; exact Calls.quiet_of_same ((QT.out _).mono fun e w' h => ⟨h.1, h.2.symm⟩))))
        go_wp2_with fail
        go_ret
        exact bools HF.out.symm (below_drewN HX1.out _)
      · have hp0 : 0 < g.stamp.length := List.length_pos_iff.2 h0
        have hp2 : decide (0 < g.stamp.length) = true := decide_eq_true hp0
        have hbsf : bs = true := by rw [← HBS.out]; unfold BM.isStamp; rw [HBV.out]; simp [h0]
        subst hbsf
        clear h0
        go_enter Try.func49, Try.ntmps49
        go_wp2_with fail
        refine (QP.out _).mono ?_
        rintro e w1 ⟨rfl, hb⟩
        have HX1 := Lib.hid (below_on HX.out hb)
        have HK1 := Lib.hid ((Mod.of_below hb []).whole HK.out (by simp))
        clear hb c2
        obtain ⟨c0', c1', c2', c3', c4', c5'⟩ := cs6BkW2 HK1.out
        go_wp2_with (go_at_call 52; refine (QV.out _ HX1.out).mono ?_; rintro e w2 ⟨rfl, rfl⟩)
        go_quiet ((first | (go_at_call 51; exact Calls.quiet_of_same ((QC.out _).mono fun e w' h => ⟨h.1, h.2.symm⟩)) | (go_at_call 78; exact Calls.quiet_of_same ((QM.out _).mono fun e w' h => ⟨h.1, h.2.symm⟩)) | (go_at_call 50; exact Calls.quiet_of_same ((QL.out _ (below_drewN HX1.out _)).mono fun e w' h => ⟨h.1, h.2.symm⟩)) | (go_at_call 48; exact Calls.quiet_of_same ((QT.out _).mono fun e w' h => ⟨h.1, h.2.symm⟩))))
        go_wp2_with fail
        go_ret
        exact bools HF.out.symm (below_drewN HX1.out _)
    | false =>
      have hbsf : bs = false := by rw [← HBS.out]; unfold BM.isStamp; rw [HBV.out]; simp
      subst hbsf
      go_enter Try.func49, Try.ntmps49
      go_wp2_with fail
      refine (QP.out _).mono ?_
      rintro e w1 ⟨rfl, hb⟩
      have HX1 := Lib.hid (below_on HX.out hb)
      have HK1 := Lib.hid ((Mod.of_below hb []).whole HK.out (by simp))
      clear hb c2
      obtain ⟨c0', c1', c2', c3', c4', c5'⟩ := cs6BkW2 HK1.out
      go_wp2_with (go_at_call 52; refine (QV.out _ HX1.out).mono ?_; rintro e w2 ⟨rfl, rfl⟩)
      go_quiet ((first | (go_at_call 51; exact Calls.quiet_of_same ((QC.out _).mono fun e w' h => ⟨h.1, h.2.symm⟩)) | (go_at_call 78; exact Calls.quiet_of_same ((QM.out _).mono fun e w' h => ⟨h.1, h.2.symm⟩)) | (go_at_call 50; exact Calls.quiet_of_same ((QL.out _ (below_drewN HX1.out _)).mono fun e w' h => ⟨h.1, h.2.symm⟩)) | (go_at_call 48; exact Calls.quiet_of_same ((QT.out _).mono fun e w' h => ⟨h.1, h.2.symm⟩))))
      go_wp2_with fail
      go_ret
      exact bools HF.out.symm (below_drewN HX1.out _)
  rw [eid] at QC
  have Eid := Lib.hid eid
  clear eid
  by_cases eh0 : 0 ≤ g.holder
  rotate_left
  ·
    have HF := Lib.hid (show BM.okGr g = false from by
      unfold BM.okGr WM.node
      rw [HBP.out, HBS.out]
      simp [Eid.out, eh0])
    have d0 : decide (0 ≤ g.holder) = false := decide_eq_false eh0
    cases bv with
    | true =>
      by_cases h0 : g.stamp = []
      · have hp0 : g.stamp.length ≤ 0 := by rw [h0]; exact Nat.le_refl _
        have hp2 : decide (0 < g.stamp.length) = false := by rw [h0]; rfl
        have hbsf : bs = false := by rw [← HBS.out]; unfold BM.isStamp; simp [h0]
        subst hbsf
        clear h0
        go_enter Try.func49, Try.ntmps49
        go_wp2_with fail
        refine (QP.out _).mono ?_
        rintro e w1 ⟨rfl, hb⟩
        have HX1 := Lib.hid (below_on HX.out hb)
        have HK1 := Lib.hid ((Mod.of_below hb []).whole HK.out (by simp))
        clear hb c2
        obtain ⟨c0', c1', c2', c3', c4', c5'⟩ := cs6BkW2 HK1.out
        go_wp2_with (go_at_call 52; refine (QV.out _ HX1.out).mono ?_; rintro e w2 ⟨rfl, rfl⟩)
        go_quiet ((first | (go_at_call 51; exact Calls.quiet_of_same ((QC.out _).mono fun e w' h => ⟨h.1, h.2.symm⟩)) | (go_at_call 78; exact Calls.quiet_of_same ((QM.out _).mono fun e w' h => ⟨h.1, h.2.symm⟩)) | (go_at_call 50; exact Calls.quiet_of_same ((QL.out _ (below_drewN HX1.out _)).mono fun e w' h => ⟨h.1, h.2.symm⟩)) | (go_at_call 48; exact Calls.quiet_of_same ((QT.out _).mono fun e w' h => ⟨h.1, h.2.symm⟩))))
        go_wp2_with fail
        go_ret
        exact bools HF.out.symm (below_drewN HX1.out _)
      · have hp0 : 0 < g.stamp.length := List.length_pos_iff.2 h0
        have hp2 : decide (0 < g.stamp.length) = true := decide_eq_true hp0
        have hbsf : bs = true := by rw [← HBS.out]; unfold BM.isStamp; rw [HBV.out]; simp [h0]
        subst hbsf
        clear h0
        go_enter Try.func49, Try.ntmps49
        go_wp2_with fail
        refine (QP.out _).mono ?_
        rintro e w1 ⟨rfl, hb⟩
        have HX1 := Lib.hid (below_on HX.out hb)
        have HK1 := Lib.hid ((Mod.of_below hb []).whole HK.out (by simp))
        clear hb c2
        obtain ⟨c0', c1', c2', c3', c4', c5'⟩ := cs6BkW2 HK1.out
        go_wp2_with (go_at_call 52; refine (QV.out _ HX1.out).mono ?_; rintro e w2 ⟨rfl, rfl⟩)
        go_quiet ((first | (go_at_call 51; exact Calls.quiet_of_same ((QC.out _).mono fun e w' h => ⟨h.1, h.2.symm⟩)) | (go_at_call 78; exact Calls.quiet_of_same ((QM.out _).mono fun e w' h => ⟨h.1, h.2.symm⟩)) | (go_at_call 50; exact Calls.quiet_of_same ((QL.out _ (below_drewN HX1.out _)).mono fun e w' h => ⟨h.1, h.2.symm⟩)) | (go_at_call 48; exact Calls.quiet_of_same ((QT.out _).mono fun e w' h => ⟨h.1, h.2.symm⟩))))
        go_wp2_with fail
        go_ret
        exact bools HF.out.symm (below_drewN HX1.out _)
    | false =>
      have hbsf : bs = false := by rw [← HBS.out]; unfold BM.isStamp; rw [HBV.out]; simp
      subst hbsf
      go_enter Try.func49, Try.ntmps49
      go_wp2_with fail
      refine (QP.out _).mono ?_
      rintro e w1 ⟨rfl, hb⟩
      have HX1 := Lib.hid (below_on HX.out hb)
      have HK1 := Lib.hid ((Mod.of_below hb []).whole HK.out (by simp))
      clear hb c2
      obtain ⟨c0', c1', c2', c3', c4', c5'⟩ := cs6BkW2 HK1.out
      go_wp2_with (go_at_call 52; refine (QV.out _ HX1.out).mono ?_; rintro e w2 ⟨rfl, rfl⟩)
      go_quiet ((first | (go_at_call 51; exact Calls.quiet_of_same ((QC.out _).mono fun e w' h => ⟨h.1, h.2.symm⟩)) | (go_at_call 78; exact Calls.quiet_of_same ((QM.out _).mono fun e w' h => ⟨h.1, h.2.symm⟩)) | (go_at_call 50; exact Calls.quiet_of_same ((QL.out _ (below_drewN HX1.out _)).mono fun e w' h => ⟨h.1, h.2.symm⟩)) | (go_at_call 48; exact Calls.quiet_of_same ((QT.out _).mono fun e w' h => ⟨h.1, h.2.symm⟩))))
      go_wp2_with fail
      go_ret
      exact bools HF.out.symm (below_drewN HX1.out _)
  have d0 : decide (0 ≤ g.holder) = true := decide_eq_true eh0
  by_cases eh8 : g.holder < 8
  rotate_left
  ·
    have HF := Lib.hid (show BM.okGr g = false from by
      unfold BM.okGr WM.node
      rw [HBP.out, HBS.out]
      simp [Eid.out, eh0, eh8])
    have d8 : decide (g.holder < 8) = false := decide_eq_false eh8
    cases bv with
    | true =>
      by_cases h0 : g.stamp = []
      · have hp0 : g.stamp.length ≤ 0 := by rw [h0]; exact Nat.le_refl _
        have hp2 : decide (0 < g.stamp.length) = false := by rw [h0]; rfl
        have hbsf : bs = false := by rw [← HBS.out]; unfold BM.isStamp; simp [h0]
        subst hbsf
        clear h0
        go_enter Try.func49, Try.ntmps49
        go_wp2_with fail
        refine (QP.out _).mono ?_
        rintro e w1 ⟨rfl, hb⟩
        have HX1 := Lib.hid (below_on HX.out hb)
        have HK1 := Lib.hid ((Mod.of_below hb []).whole HK.out (by simp))
        clear hb c2
        obtain ⟨c0', c1', c2', c3', c4', c5'⟩ := cs6BkW2 HK1.out
        go_wp2_with (go_at_call 52; refine (QV.out _ HX1.out).mono ?_; rintro e w2 ⟨rfl, rfl⟩)
        go_quiet ((first | (go_at_call 51; exact Calls.quiet_of_same ((QC.out _).mono fun e w' h => ⟨h.1, h.2.symm⟩)) | (go_at_call 78; exact Calls.quiet_of_same ((QM.out _).mono fun e w' h => ⟨h.1, h.2.symm⟩)) | (go_at_call 50; exact Calls.quiet_of_same ((QL.out _ (below_drewN HX1.out _)).mono fun e w' h => ⟨h.1, h.2.symm⟩)) | (go_at_call 48; exact Calls.quiet_of_same ((QT.out _).mono fun e w' h => ⟨h.1, h.2.symm⟩))))
        go_wp2_with fail
        go_ret
        exact bools HF.out.symm (below_drewN HX1.out _)
      · have hp0 : 0 < g.stamp.length := List.length_pos_iff.2 h0
        have hp2 : decide (0 < g.stamp.length) = true := decide_eq_true hp0
        have hbsf : bs = true := by rw [← HBS.out]; unfold BM.isStamp; rw [HBV.out]; simp [h0]
        subst hbsf
        clear h0
        go_enter Try.func49, Try.ntmps49
        go_wp2_with fail
        refine (QP.out _).mono ?_
        rintro e w1 ⟨rfl, hb⟩
        have HX1 := Lib.hid (below_on HX.out hb)
        have HK1 := Lib.hid ((Mod.of_below hb []).whole HK.out (by simp))
        clear hb c2
        obtain ⟨c0', c1', c2', c3', c4', c5'⟩ := cs6BkW2 HK1.out
        go_wp2_with (go_at_call 52; refine (QV.out _ HX1.out).mono ?_; rintro e w2 ⟨rfl, rfl⟩)
        go_quiet ((first | (go_at_call 51; exact Calls.quiet_of_same ((QC.out _).mono fun e w' h => ⟨h.1, h.2.symm⟩)) | (go_at_call 78; exact Calls.quiet_of_same ((QM.out _).mono fun e w' h => ⟨h.1, h.2.symm⟩)) | (go_at_call 50; exact Calls.quiet_of_same ((QL.out _ (below_drewN HX1.out _)).mono fun e w' h => ⟨h.1, h.2.symm⟩)) | (go_at_call 48; exact Calls.quiet_of_same ((QT.out _).mono fun e w' h => ⟨h.1, h.2.symm⟩))))
        go_wp2_with fail
        go_ret
        exact bools HF.out.symm (below_drewN HX1.out _)
    | false =>
      have hbsf : bs = false := by rw [← HBS.out]; unfold BM.isStamp; rw [HBV.out]; simp
      subst hbsf
      go_enter Try.func49, Try.ntmps49
      go_wp2_with fail
      refine (QP.out _).mono ?_
      rintro e w1 ⟨rfl, hb⟩
      have HX1 := Lib.hid (below_on HX.out hb)
      have HK1 := Lib.hid ((Mod.of_below hb []).whole HK.out (by simp))
      clear hb c2
      obtain ⟨c0', c1', c2', c3', c4', c5'⟩ := cs6BkW2 HK1.out
      go_wp2_with (go_at_call 52; refine (QV.out _ HX1.out).mono ?_; rintro e w2 ⟨rfl, rfl⟩)
      go_quiet ((first | (go_at_call 51; exact Calls.quiet_of_same ((QC.out _).mono fun e w' h => ⟨h.1, h.2.symm⟩)) | (go_at_call 78; exact Calls.quiet_of_same ((QM.out _).mono fun e w' h => ⟨h.1, h.2.symm⟩)) | (go_at_call 50; exact Calls.quiet_of_same ((QL.out _ (below_drewN HX1.out _)).mono fun e w' h => ⟨h.1, h.2.symm⟩)) | (go_at_call 48; exact Calls.quiet_of_same ((QT.out _).mono fun e w' h => ⟨h.1, h.2.symm⟩))))
      go_wp2_with fail
      go_ret
      exact bools HF.out.symm (below_drewN HX1.out _)
  have d8 : decide (g.holder < 8) = true := decide_eq_true eh8
  by_cases ep : bp = true
  rotate_left
  ·
    have HF := Lib.hid (show BM.okGr g = false from by
      unfold BM.okGr WM.node
      rw [HBP.out, HBS.out]
      simp [Eid.out, eh0, eh8, ep])
    have hbpf : bp = false := by simpa using ep
    subst hbpf
    clear ep
    cases bv with
    | true =>
      by_cases h0 : g.stamp = []
      · have hp0 : g.stamp.length ≤ 0 := by rw [h0]; exact Nat.le_refl _
        have hp2 : decide (0 < g.stamp.length) = false := by rw [h0]; rfl
        have hbsf : bs = false := by rw [← HBS.out]; unfold BM.isStamp; simp [h0]
        subst hbsf
        clear h0
        go_enter Try.func49, Try.ntmps49
        go_wp2_with fail
        refine (QP.out _).mono ?_
        rintro e w1 ⟨rfl, hb⟩
        have HX1 := Lib.hid (below_on HX.out hb)
        have HK1 := Lib.hid ((Mod.of_below hb []).whole HK.out (by simp))
        clear hb c2
        obtain ⟨c0', c1', c2', c3', c4', c5'⟩ := cs6BkW2 HK1.out
        go_wp2_with (go_at_call 52; refine (QV.out _ HX1.out).mono ?_; rintro e w2 ⟨rfl, rfl⟩)
        go_quiet ((first | (go_at_call 51; exact Calls.quiet_of_same ((QC.out _).mono fun e w' h => ⟨h.1, h.2.symm⟩)) | (go_at_call 78; exact Calls.quiet_of_same ((QM.out _).mono fun e w' h => ⟨h.1, h.2.symm⟩)) | (go_at_call 50; exact Calls.quiet_of_same ((QL.out _ (below_drewN HX1.out _)).mono fun e w' h => ⟨h.1, h.2.symm⟩)) | (go_at_call 48; exact Calls.quiet_of_same ((QT.out _).mono fun e w' h => ⟨h.1, h.2.symm⟩))))
        go_wp2_with fail
        go_ret
        exact bools HF.out.symm (below_drewN HX1.out _)
      · have hp0 : 0 < g.stamp.length := List.length_pos_iff.2 h0
        have hp2 : decide (0 < g.stamp.length) = true := decide_eq_true hp0
        have hbsf : bs = true := by rw [← HBS.out]; unfold BM.isStamp; rw [HBV.out]; simp [h0]
        subst hbsf
        clear h0
        go_enter Try.func49, Try.ntmps49
        go_wp2_with fail
        refine (QP.out _).mono ?_
        rintro e w1 ⟨rfl, hb⟩
        have HX1 := Lib.hid (below_on HX.out hb)
        have HK1 := Lib.hid ((Mod.of_below hb []).whole HK.out (by simp))
        clear hb c2
        obtain ⟨c0', c1', c2', c3', c4', c5'⟩ := cs6BkW2 HK1.out
        go_wp2_with (go_at_call 52; refine (QV.out _ HX1.out).mono ?_; rintro e w2 ⟨rfl, rfl⟩)
        go_quiet ((first | (go_at_call 51; exact Calls.quiet_of_same ((QC.out _).mono fun e w' h => ⟨h.1, h.2.symm⟩)) | (go_at_call 78; exact Calls.quiet_of_same ((QM.out _).mono fun e w' h => ⟨h.1, h.2.symm⟩)) | (go_at_call 50; exact Calls.quiet_of_same ((QL.out _ (below_drewN HX1.out _)).mono fun e w' h => ⟨h.1, h.2.symm⟩)) | (go_at_call 48; exact Calls.quiet_of_same ((QT.out _).mono fun e w' h => ⟨h.1, h.2.symm⟩))))
        go_wp2_with fail
        go_ret
        exact bools HF.out.symm (below_drewN HX1.out _)
    | false =>
      have hbsf : bs = false := by rw [← HBS.out]; unfold BM.isStamp; rw [HBV.out]; simp
      subst hbsf
      go_enter Try.func49, Try.ntmps49
      go_wp2_with fail
      refine (QP.out _).mono ?_
      rintro e w1 ⟨rfl, hb⟩
      have HX1 := Lib.hid (below_on HX.out hb)
      have HK1 := Lib.hid ((Mod.of_below hb []).whole HK.out (by simp))
      clear hb c2
      obtain ⟨c0', c1', c2', c3', c4', c5'⟩ := cs6BkW2 HK1.out
      go_wp2_with (go_at_call 52; refine (QV.out _ HX1.out).mono ?_; rintro e w2 ⟨rfl, rfl⟩)
      go_quiet ((first | (go_at_call 51; exact Calls.quiet_of_same ((QC.out _).mono fun e w' h => ⟨h.1, h.2.symm⟩)) | (go_at_call 78; exact Calls.quiet_of_same ((QM.out _).mono fun e w' h => ⟨h.1, h.2.symm⟩)) | (go_at_call 50; exact Calls.quiet_of_same ((QL.out _ (below_drewN HX1.out _)).mono fun e w' h => ⟨h.1, h.2.symm⟩)) | (go_at_call 48; exact Calls.quiet_of_same ((QT.out _).mono fun e w' h => ⟨h.1, h.2.symm⟩))))
      go_wp2_with fail
      go_ret
      exact bools HF.out.symm (below_drewN HX1.out _)
  subst ep
  by_cases em : WM.okMode g.mode = true
  rotate_left
  ·
    have HF := Lib.hid (show BM.okGr g = false from by
      unfold BM.okGr WM.node
      rw [HBP.out, HBS.out]
      simp [Eid.out, eh0, eh8, em])
    rw [show WM.okMode g.mode = false from by simpa using em] at QM
    clear em
    cases bv with
    | true =>
      by_cases h0 : g.stamp = []
      · have hp0 : g.stamp.length ≤ 0 := by rw [h0]; exact Nat.le_refl _
        have hp2 : decide (0 < g.stamp.length) = false := by rw [h0]; rfl
        have hbsf : bs = false := by rw [← HBS.out]; unfold BM.isStamp; simp [h0]
        subst hbsf
        clear h0
        go_enter Try.func49, Try.ntmps49
        go_wp2_with fail
        refine (QP.out _).mono ?_
        rintro e w1 ⟨rfl, hb⟩
        have HX1 := Lib.hid (below_on HX.out hb)
        have HK1 := Lib.hid ((Mod.of_below hb []).whole HK.out (by simp))
        clear hb c2
        obtain ⟨c0', c1', c2', c3', c4', c5'⟩ := cs6BkW2 HK1.out
        go_wp2_with (go_at_call 52; refine (QV.out _ HX1.out).mono ?_; rintro e w2 ⟨rfl, rfl⟩)
        go_quiet ((first | (go_at_call 51; exact Calls.quiet_of_same ((QC.out _).mono fun e w' h => ⟨h.1, h.2.symm⟩)) | (go_at_call 78; exact Calls.quiet_of_same ((QM.out _).mono fun e w' h => ⟨h.1, h.2.symm⟩)) | (go_at_call 50; exact Calls.quiet_of_same ((QL.out _ (below_drewN HX1.out _)).mono fun e w' h => ⟨h.1, h.2.symm⟩)) | (go_at_call 48; exact Calls.quiet_of_same ((QT.out _).mono fun e w' h => ⟨h.1, h.2.symm⟩))))
        go_wp2_with fail
        go_ret
        exact bools HF.out.symm (below_drewN HX1.out _)
      · have hp0 : 0 < g.stamp.length := List.length_pos_iff.2 h0
        have hp2 : decide (0 < g.stamp.length) = true := decide_eq_true hp0
        have hbsf : bs = true := by rw [← HBS.out]; unfold BM.isStamp; rw [HBV.out]; simp [h0]
        subst hbsf
        clear h0
        go_enter Try.func49, Try.ntmps49
        go_wp2_with fail
        refine (QP.out _).mono ?_
        rintro e w1 ⟨rfl, hb⟩
        have HX1 := Lib.hid (below_on HX.out hb)
        have HK1 := Lib.hid ((Mod.of_below hb []).whole HK.out (by simp))
        clear hb c2
        obtain ⟨c0', c1', c2', c3', c4', c5'⟩ := cs6BkW2 HK1.out
        go_wp2_with (go_at_call 52; refine (QV.out _ HX1.out).mono ?_; rintro e w2 ⟨rfl, rfl⟩)
        go_quiet ((first | (go_at_call 51; exact Calls.quiet_of_same ((QC.out _).mono fun e w' h => ⟨h.1, h.2.symm⟩)) | (go_at_call 78; exact Calls.quiet_of_same ((QM.out _).mono fun e w' h => ⟨h.1, h.2.symm⟩)) | (go_at_call 50; exact Calls.quiet_of_same ((QL.out _ (below_drewN HX1.out _)).mono fun e w' h => ⟨h.1, h.2.symm⟩)) | (go_at_call 48; exact Calls.quiet_of_same ((QT.out _).mono fun e w' h => ⟨h.1, h.2.symm⟩))))
        go_wp2_with fail
        go_ret
        exact bools HF.out.symm (below_drewN HX1.out _)
    | false =>
      have hbsf : bs = false := by rw [← HBS.out]; unfold BM.isStamp; rw [HBV.out]; simp
      subst hbsf
      go_enter Try.func49, Try.ntmps49
      go_wp2_with fail
      refine (QP.out _).mono ?_
      rintro e w1 ⟨rfl, hb⟩
      have HX1 := Lib.hid (below_on HX.out hb)
      have HK1 := Lib.hid ((Mod.of_below hb []).whole HK.out (by simp))
      clear hb c2
      obtain ⟨c0', c1', c2', c3', c4', c5'⟩ := cs6BkW2 HK1.out
      go_wp2_with (go_at_call 52; refine (QV.out _ HX1.out).mono ?_; rintro e w2 ⟨rfl, rfl⟩)
      go_quiet ((first | (go_at_call 51; exact Calls.quiet_of_same ((QC.out _).mono fun e w' h => ⟨h.1, h.2.symm⟩)) | (go_at_call 78; exact Calls.quiet_of_same ((QM.out _).mono fun e w' h => ⟨h.1, h.2.symm⟩)) | (go_at_call 50; exact Calls.quiet_of_same ((QL.out _ (below_drewN HX1.out _)).mono fun e w' h => ⟨h.1, h.2.symm⟩)) | (go_at_call 48; exact Calls.quiet_of_same ((QT.out _).mono fun e w' h => ⟨h.1, h.2.symm⟩))))
      go_wp2_with fail
      go_ret
      exact bools HF.out.symm (below_drewN HX1.out _)
  rw [em] at QM
  have Em := Lib.hid em
  clear em
  by_cases es : bs = true
  rotate_left
  ·
    have HF := Lib.hid (show BM.okGr g = false from by
      unfold BM.okGr WM.node
      rw [HBP.out, HBS.out]
      simp [Eid.out, eh0, eh8, Em.out, es])
    have hbsf : bs = false := by simpa using es
    subst hbsf
    clear es
    cases bv with
    | true =>
      by_cases h0 : g.stamp = []
      · have hp0 : g.stamp.length ≤ 0 := by rw [h0]; exact Nat.le_refl _
        have hp2 : decide (0 < g.stamp.length) = false := by rw [h0]; rfl
        clear h0
        go_enter Try.func49, Try.ntmps49
        go_wp2_with fail
        refine (QP.out _).mono ?_
        rintro e w1 ⟨rfl, hb⟩
        have HX1 := Lib.hid (below_on HX.out hb)
        have HK1 := Lib.hid ((Mod.of_below hb []).whole HK.out (by simp))
        clear hb c2
        obtain ⟨c0', c1', c2', c3', c4', c5'⟩ := cs6BkW2 HK1.out
        go_wp2_with (go_at_call 52; refine (QV.out _ HX1.out).mono ?_; rintro e w2 ⟨rfl, rfl⟩)
        go_quiet ((first | (go_at_call 51; exact Calls.quiet_of_same ((QC.out _).mono fun e w' h => ⟨h.1, h.2.symm⟩)) | (go_at_call 78; exact Calls.quiet_of_same ((QM.out _).mono fun e w' h => ⟨h.1, h.2.symm⟩)) | (go_at_call 50; exact Calls.quiet_of_same ((QL.out _ (below_drewN HX1.out _)).mono fun e w' h => ⟨h.1, h.2.symm⟩)) | (go_at_call 48; exact Calls.quiet_of_same ((QT.out _).mono fun e w' h => ⟨h.1, h.2.symm⟩))))
        go_wp2_with fail
        go_ret
        exact bools HF.out.symm (below_drewN HX1.out _)
      ·
        exfalso
        have h1 := HBS.out
        unfold BM.isStamp at h1
        simp [h0, HBV.out] at h1
    | false =>
      go_enter Try.func49, Try.ntmps49
      go_wp2_with fail
      refine (QP.out _).mono ?_
      rintro e w1 ⟨rfl, hb⟩
      have HX1 := Lib.hid (below_on HX.out hb)
      have HK1 := Lib.hid ((Mod.of_below hb []).whole HK.out (by simp))
      clear hb c2
      obtain ⟨c0', c1', c2', c3', c4', c5'⟩ := cs6BkW2 HK1.out
      go_wp2_with (go_at_call 52; refine (QV.out _ HX1.out).mono ?_; rintro e w2 ⟨rfl, rfl⟩)
      go_quiet ((first | (go_at_call 51; exact Calls.quiet_of_same ((QC.out _).mono fun e w' h => ⟨h.1, h.2.symm⟩)) | (go_at_call 78; exact Calls.quiet_of_same ((QM.out _).mono fun e w' h => ⟨h.1, h.2.symm⟩)) | (go_at_call 50; exact Calls.quiet_of_same ((QL.out _ (below_drewN HX1.out _)).mono fun e w' h => ⟨h.1, h.2.symm⟩)) | (go_at_call 48; exact Calls.quiet_of_same ((QT.out _).mono fun e w' h => ⟨h.1, h.2.symm⟩))))
      go_wp2_with fail
      go_ret
      exact bools HF.out.symm (below_drewN HX1.out _)
  subst es
  by_cases el : g.id ≤ BM.last g.stamp
  rotate_left
  ·
    have HF := Lib.hid (show BM.okGr g = false from by
      unfold BM.okGr WM.node
      rw [HBP.out, HBS.out]
      simp [Eid.out, eh0, eh8, Em.out, el])
    have dl : decide (g.id ≤ BM.last g.stamp) = false := decide_eq_false el
    clear el
    cases bv with
    | true =>
      by_cases h0 : g.stamp = []
      ·
        exfalso
        have h1 := HBS.out
        unfold BM.isStamp at h1
        simp [h0, HBV.out] at h1
      · have hp0 : 0 < g.stamp.length := List.length_pos_iff.2 h0
        have hp2 : decide (0 < g.stamp.length) = true := decide_eq_true hp0
        clear h0
        go_enter Try.func49, Try.ntmps49
        go_wp2_with fail
        refine (QP.out _).mono ?_
        rintro e w1 ⟨rfl, hb⟩
        have HX1 := Lib.hid (below_on HX.out hb)
        have HK1 := Lib.hid ((Mod.of_below hb []).whole HK.out (by simp))
        clear hb c2
        obtain ⟨c0', c1', c2', c3', c4', c5'⟩ := cs6BkW2 HK1.out
        go_wp2_with (go_at_call 52; refine (QV.out _ HX1.out).mono ?_; rintro e w2 ⟨rfl, rfl⟩)
        go_quiet ((first | (go_at_call 51; exact Calls.quiet_of_same ((QC.out _).mono fun e w' h => ⟨h.1, h.2.symm⟩)) | (go_at_call 78; exact Calls.quiet_of_same ((QM.out _).mono fun e w' h => ⟨h.1, h.2.symm⟩)) | (go_at_call 50; exact Calls.quiet_of_same ((QL.out _ (below_drewN HX1.out _)).mono fun e w' h => ⟨h.1, h.2.symm⟩)) | (go_at_call 48; exact Calls.quiet_of_same ((QT.out _).mono fun e w' h => ⟨h.1, h.2.symm⟩))))
        go_wp2_with fail
        go_ret
        exact bools HF.out.symm (below_drewN HX1.out _)
    | false =>
      exfalso
      have h1 := HBS.out
      unfold BM.isStamp at h1
      rw [HBV.out] at h1
      simp at h1
  have dl : decide (g.id ≤ BM.last g.stamp) = true := decide_eq_true el
  have El := Lib.hid el
  clear el
  by_cases et : TM.legal g.term = true
  rotate_left
  ·
    have HF := Lib.hid (show BM.okGr g = false from by
      unfold BM.okGr WM.node
      rw [HBP.out, HBS.out]
      simp [Eid.out, eh0, eh8, Em.out, El.out, et])
    rw [show TM.legal g.term = false from by simpa using et] at QT
    clear et
    cases bv with
    | true =>
      by_cases h0 : g.stamp = []
      ·
        exfalso
        have h1 := HBS.out
        unfold BM.isStamp at h1
        simp [h0, HBV.out] at h1
      · have hp0 : 0 < g.stamp.length := List.length_pos_iff.2 h0
        have hp2 : decide (0 < g.stamp.length) = true := decide_eq_true hp0
        clear h0
        go_enter Try.func49, Try.ntmps49
        go_wp2_with fail
        refine (QP.out _).mono ?_
        rintro e w1 ⟨rfl, hb⟩
        have HX1 := Lib.hid (below_on HX.out hb)
        have HK1 := Lib.hid ((Mod.of_below hb []).whole HK.out (by simp))
        clear hb c2
        obtain ⟨c0', c1', c2', c3', c4', c5'⟩ := cs6BkW2 HK1.out
        go_wp2_with (go_at_call 52; refine (QV.out _ HX1.out).mono ?_; rintro e w2 ⟨rfl, rfl⟩)
        go_quiet ((first | (go_at_call 51; exact Calls.quiet_of_same ((QC.out _).mono fun e w' h => ⟨h.1, h.2.symm⟩)) | (go_at_call 78; exact Calls.quiet_of_same ((QM.out _).mono fun e w' h => ⟨h.1, h.2.symm⟩)) | (go_at_call 50; exact Calls.quiet_of_same ((QL.out _ (below_drewN HX1.out _)).mono fun e w' h => ⟨h.1, h.2.symm⟩)) | (go_at_call 48; exact Calls.quiet_of_same ((QT.out _).mono fun e w' h => ⟨h.1, h.2.symm⟩))))
        go_wp2_with fail
        go_ret
        exact bools HF.out.symm (below_drewN HX1.out _)
    | false =>
      exfalso
      have h1 := HBS.out
      unfold BM.isStamp at h1
      rw [HBV.out] at h1
      simp at h1
  rw [et] at QT
  have Et := Lib.hid et
  clear et
  have HF := Lib.hid (show BM.okGr g = true from by
    unfold BM.okGr WM.node
    rw [HBP.out, HBS.out]
    simp [Eid.out, eh0, eh8, Em.out, El.out, Et.out])
  cases bv with
  | true =>
    by_cases h0 : g.stamp = []
    ·
      exfalso
      have h1 := HBS.out
      unfold BM.isStamp at h1
      simp [h0, HBV.out] at h1
    · have hp0 : 0 < g.stamp.length := List.length_pos_iff.2 h0
      have hp2 : decide (0 < g.stamp.length) = true := decide_eq_true hp0
      clear h0
      go_enter Try.func49, Try.ntmps49
      go_wp2_with fail
      refine (QP.out _).mono ?_
      rintro e w1 ⟨rfl, hb⟩
      have HX1 := Lib.hid (below_on HX.out hb)
      have HK1 := Lib.hid ((Mod.of_below hb []).whole HK.out (by simp))
      clear hb c2
      obtain ⟨c0', c1', c2', c3', c4', c5'⟩ := cs6BkW2 HK1.out
      go_wp2_with (go_at_call 52; refine (QV.out _ HX1.out).mono ?_; rintro e w2 ⟨rfl, rfl⟩)
      go_quiet ((first | (go_at_call 51; exact Calls.quiet_of_same ((QC.out _).mono fun e w' h => ⟨h.1, h.2.symm⟩)) | (go_at_call 78; exact Calls.quiet_of_same ((QM.out _).mono fun e w' h => ⟨h.1, h.2.symm⟩)) | (go_at_call 50; exact Calls.quiet_of_same ((QL.out _ (below_drewN HX1.out _)).mono fun e w' h => ⟨h.1, h.2.symm⟩)) | (go_at_call 48; exact Calls.quiet_of_same ((QT.out _).mono fun e w' h => ⟨h.1, h.2.symm⟩))))
      go_wp2_with fail
      go_ret
      exact bools HF.out.symm (below_drewN HX1.out _)
  | false =>
    exfalso
    have h1 := HBS.out
    unfold BM.isStamp at h1
    rw [HBV.out] at h1
    simp at h1
end Go.Proofs.Ytboflkadabagfab
