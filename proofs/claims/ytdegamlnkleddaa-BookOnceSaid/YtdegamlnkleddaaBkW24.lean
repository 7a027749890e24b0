/- What an end leaves. -/
import Derived.Test.YtdegamlnkleddaaBkW23
import Derived.OrdersHeld
namespace Go.Proofs.Ytdegamlnkleddaa
open Go.RowKit
open BM (Gr Rc Bk g0 r0 b0)
set_option linter.unusedVariables false
set_option linter.unusedSimpArgs false
set_option maxRecDepth 100000
set_option maxHeartbeats 8000000 in
theorem b6 {A A2 : Option Addr} {c c2 : Nat} (v : Value) (b : Bk) (r : Rc) (w : World) (hb : FitB w v b) (hr : FitR w (.slice A r.g.stamp.length c) (.slice A2 r.stamp.length c2) r) (hok : BM.okBk b = true) (hk : r.kind = 6) (hth : BM.there r.id b.gs = true) :
    Calls Try.prog 34 #[.agg (four b v), .agg (twelve r (.slice A r.g.stamp.length c) (.slice A2 r.stamp.length c2))] w (BkPost w (BM.behind b r)) := by
  have hH : w.heap.size + 1 = (w.alloc (.cells (four b v) 25)).heap.size := by simp
  have hH2 : w.heap.size + 1 + 1 = ((w.alloc (.cells (four b v) 25)).alloc (.cells (twelve r (.slice A r.g.stamp.length c) (.slice A2 r.stamp.length c2)) 32)).heap.size := by simp
  have HX := Lib.hid ((((Below.refl _ w).alloc (Nat.le_refl _) (.cells (four b v) 25)).alloc (by simp) (.cells (twelve r (.slice A r.g.stamp.length c) (.slice A2 r.stamp.length c2)) 32)).alloc (by simp; omega) (.cells z4 25))
  have HB := Lib.hid (hb.below HX.out)
  have HKB := Lib.hid (((Whole.new w 25 (four b v)).alloc (.cells (twelve r (.slice A r.g.stamp.length c) (.slice A2 r.stamp.length c2)) 32)).alloc (.cells z4 25))
  have HKR := Lib.hid (show Whole (((w.alloc (.cells (four b v) 25)).alloc (.cells (twelve r (.slice A r.g.stamp.length c) (.slice A2 r.stamp.length c2)) 32)).alloc (.cells z4 25)) (w.heap.size + 1) 32 (twelve r (.slice A r.g.stamp.length c) (.slice A2 r.stamp.length c2)) from by rw [hH]; exact (Whole.new _ _ _).alloc _)
  have HKZ := Lib.hid (show Whole (((w.alloc (.cells (four b v) 25)).alloc (.cells (twelve r (.slice A r.g.stamp.length c) (.slice A2 r.stamp.length c2)) 32)).alloc (.cells z4 25)) (w.heap.size + 1 + 1) 25 z4 from by rw [hH2]; exact Whole.new _ _ _)
  have HS := Lib.hid (show (((w.alloc (.cells (four b v) 25)).alloc (.cells (twelve r (.slice A r.g.stamp.length c) (.slice A2 r.stamp.length c2)) 32)).alloc (.cells z4 25)).heap.size = w.heap.size + 3 by simp)
  have HP := Lib.hid (BM.okBk_parts hok)
  have HFB := Lib.hid (show In64 b.next ∧ In64 b.boots ∧ In64 b.longest from ⟨hb.next, hb.boots, hb.longest⟩)
  have HFR := Lib.hid hr
  clear hb hr hH hH2
  have HTH := Lib.hid hth
  clear hth
  unfold z4 at HX HB HKB HKR HKZ HS
  obtain ⟨e0, e1, e2, e3⟩ := four_cells HKB.out
  go_enter Try.func34, Try.ntmps34
  go_wp2_with fail
  generalize (((w.alloc (.cells (four b v) 25)).alloc (.cells (twelve r (.slice A r.g.stamp.length c) (.slice A2 r.stamp.length c2)) 32)).alloc (.cells #[.int .i64 0, .int .i64 0, .int .i64 0, .slice none 0 0] 25)) = wa at HX HB HKB HKR HKZ HS e0 e1 e2 e3 ⊢
  refine (b_copiedAll v b.gs wa HB.out.gs (by have := HP.out.2.2.2.1; omega)).mono ?_
  rintro e w1 ⟨B, ps, rfl, hm, ho, hb1⟩
  have HM := Lib.hid hm
  have HKB1 := Lib.hid ((Mod.of_below hb1 []).whole HKB.out (by simp))
  have HT := Lib.hid (head_end hm HS.out HX.out hb1 HKB.out HKR.out HKZ.out ho HFR.out HFB.out)
  clear hm ho hb1 e0 e1 e2 e3 HB HX HKB HKR HKZ HS
  have HKR1 := Lib.hid HT.out.1
  replace HT := Lib.hid HT.out.2
  obtain ⟨e0, e1, e2, e3⟩ := four_cells HKB1.out
  have f0 := HKB1.out.frozen 0
  have f1 := HKB1.out.frozen 1
  have f2 := HKB1.out.frozen 2
  have f3 := HKB1.out.frozen 3
  have c0 : w1.cell? ⟨w.heap.size + 1, 0, none⟩ = some (.int .i64 6) := by rw [← hk]; exact HKR1.out.1.cell 0
  have hk' := Lib.hid hk
  clear hk
  obtain ⟨_, c1, c2', c3, c4, c5, c6, c7, c8, c9, c10, c11⟩ := rec_cells HKR1.out.1
  obtain ⟨⟨z0, z1, z2, z3⟩, g0', g1, g2, g3⟩ := zero_cells HKR1.out.2
  go_wp2_with fail
  have HR := Lib.hid (ok_rise hok)
  have HT1 : Hid (BhSt w (b) (.slice B b.gs.length b.gs.length) r (.slice A r.g.stamp.length c) (.slice A2 r.stamp.length c2) ps ((w1.setCell { block := w.heap.size, off := 3 } (Value.slice B b.gs.length b.gs.length)))) := HT
  clear HT HKB1 HKR1
  clear e0 e1 e2 e3 f0 f1 f2 f3 c0 c1 c2' c3 c4 c5 c6 c7 c8 c9 c10 c11 z0 z1 z2 z3 g0' g1 g2 g3
  generalize (w1.setCell { block := w.heap.size, off := 3 } (Value.slice B b.gs.length b.gs.length)) = w2 at HT1 ⊢
  refine (b_place (.slice B b.gs.length b.gs.length) (b) r.id w2 (HT1.out.bk HM.out) HR.out HFR.out.id (by have := HP.out.2.2.2.1; (try dsimp only); omega)).mono ?_
  rintro e w3 ⟨rfl, hb3⟩
  have HT := Lib.hid (HT1.out.on hb3)
  clear hb3 HT1
  obtain ⟨k, hkk⟩ : ∃ k, k = ahead b.gs r.id := ⟨_, rfl⟩
  have HKK := Lib.hid hkk
  have HKL := Lib.hid (show k ≤ b.gs.length by rw [hkk]; exact ahead_le _ _)
  rw [← hkk]
  clear hkk
  obtain ⟨e0, e1, e2, e3⟩ := four_cells HT.out.kb
  have f0 := HT.out.kb.frozen 0
  have f1 := HT.out.kb.frozen 1
  have f2 := HT.out.kb.frozen 2
  have f3 := HT.out.kb.frozen 3
  obtain ⟨c0, c1, c2', c3, c4, c5, c6, c7, c8, c9, c10, c11⟩ := rec_cells HT.out.kr
  obtain ⟨⟨z0, z1, z2, z3⟩, g0', g1, g2, g3⟩ := zero_cells HT.out.kz
  have jw : wrap64 ((k : Int) + 1) = (k : Int) + 1 := by have := HKL.out; have := HP.out.2.2.2.1; unfold wrap64; omega
  go_wp2_with fail
  have hl : ps.length = b.gs.length := by rw [← HM.out, List.length_map]
  obtain ⟨a, ha, _⟩ := there_get HR.out HTH.out
  have hkl : k < b.gs.length := by rw [HKK.out]; exact (List.getElem?_eq_some_iff.1 ha).1
  refine (Delete_any w3 hl HT.out.own hkl (by have := HP.out.2.2.2.1; omega) HT.out.size).mono ?_
  rintro e w5 ⟨v7, rfl, ho, hb5⟩
  clear ha hl
  clear e0 e1 e2 e3 f0 f1 f2 f3 c0 c1 c2' c3 c4 c5 c6 c7 c8 c9 c10 c11 z0 z1 z2 z3 g0' g1 g2 g3
  obtain ⟨A7, n7, hv7, _, _⟩ := own_shape ho.row
  subst hv7
  have HK5 := Lib.hid (And.intro (HT.out.kb.low hb5 (by omega)) (And.intro (HT.out.kr.low hb5 (by omega)) (HT.out.kz.low hb5 (by omega))))
  have HT5 := Lib.hid (HT.out.put HFR.out hb5 ho (BM.without r.id b.gs))
  clear ho hb5
  obtain ⟨e0, e1, e2, e3⟩ := four_cells HK5.out.1
  have f0 := HK5.out.1.frozen 0
  have f1 := HK5.out.1.frozen 1
  have f2 := HK5.out.1.frozen 2
  have f3 := HK5.out.1.frozen 3
  obtain ⟨c0, c1, c2', c3, c4, c5, c6, c7, c8, c9, c10, c11⟩ := rec_cells HK5.out.2.1
  obtain ⟨⟨z0, z1, z2, z3⟩, g0', g1, g2, g3⟩ := zero_cells HK5.out.2.2
  clear hkl
  go_wp2_with fail
  refine bodyPost_ret (v := .agg (four ({ b with gs := BM.without r.id b.gs }) (.slice A7 (rem ps k).length n7))) (by simp [results, Try.results34, go_sem, z0, z1, z2, z3, four]) rfl ?_
  have hv : BM.behind b r = { b with gs := BM.without r.id b.gs } := by unfold BM.behind; simp [hk'.out]
  rw [hv]
  exact HT5.out.done (by rw [HKK.out]; exact rem_fst HM.out HR.out HTH.out)
end Go.Proofs.Ytdegamlnkleddaa
