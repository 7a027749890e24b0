/- What a grant leaves. -/
import Derived.Test.YtdegamlnkleddaaBkW25
import Derived.OrdersHeld
namespace Go.Proofs.Ytdegamlnkleddaa
open Go.RowKit
open BM (Gr Rc Bk g0 r0 b0)
set_option linter.unusedVariables false
set_option linter.unusedSimpArgs false
set_option maxRecDepth 100000
set_option maxHeartbeats 8000000 in
theorem b4 {A A2 : Option Addr} {c c2 : Nat} (v : Value) (b : Bk) (r : Rc) (w : World) (hb : FitB w v b) (hr : FitR w (.slice A r.g.stamp.length c) (.slice A2 r.stamp.length c2) r) (hok : BM.okBk b = true) (hk : r.kind = 4) :
    Calls Try.prog 34 #[.agg (four b v), .agg (twelve r (.slice A r.g.stamp.length c) (.slice A2 r.stamp.length c2))] w (BkPost w (BM.behind b r)) := by
  have hH : w.heap.size + 1 = (w.alloc (.cells (four b v) 25)).heap.size := by simp
  have hH2 : w.heap.size + 1 + 1 = ((w.alloc (.cells (four b v) 25)).alloc (.cells (twelve r (.slice A r.g.stamp.length c) (.slice A2 r.stamp.length c2)) 32)).heap.size := by simp
  have HX := Lib.hid ((((Below.refl _ w).alloc (Nat.le_refl _) (.cells (four b v) 25)).alloc (by simp) (.cells (twelve r (.slice A r.g.stamp.length c) (.slice A2 r.stamp.length c2)) 32)).alloc (by simp; omega) (.cells z4 25))
  have HB := Lib.hid (hb.below HX.out)
  have HKB := Lib.hid (((Whole.new w 25 (four b v)).alloc (.cells (twelve r (.slice A r.g.stamp.length c) (.slice A2 r.stamp.length c2)) 32)).alloc (.cells z4 25))
  have HKR := Lib.hid (show Whole (((w.alloc (.cells (four b v) 25)).alloc (.cells (twelve r (.slice A r.g.stamp.length c) (.slice A2 r.stamp.length c2)) 32)).alloc (.cells z4 25)) (w.heap.size + 1) 32 (twelve r (.slice A r.g.stamp.length c) (.slice A2 r.stamp.length c2)) from by rw [hH]; exact (Whole.new _ _ _).alloc _)
  have HKZ := Lib.hid (show Whole (((w.alloc (.cells (four b v) 25)).alloc (.cells (twelve r (.slice A r.g.stamp.length c) (.slice A2 r.stamp.length c2)) 32)).alloc (.cells z4 25)) (w.heap.size + 1 + 1) 25 z4 from by rw [hH2]; exact Whole.new _ _ _)
  have HS := Lib.hid (show (((w.alloc (.cells (four b v) 25)).alloc (.cells (twelve r (.slice A r.g.stamp.length c) (.slice A2 r.stamp.length c2)) 32)).alloc (.cells z4 25)).heap.size = w.heap.size + 3 by simp)
  have HP := Lib.hid (BM.okBk_parts hok)
  have HFB := Lib.hid (show In64 b.next ∧ In64 b.boots ∧ In64 b.longest from ⟨hb.next, hb.boots, hb.longest⟩)
  have HFR := Lib.hid hr
  clear hb hr hH hH2
  unfold z4 at HX HB HKB HKR HKZ HS
  obtain ⟨e0, e1, e2, e3⟩ := four_cells HKB.out
  have jw : wrap64 (b.next + 1) = b.next + 1 := by have := HP.out.1; unfold wrap64; omega
  go_enter Try.func34, Try.ntmps34
  go_wp2_with fail
  generalize (((w.alloc (.cells (four b v) 25)).alloc (.cells (twelve r (.slice A r.g.stamp.length c) (.slice A2 r.stamp.length c2)) 32)).alloc (.cells #[.int .i64 0, .int .i64 0, .int .i64 0, .slice none 0 0] 25)) = wa at HX HB HKB HKR HKZ HS e0 e1 e2 e3 ⊢
  refine (b_copiedAll v b.gs wa HB.out.gs (by have := HP.out.2.2.2.1; omega)).mono ?_
  rintro e w1 ⟨B, ps, rfl, hm, ho, hb1⟩
  have HM := Lib.hid hm
  have HKB1 := Lib.hid ((Mod.of_below hb1 []).whole HKB.out (by simp))
  have HT := Lib.hid (head_end hm HS.out HX.out hb1 HKB.out HKR.out HKZ.out ho HFR.out HFB.out)
  clear hm ho hb1 e0 e1 e2 e3 HB HX HKB HKR HKZ HS
  have HKR1 := Lib.hid HT.out.1
  replace HT := Lib.hid HT.out.2
  obtain ⟨e0, e1, e2, e3⟩ := four_cells HKB1.out
  have f0 := HKB1.out.frozen 0
  have f1 := HKB1.out.frozen 1
  have f2 := HKB1.out.frozen 2
  have f3 := HKB1.out.frozen 3
  have c0 : w1.cell? ⟨w.heap.size + 1, 0, none⟩ = some (.int .i64 4) := by rw [← hk]; exact HKR1.out.1.cell 0
  have hk' := Lib.hid hk
  clear hk
  obtain ⟨_, c1, c2', c3, c4, c5, c6, c7, c8, c9, c10, c11⟩ := rec_cells HKR1.out.1
  obtain ⟨⟨z0, z1, z2, z3⟩, g0', g1, g2, g3⟩ := zero_cells HKR1.out.2
  go_wp2_with fail
  have HT4 := Lib.hid (HT.out.store HFR.out (i := 0) (v := .int .i64 (b.next + 1)) (b' := { b with next := b.next + 1 }) (L' := (.slice B b.gs.length b.gs.length)) rfl HT.out.own ⟨by have := HP.out.1; unfold In64; constructor <;> dsimp only <;> omega, HFB.out.2.1, HFB.out.2.2⟩)
  clear HT
  have HT := HT4
  clear HT4
  have HR := Lib.hid (ok_rise hok)
  have HT1 : Hid (BhSt w ({ b with next := b.next + 1 }) (.slice B b.gs.length b.gs.length) r (.slice A r.g.stamp.length c) (.slice A2 r.stamp.length c2) ps (((w1.setCell { block := w.heap.size, off := 3 } (Value.slice B b.gs.length b.gs.length)).setCell { block := w.heap.size, off := 0 } (Value.int IntKind.i64 (b.next + 1))))) := HT
  clear HT HKB1 HKR1
  clear e0 e1 e2 e3 f0 f1 f2 f3 c0 c1 c2' c3 c4 c5 c6 c7 c8 c9 c10 c11 z0 z1 z2 z3 g0' g1 g2 g3
  generalize ((w1.setCell { block := w.heap.size, off := 3 } (Value.slice B b.gs.length b.gs.length)).setCell { block := w.heap.size, off := 0 } (Value.int IntKind.i64 (b.next + 1))) = w2 at HT1 ⊢
  refine (b_place (.slice B b.gs.length b.gs.length) ({ b with next := b.next + 1 }) r.g.id w2 (HT1.out.bk HM.out) HR.out HFR.out.g.wide.1 (by have := HP.out.2.2.2.1; (try dsimp only); omega)).mono ?_
  rintro e w3 ⟨rfl, hb3⟩
  have HT := Lib.hid (HT1.out.on hb3)
  clear hb3 HT1
  obtain ⟨k, hkk⟩ : ∃ k, k = ahead b.gs r.g.id := ⟨_, rfl⟩
  have HKK := Lib.hid hkk
  have HKL := Lib.hid (show k ≤ b.gs.length by rw [hkk]; exact ahead_le _ _)
  rw [← hkk]
  clear hkk
  obtain ⟨e0, e1, e2, e3⟩ := four_cells HT.out.kb
  have f0 := HT.out.kb.frozen 0
  have f1 := HT.out.kb.frozen 1
  have f2 := HT.out.kb.frozen 2
  have f3 := HT.out.kb.frozen 3
  obtain ⟨c0, c1, c2', c3, c4, c5, c6, c7, c8, c9, c10, c11⟩ := rec_cells HT.out.kr
  obtain ⟨⟨z0, z1, z2, z3⟩, g0', g1, g2, g3⟩ := zero_cells HT.out.kz
  go_wp2_with fail
  have HTd := Lib.hid HT.out.drew
  have HLEN := Lib.hid (show ps.length = b.gs.length by rw [← HM.out, List.length_map])
  clear e0 e1 e2 e3 f0 f1 f2 f3 c0 c1 c2' c3 c4 c5 c6 c7 c8 c9 c10 c11 z0 z1 z2 z3 g0' g1 g2 g3
  refine wp_region_noPanic ?_
  refine wp_region_held_drew (S := fun w2 : World => w2.cell? ⟨w.heap.size + 1, 0, none⟩ = some (.int .i64 r.kind) ∧ w2.cell? ⟨w.heap.size + 1, 1, none⟩ = some (.int .i64 r.g.id) ∧ w2.cell? ⟨w.heap.size + 1, 2, none⟩ = some (.int .i64 r.g.holder) ∧ w2.cell? ⟨w.heap.size + 1, 3, none⟩ = some (.string r.g.path) ∧ w2.cell? ⟨w.heap.size + 1, 4, none⟩ = some (.int .i64 r.g.mode) ∧ w2.cell? ⟨w.heap.size + 1, 5, none⟩ = some (.slice A r.g.stamp.length c) ∧ w2.cell? ⟨w.heap.size + 1, 6, none⟩ = some (.int .i64 r.g.term) ∧ w2.cell? ⟨w.heap.size + 1, 7, none⟩ = some (.int .i64 r.id) ∧ w2.cell? ⟨w.heap.size + 1, 8, none⟩ = some (.slice A2 r.stamp.length c2) ∧ w2.cell? ⟨w.heap.size + 1, 9, none⟩ = some (.int .i64 r.next) ∧ w2.cell? ⟨w.heap.size + 1, 10, none⟩ = some (.int .i64 r.boots) ∧ w2.cell? ⟨w.heap.size + 1, 11, none⟩ = some (.int .i64 r.longest)) (by kernel_rfl) (rec_cells HTd.out.kr) (fun hHeld => ?_)
  generalize w3.drew = wd at HTd hHeld ⊢
  have HS := rec_cells HTd.out.kr
  obtain ⟨e0, e1, e2, e3⟩ := four_cells HTd.out.kb
  have f0 := HTd.out.kb.frozen 0
  have f1 := HTd.out.kb.frozen 1
  have f2 := HTd.out.kb.frozen 2
  have f3 := HTd.out.kb.frozen 3
  obtain ⟨c0, c1, c2', c3, c4, c5, c6, c7, c8, c9, c10, c11⟩ := rec_cells HTd.out.kr
  obtain ⟨⟨z0, z1, z2, z3⟩, g0', g1, g2, g3⟩ := zero_cells HTd.out.kz
  refine wpAnyH_take (i := 0) (oi := { dst := some 52, op := Op.fieldAddr 25 (Operand.tmp 2) 3, type := 0, pos := _, after := #[], guard := none }) (v := ?_) rfl (by kernel_rfl) (by kernel_rfl) (by kernel_rfl) (fun _ _ _ h => h) (Or.inl ⟨by rfl, ?_⟩) hHeld ?_
  rotate_left
  · (intro w hSw; (try dsimp only at hSw); first | (go_simp; done) | (go_simp; with_reducible rfl))
  try simp only [Act.put, List.setIfInBounds_toArray, List.set_cons_zero, List.set_cons_succ]
  refine wpAnyH_take (i := 2) (oi := { dst := some 54, op := Op.move (Operand.tmp 5), type := 3, pos := _, after := #[], guard := none }) (v := ?_) rfl (by kernel_rfl) (by kernel_rfl) (by kernel_rfl) (fun _ _ _ h => h) (Or.inl ⟨by rfl, ?_⟩) hHeld ?_
  rotate_left
  · (intro w hSw; (try dsimp only at hSw); first | (go_simp; done) | (go_simp; with_reducible rfl))
  try simp only [Act.put, List.setIfInBounds_toArray, List.set_cons_zero, List.set_cons_succ]
  refine wpAnyH_take (i := 3) (oi := { dst := some 55, op := Op.fieldAddr 32 (Operand.tmp 3) 1, type := 0, pos := _, after := #[], guard := none }) (v := ?_) rfl (by kernel_rfl) (by kernel_rfl) (by kernel_rfl) (fun _ _ _ h => h) (Or.inl ⟨by rfl, ?_⟩) hHeld ?_
  rotate_left
  · (intro w hSw; (try dsimp only at hSw); first | (go_simp; done) | (go_simp; with_reducible rfl))
  try simp only [Act.put, List.setIfInBounds_toArray, List.set_cons_zero, List.set_cons_succ]
  refine wpAnyH_take (i := 4) (oi := { dst := some 56, op := Op.load 30 (Operand.tmp 55), type := 30, pos := _, after := #[{ on := 3, ground := Ground.data }], guard := none }) (v := ?_) rfl (by kernel_rfl) (by kernel_rfl) (by kernel_rfl) (fun _ _ _ h => h) (Or.inl ⟨by rfl, ?_⟩) hHeld ?_
  rotate_left
  · (intro w hSw; (try dsimp only at hSw); first | (go_simp; done) | (go_simp; with_reducible rfl))
  try simp only [Act.put, List.setIfInBounds_toArray, List.set_cons_zero, List.set_cons_succ]
  refine wpAnyH_ready (rs := [1, 5]) (by kernel_rfl) (by simp) (AllReadyH.cons (o := { dst := some 53, op := Op.load 23 (Operand.tmp 52), type := 23, pos := _, after := #[{ on := 0, ground := Ground.data }], guard := none }) rfl (fun K hK => ?_) (AllReadyH.cons (o := { dst := some 57, op := Op.call { callee := Callee.value (Operand.func 62), args := #[Operand.tmp 56], argTypes := #[30] }, type := 30, pos := _, after := #[{ on := 4, ground := Ground.data }], guard := none }) rfl (fun K hK => ?_) AllReadyH.nil))
  · skip
    go_simp
    refine hK.out _ _ (HS) (fun hHeld => ?_)
    clear hK K
    try simp only [Act.put, List.setIfInBounds_toArray, List.set_cons_zero, List.set_cons_succ]
    refine wpAnyH_ready (rs := [5]) (by kernel_rfl) (by simp) (AllReadyH.cons (o := { dst := some 57, op := Op.call { callee := Callee.value (Operand.func 62), args := #[Operand.tmp 56], argTypes := #[30] }, type := 30, pos := _, after := #[{ on := 4, ground := Ground.data }], guard := none }) rfl (fun K hK => ?_) AllReadyH.nil)
    go_simp
    refine (b_copied (.slice A r.g.stamp.length c) r.g _ HTd.out.fr.g).mono ?_
    rintro e w5 ⟨gv, rfl, ho, hb5⟩
    obtain ⟨A7, n7, hv7, _, _⟩ := own_shape ho
    subst hv7
    have HT5 := Lib.hid (HTd.out.on hb5)
    have HO5 := Lib.hid (own_low ho (show w.heap.size + 3 ≤ _ from HTd.out.size))
    clear ho hb5 HS
    clear e0 e1 e2 e3 f0 f1 f2 f3 c0 c1 c2' c3 c4 c5 c6 c7 c8 c9 c10 c11 z0 z1 z2 z3 g0' g1 g2 g3
    obtain ⟨e0, e1, e2, e3⟩ := four_cells HT5.out.kb
    have f0 := HT5.out.kb.frozen 0
    have f1 := HT5.out.kb.frozen 1
    have f2 := HT5.out.kb.frozen 2
    have f3 := HT5.out.kb.frozen 3
    obtain ⟨c0, c1, c2', c3, c4, c5, c6, c7, c8, c9, c10, c11⟩ := rec_cells HT5.out.kr
    obtain ⟨⟨z0, z1, z2, z3⟩, g0', g1, g2, g3⟩ := zero_cells HT5.out.kz
    have HS := rec_cells HT5.out.kr
    unfold six
    go_simp
    refine hK.out _ _ (HS) (fun hHeld => ?_)
    clear hK K
    try simp only [Act.put, List.setIfInBounds_toArray, List.set_cons_zero, List.set_cons_succ]
    refine wpAnyH_ready (rs := [6]) (by kernel_rfl) (by simp) (AllReadyH.cons (o := { dst := some 58, op := Op.buildSlice 23 1 #[(0, Operand.tmp 57)], type := 23, pos := _, after := #[{ on := 5, ground := Ground.data }], guard := none }) rfl (fun K hK => ?_) AllReadyH.nil)
    go_simp
    have HB6 := Lib.hid ((Below.refl _ w5).alloc (Nat.le_refl _) (.cells #[.int .i64 r.g.id, .int .i64 r.g.holder, .string r.g.path, .int .i64 r.g.mode, .slice A7 r.g.stamp.length n7, .int .i64 r.g.term] 30))
    have HT6 := Lib.hid (HT5.out.on HB6.out)
    have HP6 := Lib.hid (Whole.new w5 30 #[.int .i64 r.g.id, .int .i64 r.g.holder, .string r.g.path, .int .i64 r.g.mode, .slice A7 r.g.stamp.length n7, .int .i64 r.g.term])
    have HO6 := Lib.hid ((Mod.of_below HB6.out []).own HO5.out (by simp))
    clear HB6 HO5 HT5 HS
    clear e0 e1 e2 e3 f0 f1 f2 f3 c0 c1 c2' c3 c4 c5 c6 c7 c8 c9 c10 c11 z0 z1 z2 z3 g0' g1 g2 g3
    have HS := rec_cells HT6.out.kr
    refine hK.out _ _ (HS) (fun hHeld => ?_)
    clear hK K HS
    try simp only [Act.put, List.setIfInBounds_toArray, List.set_cons_zero, List.set_cons_succ]
    generalize w5.alloc (.cells #[.int .i64 r.g.id, .int .i64 r.g.holder, .string r.g.path, .int .i64 r.g.mode, .slice A7 r.g.stamp.length n7, .int .i64 r.g.term] 30) = w6 at HT6 HP6 HO6 hHeld ⊢
    have HS := rec_cells HT6.out.kr
    obtain ⟨e0, e1, e2, e3⟩ := four_cells HT6.out.kb
    have f0 := HT6.out.kb.frozen 0
    have f1 := HT6.out.kb.frozen 1
    have f2 := HT6.out.kb.frozen 2
    have f3 := HT6.out.kb.frozen 3
    obtain ⟨c0, c1, c2', c3, c4, c5, c6, c7, c8, c9, c10, c11⟩ := rec_cells HT6.out.kr
    obtain ⟨⟨z0, z1, z2, z3⟩, g0', g1, g2, g3⟩ := zero_cells HT6.out.kz
    refine wpAnyH_ready (rs := [7]) (by kernel_rfl) (by simp) (AllReadyH.cons (o := { dst := some 59, op := Op.call { callee := Callee.value (Operand.func 70), args := #[Operand.tmp 53, Operand.tmp 54, Operand.tmp 58], argTypes := #[23, 3, 23] }, type := 23, pos := _, after := #[{ on := 1, ground := Ground.data }, { on := 2, ground := Ground.data }, { on := 6, ground := Ground.data }, { on := 5, ground := Ground.chain }], guard := none }) rfl (fun K hK => ?_) AllReadyH.nil)
    go_simp
    refine (Insert_any (base := w.heap.size + 3) w6 HLEN.out HT6.out.own HKL.out HP6.out (by have := HP.out.2.2.2.1; omega) HT6.out.size HO6.out ⟨HFR.out.g.wide, HFR.out.g.hd.parts⟩).mono ?_
    rintro e w7 ⟨v7, rfl, ho, hb7⟩
    obtain ⟨A8, n8, hv8, _, _⟩ := own_shape ho.row
    subst hv8
    clear e0 e1 e2 e3 f0 f1 f2 f3 c0 c1 c2' c3 c4 c5 c6 c7 c8 c9 c10 c11 z0 z1 z2 z3 g0' g1 g2 g3
    have HK7 := Lib.hid (And.intro (HT6.out.kb.low hb7 (by omega)) (And.intro (HT6.out.kr.low hb7 (by omega)) (HT6.out.kz.low hb7 (by omega))))
    have HT9 := Lib.hid (HT6.out.put HFR.out hb7 ho (BM.ins r.g b.gs))
    clear ho hb7 HS
    obtain ⟨e0, e1, e2, e3⟩ := four_cells HK7.out.1
    have f0 := HK7.out.1.frozen 0
    have f1 := HK7.out.1.frozen 1
    have f2 := HK7.out.1.frozen 2
    have f3 := HK7.out.1.frozen 3
    obtain ⟨c0, c1, c2', c3, c4, c5, c6, c7, c8, c9, c10, c11⟩ := rec_cells HK7.out.2.1
    obtain ⟨⟨z0, z1, z2, z3⟩, g0', g1, g2, g3⟩ := zero_cells HK7.out.2.2
    have HS := rec_cells HK7.out.2.1
    go_simp
    refine hK.out _ _ (HS) (fun hHeld => ?_)
    clear hK K
    try simp only [Act.put, List.setIfInBounds_toArray, List.set_cons_zero, List.set_cons_succ]
    refine wpAnyH_take (i := 8) (oi := { dst := some 60, op := Op.fieldAddr 25 (Operand.tmp 2) 3, type := 0, pos := _, after := #[{ on := 0, ground := Ground.phase }, { on := 1, ground := Ground.phase }, { on := 2, ground := Ground.phase }, { on := 3, ground := Ground.phase }, { on := 4, ground := Ground.phase }, { on := 5, ground := Ground.phase }, { on := 6, ground := Ground.phase }, { on := 7, ground := Ground.phase }], guard := none }) (v := ?_) rfl (by kernel_rfl) (by kernel_rfl) (by kernel_rfl) (fun _ _ _ h => h) (Or.inl ⟨by rfl, ?_⟩) hHeld ?_
    rotate_left
    · (intro w hSw; (try dsimp only at hSw); first | (go_simp; done) | (go_simp; with_reducible rfl))
    try simp only [Act.put, List.setIfInBounds_toArray, List.set_cons_zero, List.set_cons_succ]
    refine wpAnyH_ready (rs := [9]) (by kernel_rfl) (by simp) (AllReadyH.cons (o := { dst := none, op := Op.store 23 (Operand.tmp 60) (Operand.tmp 59), type := 0, pos := _, after := #[{ on := 8, ground := Ground.data }, { on := 7, ground := Ground.data }, { on := 7, ground := Ground.chain }, { on := 0, ground := Ground.phase }, { on := 1, ground := Ground.phase }, { on := 2, ground := Ground.phase }, { on := 3, ground := Ground.phase }, { on := 4, ground := Ground.phase }, { on := 5, ground := Ground.phase }, { on := 6, ground := Ground.phase }, { on := 7, ground := Ground.phase }], guard := none }) rfl (fun K hK => ?_) AllReadyH.nil)
    go_simp
    clear HS
    have HS := rec_cells HT9.out.kr
    refine hK.out _ _ (HS) (fun hHeld => ?_)
    clear hK K HS hHeld HK7
    clear e0 e1 e2 e3 f0 f1 f2 f3 c0 c1 c2' c3 c4 c5 c6 c7 c8 c9 c10 c11 z0 z1 z2 z3 g0' g1 g2 g3
    try simp only [Act.put, List.setIfInBounds_toArray, List.set_cons_zero, List.set_cons_succ]
    refine wpAnyH_done (by kernel_rfl) ?_ _
    refine NoPanic.normal ?_
    generalize w7.setCell ⟨w.heap.size, 3, none⟩ (.slice A8 (put ps k (r.g, .slice A7 r.g.stamp.length n7)).length n8) = w9 at HT9 ⊢
    obtain ⟨e0, e1, e2, e3⟩ := four_cells HT9.out.kb
    have f0 := HT9.out.kb.frozen 0
    have f1 := HT9.out.kb.frozen 1
    have f2 := HT9.out.kb.frozen 2
    have f3 := HT9.out.kb.frozen 3
    obtain ⟨c0, c1, c2', c3, c4, c5, c6, c7, c8, c9, c10, c11⟩ := rec_cells HT9.out.kr
    obtain ⟨⟨z0, z1, z2, z3⟩, g0', g1, g2, g3⟩ := zero_cells HT9.out.kz
    go_wp2_with fail
    refine bodyPost_ret (v := .agg (four ({ b with gs := BM.ins r.g b.gs, next := b.next + 1 }) (.slice A8 (put ps k (r.g, .slice A7 r.g.stamp.length n7)).length n8))) (by simp [results, Try.results34, go_sem, z0, z1, z2, z3, four]) rfl ?_
    have hv : BM.behind b r = { b with gs := BM.ins r.g b.gs, next := b.next + 1 } := by unfold BM.behind; simp [hk'.out]
    rw [hv]
    exact HT9.out.done (by rw [HKK.out]; exact put_fst HM.out r.g _)
  · skip
    go_simp
    refine (b_copied (.slice A r.g.stamp.length c) r.g _ HTd.out.fr.g).mono ?_
    rintro e w5 ⟨gv, rfl, ho, hb5⟩
    obtain ⟨A7, n7, hv7, _, _⟩ := own_shape ho
    subst hv7
    have HT5 := Lib.hid (HTd.out.on hb5)
    have HO5 := Lib.hid (own_low ho (show w.heap.size + 3 ≤ _ from HTd.out.size))
    clear ho hb5 HS
    clear e0 e1 e2 e3 f0 f1 f2 f3 c0 c1 c2' c3 c4 c5 c6 c7 c8 c9 c10 c11 z0 z1 z2 z3 g0' g1 g2 g3
    obtain ⟨e0, e1, e2, e3⟩ := four_cells HT5.out.kb
    have f0 := HT5.out.kb.frozen 0
    have f1 := HT5.out.kb.frozen 1
    have f2 := HT5.out.kb.frozen 2
    have f3 := HT5.out.kb.frozen 3
    obtain ⟨c0, c1, c2', c3, c4, c5, c6, c7, c8, c9, c10, c11⟩ := rec_cells HT5.out.kr
    obtain ⟨⟨z0, z1, z2, z3⟩, g0', g1, g2, g3⟩ := zero_cells HT5.out.kz
    have HS := rec_cells HT5.out.kr
    unfold six
    go_simp
    refine hK.out _ _ (HS) (fun hHeld => ?_)
    clear hK K
    try simp only [Act.put, List.setIfInBounds_toArray, List.set_cons_zero, List.set_cons_succ]
    refine wpAnyH_ready (rs := [1, 6]) (by kernel_rfl) (by simp) (AllReadyH.cons (o := { dst := some 53, op := Op.load 23 (Operand.tmp 52), type := 23, pos := _, after := #[{ on := 0, ground := Ground.data }], guard := none }) rfl (fun K hK => ?_) (AllReadyH.cons (o := { dst := some 58, op := Op.buildSlice 23 1 #[(0, Operand.tmp 57)], type := 23, pos := _, after := #[{ on := 5, ground := Ground.data }], guard := none }) rfl (fun K hK => ?_) AllReadyH.nil))
    · skip
      go_simp
      refine hK.out _ _ (HS) (fun hHeld => ?_)
      clear hK K
      try simp only [Act.put, List.setIfInBounds_toArray, List.set_cons_zero, List.set_cons_succ]
      refine wpAnyH_ready (rs := [6]) (by kernel_rfl) (by simp) (AllReadyH.cons (o := { dst := some 58, op := Op.buildSlice 23 1 #[(0, Operand.tmp 57)], type := 23, pos := _, after := #[{ on := 5, ground := Ground.data }], guard := none }) rfl (fun K hK => ?_) AllReadyH.nil)
      go_simp
      have HB6 := Lib.hid ((Below.refl _ w5).alloc (Nat.le_refl _) (.cells #[.int .i64 r.g.id, .int .i64 r.g.holder, .string r.g.path, .int .i64 r.g.mode, .slice A7 r.g.stamp.length n7, .int .i64 r.g.term] 30))
      have HT6 := Lib.hid (HT5.out.on HB6.out)
      have HP6 := Lib.hid (Whole.new w5 30 #[.int .i64 r.g.id, .int .i64 r.g.holder, .string r.g.path, .int .i64 r.g.mode, .slice A7 r.g.stamp.length n7, .int .i64 r.g.term])
      have HO6 := Lib.hid ((Mod.of_below HB6.out []).own HO5.out (by simp))
      clear HB6 HO5 HT5 HS
      clear e0 e1 e2 e3 f0 f1 f2 f3 c0 c1 c2' c3 c4 c5 c6 c7 c8 c9 c10 c11 z0 z1 z2 z3 g0' g1 g2 g3
      have HS := rec_cells HT6.out.kr
      refine hK.out _ _ (HS) (fun hHeld => ?_)
      clear hK K HS
      try simp only [Act.put, List.setIfInBounds_toArray, List.set_cons_zero, List.set_cons_succ]
      generalize w5.alloc (.cells #[.int .i64 r.g.id, .int .i64 r.g.holder, .string r.g.path, .int .i64 r.g.mode, .slice A7 r.g.stamp.length n7, .int .i64 r.g.term] 30) = w6 at HT6 HP6 HO6 hHeld ⊢
      have HS := rec_cells HT6.out.kr
      obtain ⟨e0, e1, e2, e3⟩ := four_cells HT6.out.kb
      have f0 := HT6.out.kb.frozen 0
      have f1 := HT6.out.kb.frozen 1
      have f2 := HT6.out.kb.frozen 2
      have f3 := HT6.out.kb.frozen 3
      obtain ⟨c0, c1, c2', c3, c4, c5, c6, c7, c8, c9, c10, c11⟩ := rec_cells HT6.out.kr
      obtain ⟨⟨z0, z1, z2, z3⟩, g0', g1, g2, g3⟩ := zero_cells HT6.out.kz
      refine wpAnyH_ready (rs := [7]) (by kernel_rfl) (by simp) (AllReadyH.cons (o := { dst := some 59, op := Op.call { callee := Callee.value (Operand.func 70), args := #[Operand.tmp 53, Operand.tmp 54, Operand.tmp 58], argTypes := #[23, 3, 23] }, type := 23, pos := _, after := #[{ on := 1, ground := Ground.data }, { on := 2, ground := Ground.data }, { on := 6, ground := Ground.data }, { on := 5, ground := Ground.chain }], guard := none }) rfl (fun K hK => ?_) AllReadyH.nil)
      go_simp
      refine (Insert_any (base := w.heap.size + 3) w6 HLEN.out HT6.out.own HKL.out HP6.out (by have := HP.out.2.2.2.1; omega) HT6.out.size HO6.out ⟨HFR.out.g.wide, HFR.out.g.hd.parts⟩).mono ?_
      rintro e w7 ⟨v7, rfl, ho, hb7⟩
      obtain ⟨A8, n8, hv8, _, _⟩ := own_shape ho.row
      subst hv8
      clear e0 e1 e2 e3 f0 f1 f2 f3 c0 c1 c2' c3 c4 c5 c6 c7 c8 c9 c10 c11 z0 z1 z2 z3 g0' g1 g2 g3
      have HK7 := Lib.hid (And.intro (HT6.out.kb.low hb7 (by omega)) (And.intro (HT6.out.kr.low hb7 (by omega)) (HT6.out.kz.low hb7 (by omega))))
      have HT9 := Lib.hid (HT6.out.put HFR.out hb7 ho (BM.ins r.g b.gs))
      clear ho hb7 HS
      obtain ⟨e0, e1, e2, e3⟩ := four_cells HK7.out.1
      have f0 := HK7.out.1.frozen 0
      have f1 := HK7.out.1.frozen 1
      have f2 := HK7.out.1.frozen 2
      have f3 := HK7.out.1.frozen 3
      obtain ⟨c0, c1, c2', c3, c4, c5, c6, c7, c8, c9, c10, c11⟩ := rec_cells HK7.out.2.1
      obtain ⟨⟨z0, z1, z2, z3⟩, g0', g1, g2, g3⟩ := zero_cells HK7.out.2.2
      have HS := rec_cells HK7.out.2.1
      go_simp
      refine hK.out _ _ (HS) (fun hHeld => ?_)
      clear hK K
      try simp only [Act.put, List.setIfInBounds_toArray, List.set_cons_zero, List.set_cons_succ]
      refine wpAnyH_take (i := 8) (oi := { dst := some 60, op := Op.fieldAddr 25 (Operand.tmp 2) 3, type := 0, pos := _, after := #[{ on := 0, ground := Ground.phase }, { on := 1, ground := Ground.phase }, { on := 2, ground := Ground.phase }, { on := 3, ground := Ground.phase }, { on := 4, ground := Ground.phase }, { on := 5, ground := Ground.phase }, { on := 6, ground := Ground.phase }, { on := 7, ground := Ground.phase }], guard := none }) (v := ?_) rfl (by kernel_rfl) (by kernel_rfl) (by kernel_rfl) (fun _ _ _ h => h) (Or.inl ⟨by rfl, ?_⟩) hHeld ?_
      rotate_left
      · (intro w hSw; (try dsimp only at hSw); first | (go_simp; done) | (go_simp; with_reducible rfl))
      try simp only [Act.put, List.setIfInBounds_toArray, List.set_cons_zero, List.set_cons_succ]
      refine wpAnyH_ready (rs := [9]) (by kernel_rfl) (by simp) (AllReadyH.cons (o := { dst := none, op := Op.store 23 (Operand.tmp 60) (Operand.tmp 59), type := 0, pos := _, after := #[{ on := 8, ground := Ground.data }, { on := 7, ground := Ground.data }, { on := 7, ground := Ground.chain }, { on := 0, ground := Ground.phase }, { on := 1, ground := Ground.phase }, { on := 2, ground := Ground.phase }, { on := 3, ground := Ground.phase }, { on := 4, ground := Ground.phase }, { on := 5, ground := Ground.phase }, { on := 6, ground := Ground.phase }, { on := 7, ground := Ground.phase }], guard := none }) rfl (fun K hK => ?_) AllReadyH.nil)
      go_simp
      clear HS
      have HS := rec_cells HT9.out.kr
      refine hK.out _ _ (HS) (fun hHeld => ?_)
      clear hK K HS hHeld HK7
      clear e0 e1 e2 e3 f0 f1 f2 f3 c0 c1 c2' c3 c4 c5 c6 c7 c8 c9 c10 c11 z0 z1 z2 z3 g0' g1 g2 g3
      try simp only [Act.put, List.setIfInBounds_toArray, List.set_cons_zero, List.set_cons_succ]
      refine wpAnyH_done (by kernel_rfl) ?_ _
      refine NoPanic.normal ?_
      generalize w7.setCell ⟨w.heap.size, 3, none⟩ (.slice A8 (put ps k (r.g, .slice A7 r.g.stamp.length n7)).length n8) = w9 at HT9 ⊢
      obtain ⟨e0, e1, e2, e3⟩ := four_cells HT9.out.kb
      have f0 := HT9.out.kb.frozen 0
      have f1 := HT9.out.kb.frozen 1
      have f2 := HT9.out.kb.frozen 2
      have f3 := HT9.out.kb.frozen 3
      obtain ⟨c0, c1, c2', c3, c4, c5, c6, c7, c8, c9, c10, c11⟩ := rec_cells HT9.out.kr
      obtain ⟨⟨z0, z1, z2, z3⟩, g0', g1, g2, g3⟩ := zero_cells HT9.out.kz
      go_wp2_with fail
      refine bodyPost_ret (v := .agg (four ({ b with gs := BM.ins r.g b.gs, next := b.next + 1 }) (.slice A8 (put ps k (r.g, .slice A7 r.g.stamp.length n7)).length n8))) (by simp [results, Try.results34, go_sem, z0, z1, z2, z3, four]) rfl ?_
      have hv : BM.behind b r = { b with gs := BM.ins r.g b.gs, next := b.next + 1 } := by unfold BM.behind; simp [hk'.out]
      rw [hv]
      exact HT9.out.done (by rw [HKK.out]; exact put_fst HM.out r.g _)
    · skip
      go_simp
      have HB6 := Lib.hid ((Below.refl _ w5).alloc (Nat.le_refl _) (.cells #[.int .i64 r.g.id, .int .i64 r.g.holder, .string r.g.path, .int .i64 r.g.mode, .slice A7 r.g.stamp.length n7, .int .i64 r.g.term] 30))
      have HT6 := Lib.hid (HT5.out.on HB6.out)
      have HP6 := Lib.hid (Whole.new w5 30 #[.int .i64 r.g.id, .int .i64 r.g.holder, .string r.g.path, .int .i64 r.g.mode, .slice A7 r.g.stamp.length n7, .int .i64 r.g.term])
      have HO6 := Lib.hid ((Mod.of_below HB6.out []).own HO5.out (by simp))
      clear HB6 HO5 HT5 HS
      clear e0 e1 e2 e3 f0 f1 f2 f3 c0 c1 c2' c3 c4 c5 c6 c7 c8 c9 c10 c11 z0 z1 z2 z3 g0' g1 g2 g3
      have HS := rec_cells HT6.out.kr
      refine hK.out _ _ (HS) (fun hHeld => ?_)
      clear hK K HS
      try simp only [Act.put, List.setIfInBounds_toArray, List.set_cons_zero, List.set_cons_succ]
      generalize w5.alloc (.cells #[.int .i64 r.g.id, .int .i64 r.g.holder, .string r.g.path, .int .i64 r.g.mode, .slice A7 r.g.stamp.length n7, .int .i64 r.g.term] 30) = w6 at HT6 HP6 HO6 hHeld ⊢
      have HS := rec_cells HT6.out.kr
      obtain ⟨e0, e1, e2, e3⟩ := four_cells HT6.out.kb
      have f0 := HT6.out.kb.frozen 0
      have f1 := HT6.out.kb.frozen 1
      have f2 := HT6.out.kb.frozen 2
      have f3 := HT6.out.kb.frozen 3
      obtain ⟨c0, c1, c2', c3, c4, c5, c6, c7, c8, c9, c10, c11⟩ := rec_cells HT6.out.kr
      obtain ⟨⟨z0, z1, z2, z3⟩, g0', g1, g2, g3⟩ := zero_cells HT6.out.kz
      refine wpAnyH_ready (rs := [1]) (by kernel_rfl) (by simp) (AllReadyH.cons (o := { dst := some 53, op := Op.load 23 (Operand.tmp 52), type := 23, pos := _, after := #[{ on := 0, ground := Ground.data }], guard := none }) rfl (fun K hK => ?_) AllReadyH.nil)
      go_simp
      refine hK.out _ _ (HS) (fun hHeld => ?_)
      clear hK K
      try simp only [Act.put, List.setIfInBounds_toArray, List.set_cons_zero, List.set_cons_succ]
      refine wpAnyH_ready (rs := [7]) (by kernel_rfl) (by simp) (AllReadyH.cons (o := { dst := some 59, op := Op.call { callee := Callee.value (Operand.func 70), args := #[Operand.tmp 53, Operand.tmp 54, Operand.tmp 58], argTypes := #[23, 3, 23] }, type := 23, pos := _, after := #[{ on := 1, ground := Ground.data }, { on := 2, ground := Ground.data }, { on := 6, ground := Ground.data }, { on := 5, ground := Ground.chain }], guard := none }) rfl (fun K hK => ?_) AllReadyH.nil)
      go_simp
      refine (Insert_any (base := w.heap.size + 3) w6 HLEN.out HT6.out.own HKL.out HP6.out (by have := HP.out.2.2.2.1; omega) HT6.out.size HO6.out ⟨HFR.out.g.wide, HFR.out.g.hd.parts⟩).mono ?_
      rintro e w7 ⟨v7, rfl, ho, hb7⟩
      obtain ⟨A8, n8, hv8, _, _⟩ := own_shape ho.row
      subst hv8
      clear e0 e1 e2 e3 f0 f1 f2 f3 c0 c1 c2' c3 c4 c5 c6 c7 c8 c9 c10 c11 z0 z1 z2 z3 g0' g1 g2 g3
      have HK7 := Lib.hid (And.intro (HT6.out.kb.low hb7 (by omega)) (And.intro (HT6.out.kr.low hb7 (by omega)) (HT6.out.kz.low hb7 (by omega))))
      have HT9 := Lib.hid (HT6.out.put HFR.out hb7 ho (BM.ins r.g b.gs))
      clear ho hb7 HS
      obtain ⟨e0, e1, e2, e3⟩ := four_cells HK7.out.1
      have f0 := HK7.out.1.frozen 0
      have f1 := HK7.out.1.frozen 1
      have f2 := HK7.out.1.frozen 2
      have f3 := HK7.out.1.frozen 3
      obtain ⟨c0, c1, c2', c3, c4, c5, c6, c7, c8, c9, c10, c11⟩ := rec_cells HK7.out.2.1
      obtain ⟨⟨z0, z1, z2, z3⟩, g0', g1, g2, g3⟩ := zero_cells HK7.out.2.2
      have HS := rec_cells HK7.out.2.1
      go_simp
      refine hK.out _ _ (HS) (fun hHeld => ?_)
      clear hK K
      try simp only [Act.put, List.setIfInBounds_toArray, List.set_cons_zero, List.set_cons_succ]
      refine wpAnyH_take (i := 8) (oi := { dst := some 60, op := Op.fieldAddr 25 (Operand.tmp 2) 3, type := 0, pos := _, after := #[{ on := 0, ground := Ground.phase }, { on := 1, ground := Ground.phase }, { on := 2, ground := Ground.phase }, { on := 3, ground := Ground.phase }, { on := 4, ground := Ground.phase }, { on := 5, ground := Ground.phase }, { on := 6, ground := Ground.phase }, { on := 7, ground := Ground.phase }], guard := none }) (v := ?_) rfl (by kernel_rfl) (by kernel_rfl) (by kernel_rfl) (fun _ _ _ h => h) (Or.inl ⟨by rfl, ?_⟩) hHeld ?_
      rotate_left
      · (intro w hSw; (try dsimp only at hSw); first | (go_simp; done) | (go_simp; with_reducible rfl))
      try simp only [Act.put, List.setIfInBounds_toArray, List.set_cons_zero, List.set_cons_succ]
      refine wpAnyH_ready (rs := [9]) (by kernel_rfl) (by simp) (AllReadyH.cons (o := { dst := none, op := Op.store 23 (Operand.tmp 60) (Operand.tmp 59), type := 0, pos := _, after := #[{ on := 8, ground := Ground.data }, { on := 7, ground := Ground.data }, { on := 7, ground := Ground.chain }, { on := 0, ground := Ground.phase }, { on := 1, ground := Ground.phase }, { on := 2, ground := Ground.phase }, { on := 3, ground := Ground.phase }, { on := 4, ground := Ground.phase }, { on := 5, ground := Ground.phase }, { on := 6, ground := Ground.phase }, { on := 7, ground := Ground.phase }], guard := none }) rfl (fun K hK => ?_) AllReadyH.nil)
      go_simp
      clear HS
      have HS := rec_cells HT9.out.kr
      refine hK.out _ _ (HS) (fun hHeld => ?_)
      clear hK K HS hHeld HK7
      clear e0 e1 e2 e3 f0 f1 f2 f3 c0 c1 c2' c3 c4 c5 c6 c7 c8 c9 c10 c11 z0 z1 z2 z3 g0' g1 g2 g3
      try simp only [Act.put, List.setIfInBounds_toArray, List.set_cons_zero, List.set_cons_succ]
      refine wpAnyH_done (by kernel_rfl) ?_ _
      refine NoPanic.normal ?_
      generalize w7.setCell ⟨w.heap.size, 3, none⟩ (.slice A8 (put ps k (r.g, .slice A7 r.g.stamp.length n7)).length n8) = w9 at HT9 ⊢
      obtain ⟨e0, e1, e2, e3⟩ := four_cells HT9.out.kb
      have f0 := HT9.out.kb.frozen 0
      have f1 := HT9.out.kb.frozen 1
      have f2 := HT9.out.kb.frozen 2
      have f3 := HT9.out.kb.frozen 3
      obtain ⟨c0, c1, c2', c3, c4, c5, c6, c7, c8, c9, c10, c11⟩ := rec_cells HT9.out.kr
      obtain ⟨⟨z0, z1, z2, z3⟩, g0', g1, g2, g3⟩ := zero_cells HT9.out.kz
      go_wp2_with fail
      refine bodyPost_ret (v := .agg (four ({ b with gs := BM.ins r.g b.gs, next := b.next + 1 }) (.slice A8 (put ps k (r.g, .slice A7 r.g.stamp.length n7)).length n8))) (by simp [results, Try.results34, go_sem, z0, z1, z2, z3, four]) rfl ?_
      have hv : BM.behind b r = { b with gs := BM.ins r.g b.gs, next := b.next + 1 } := by unfold BM.behind; simp [hk'.out]
      rw [hv]
      exact HT9.out.done (by rw [HKK.out]; exact put_fst HM.out r.g _)
end Go.Proofs.Ytdegamlnkleddaa
