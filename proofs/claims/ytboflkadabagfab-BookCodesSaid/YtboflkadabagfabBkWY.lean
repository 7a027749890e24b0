/- Texts that belong together: BkW25, BkW26, BkW27. -/
import Derived.Test.YtboflkadabagfabBkWX
import Derived.OrdersHeld
namespace Go.Proofs.Ytboflkadabagfab
open Go.RowKit
open BM (Gr Rc Bk g0 r0 b0)
set_option linter.unusedVariables false
set_option linter.unusedSimpArgs false
set_option maxRecDepth 100000
theorem HdI.parts {w : World} {u : Value} {l : List Int} (h : HdI w u l) : l.length * 8 ≤ 140737488355328 ∧ ∀ x ∈ l, In64 x := by
  obtain ⟨A, c, _, hs⟩ := h
  exact ⟨hs.room, hs.rng⟩
theorem Insert_any {base : Nat} {A : Option Addr} {ps : List (Gr × Value)} {p m n : Nat} {g : Gr} {gv : Value} (w : World) (hn : ps.length = n) (hown : OwnG w base (.slice A n n) ps) (hm : m ≤ n) (hp : Whole w p 26 (six g gv)) (hl : n ≤ 1000) (hb : base ≤ w.heap.size) (hgv : OwnI w base gv g.stamp) (hgw : GW g ∧ g.stamp.length * 8 ≤ 140737488355328 ∧ ∀ x ∈ g.stamp, In64 x) :
    Calls Try.prog 65 #[.slice A n n, .int .i64 (m : Int), .slice (some ⟨p, 0, none⟩) 1 1] w (InsPost w base ps m (g, gv)) := by
  rcases Nat.lt_or_ge m n with h | h
  · exact Insert_mid w hn hown h hp hl hb hgv hgw
  · have e : m = n := by omega
    subst e hn
    exact Insert_end w hown hp hl hb hgv hgw
set_option maxHeartbeats 8000000 in
theorem b3 {A A2 : Option Addr} {c c2 : Nat} (v : Value) (b : Bk) (r : Rc) (w : World) (hb : FitB w v b) (hr : FitR w (.slice A r.g.stamp.length c) (.slice A2 r.stamp.length c2) r) (hok : BM.okBk b = true) (hk : r.kind = 3) :
    Calls Try.prog 31 #[.agg (four b v), .agg (twelve r (.slice A r.g.stamp.length c) (.slice A2 r.stamp.length c2))] w (BkPost w (BM.behind b r)) := by
  have hH : w.heap.size + 1 = (w.alloc (.cells (four b v) 45)).heap.size := by simp
  have hH2 : w.heap.size + 1 + 1 = ((w.alloc (.cells (four b v) 45)).alloc (.cells (twelve r (.slice A r.g.stamp.length c) (.slice A2 r.stamp.length c2)) 28)).heap.size := by simp
  have HX := Lib.hid ((((Below.refl _ w).alloc (Nat.le_refl _) (.cells (four b v) 45)).alloc (by simp) (.cells (twelve r (.slice A r.g.stamp.length c) (.slice A2 r.stamp.length c2)) 28)).alloc (by simp; omega) (.cells z4 45))
  have HB := Lib.hid (hb.below HX.out)
  have HKB := Lib.hid (((Whole.new w 45 (four b v)).alloc (.cells (twelve r (.slice A r.g.stamp.length c) (.slice A2 r.stamp.length c2)) 28)).alloc (.cells z4 45))
  have HKR := Lib.hid (show Whole (((w.alloc (.cells (four b v) 45)).alloc (.cells (twelve r (.slice A r.g.stamp.length c) (.slice A2 r.stamp.length c2)) 28)).alloc (.cells z4 45)) (w.heap.size + 1) 28 (twelve r (.slice A r.g.stamp.length c) (.slice A2 r.stamp.length c2)) from by rw [hH]; exact (Whole.new _ _ _).alloc _)
  have HKZ := Lib.hid (show Whole (((w.alloc (.cells (four b v) 45)).alloc (.cells (twelve r (.slice A r.g.stamp.length c) (.slice A2 r.stamp.length c2)) 28)).alloc (.cells z4 45)) (w.heap.size + 1 + 1) 45 z4 from by rw [hH2]; exact Whole.new _ _ _)
  have HS := Lib.hid (show (((w.alloc (.cells (four b v) 45)).alloc (.cells (twelve r (.slice A r.g.stamp.length c) (.slice A2 r.stamp.length c2)) 28)).alloc (.cells z4 45)).heap.size = w.heap.size + 3 by simp)
  have HP := Lib.hid (BM.okBk_parts hok)
  have HFB := Lib.hid (show In64 b.next ∧ In64 b.boots ∧ In64 b.longest from ⟨hb.next, hb.boots, hb.longest⟩)
  have HFR := Lib.hid hr
  clear hb hr hH hH2
  unfold z4 at HX HB HKB HKR HKZ HS
  obtain ⟨e0, e1, e2, e3⟩ := four_cells HKB.out
  go_enter Try.func31, Try.ntmps31
  go_wp2_with fail
  generalize (((w.alloc (.cells (four b v) 45)).alloc (.cells (twelve r (.slice A r.g.stamp.length c) (.slice A2 r.stamp.length c2)) 28)).alloc (.cells #[.int .i64 0, .int .i64 0, .int .i64 0, .slice none 0 0] 45)) = wa at HX HB HKB HKR HKZ HS e0 e1 e2 e3 ⊢
  refine (b_copiedAll v b.gs wa HB.out.gs (by have := HP.out.2.2.2.1; omega)).mono ?_
  rintro e w1 ⟨B, ps, rfl, hm, ho, hb1⟩
  have HM := Lib.hid hm
  have HKB1 := Lib.hid ((Mod.of_below hb1 []).whole HKB.out (by simp))
  have HT := Lib.hid (head_end hm HS.out HX.out hb1 HKB.out HKR.out HKZ.out ho HFR.out HFB.out)
  clear hm ho hb1 e0 e1 e2 e3 HB HX HKB HKR HKZ HS
  have HKR1 := Lib.hid HT.out.1
  replace HT := Lib.hid HT.out.2
  obtain ⟨e0, e1, e2, e3⟩ := four_cells HKB1.out
  have f0 := HKB1.out.frozen 0
  have f1 := HKB1.out.frozen 1
  have f2 := HKB1.out.frozen 2
  have f3 := HKB1.out.frozen 3
  have c0 : w1.cell? ⟨w.heap.size + 1, 0, none⟩ = some (.int .i64 3) := by rw [← hk]; exact HKR1.out.1.cell 0
  have hk' := Lib.hid hk
  clear hk
  obtain ⟨_, c1, c2', c3, c4, c5, c6, c7, c8, c9, c10, c11⟩ := rec_cells HKR1.out.1
  obtain ⟨⟨z0, z1, z2, z3⟩, g0', g1, g2, g3⟩ := zero_cells HKR1.out.2
  go_wp2_with fail
  have HR := Lib.hid (ok_rise hok)
  have HT1 : Hid (BhSt w (b) (.slice B b.gs.length b.gs.length) r (.slice A r.g.stamp.length c) (.slice A2 r.stamp.length c2) ps ((w1.setCell { block := w.heap.size, off := 3 } (Value.slice B b.gs.length b.gs.length)))) := HT
  clear HT HKB1 HKR1
  clear e0 e1 e2 e3 f0 f1 f2 f3 c0 c1 c2' c3 c4 c5 c6 c7 c8 c9 c10 c11 z0 z1 z2 z3 g0' g1 g2 g3
  generalize (w1.setCell { block := w.heap.size, off := 3 } (Value.slice B b.gs.length b.gs.length)) = w2 at HT1 ⊢
  refine (b_place (.slice B b.gs.length b.gs.length) (b) r.g.id w2 (HT1.out.bk HM.out) HR.out HFR.out.g.wide.1 (by have := HP.out.2.2.2.1; (try dsimp only); omega)).mono ?_
  rintro e w3 ⟨rfl, hb3⟩
  have HT := Lib.hid (HT1.out.on hb3)
  clear hb3 HT1
  obtain ⟨k, hkk⟩ : ∃ k, k = ahead b.gs r.g.id := ⟨_, rfl⟩
  have HKK := Lib.hid hkk
  have HKL := Lib.hid (show k ≤ b.gs.length by rw [hkk]; exact ahead_le _ _)
  rw [← hkk]
  clear hkk
  obtain ⟨e0, e1, e2, e3⟩ := four_cells HT.out.kb
  have f0 := HT.out.kb.frozen 0
  have f1 := HT.out.kb.frozen 1
  have f2 := HT.out.kb.frozen 2
  have f3 := HT.out.kb.frozen 3
  obtain ⟨c0, c1, c2', c3, c4, c5, c6, c7, c8, c9, c10, c11⟩ := rec_cells HT.out.kr
  obtain ⟨⟨z0, z1, z2, z3⟩, g0', g1, g2, g3⟩ := zero_cells HT.out.kz
  go_wp2_with fail
  have HTd := Lib.hid HT.out.drew
  have HLEN := Lib.hid (show ps.length = b.gs.length by rw [← HM.out, List.length_map])
  clear e0 e1 e2 e3 f0 f1 f2 f3 c0 c1 c2' c3 c4 c5 c6 c7 c8 c9 c10 c11 z0 z1 z2 z3 g0' g1 g2 g3
  refine wp_region_noPanic ?_
  refine wp_region_held_drew (S := fun w2 : World => w2.cell? ⟨w.heap.size + 1, 0, none⟩ = some (.int .i64 r.kind) ∧ w2.cell? ⟨w.heap.size + 1, 1, none⟩ = some (.int .i64 r.g.id) ∧ w2.cell? ⟨w.heap.size + 1, 2, none⟩ = some (.int .i64 r.g.holder) ∧ w2.cell? ⟨w.heap.size + 1, 3, none⟩ = some (.string r.g.path) ∧ w2.cell? ⟨w.heap.size + 1, 4, none⟩ = some (.int .i64 r.g.mode) ∧ w2.cell? ⟨w.heap.size + 1, 5, none⟩ = some (.slice A r.g.stamp.length c) ∧ w2.cell? ⟨w.heap.size + 1, 6, none⟩ = some (.int .i64 r.g.term) ∧ w2.cell? ⟨w.heap.size + 1, 7, none⟩ = some (.int .i64 r.id) ∧ w2.cell? ⟨w.heap.size + 1, 8, none⟩ = some (.slice A2 r.stamp.length c2) ∧ w2.cell? ⟨w.heap.size + 1, 9, none⟩ = some (.int .i64 r.next) ∧ w2.cell? ⟨w.heap.size + 1, 10, none⟩ = some (.int .i64 r.boots) ∧ w2.cell? ⟨w.heap.size + 1, 11, none⟩ = some (.int .i64 r.longest)) (by kernel_rfl) (rec_cells HTd.out.kr) (fun hHeld => ?_)
  generalize w3.drew = wd at HTd hHeld ⊢
  have HS := rec_cells HTd.out.kr
  obtain ⟨e0, e1, e2, e3⟩ := four_cells HTd.out.kb
  have f0 := HTd.out.kb.frozen 0
  have f1 := HTd.out.kb.frozen 1
  have f2 := HTd.out.kb.frozen 2
  have f3 := HTd.out.kb.frozen 3
  obtain ⟨c0, c1, c2', c3, c4, c5, c6, c7, c8, c9, c10, c11⟩ := rec_cells HTd.out.kr
  obtain ⟨⟨z0, z1, z2, z3⟩, g0', g1, g2, g3⟩ := zero_cells HTd.out.kz
  refine wpAnyH_take (i := 0) (oi := { dst := some 52, op := Op.fieldAddr 45 (Operand.tmp 2) 3, type := 0, pos := _, after := #[], guard := none }) (v := ?_) rfl (by kernel_rfl) (by kernel_rfl) (by kernel_rfl) (fun _ _ _ h => h) (Or.inl ⟨by rfl, ?_⟩) hHeld ?_
  rotate_left
  · (intro w hSw; (try dsimp only at hSw); first | (go_simp; done) | (go_simp; with_reducible rfl))
  try simp only [Act.put, List.setIfInBounds_toArray, List.set_cons_zero, List.set_cons_succ]
  refine wpAnyH_take (i := 2) (oi := { dst := some 54, op := Op.move (Operand.tmp 5), type := 3, pos := _, after := #[], guard := none }) (v := ?_) rfl (by kernel_rfl) (by kernel_rfl) (by kernel_rfl) (fun _ _ _ h => h) (Or.inl ⟨by rfl, ?_⟩) hHeld ?_
  rotate_left
  · (intro w hSw; (try dsimp only at hSw); first | (go_simp; done) | (go_simp; with_reducible rfl))
  try simp only [Act.put, List.setIfInBounds_toArray, List.set_cons_zero, List.set_cons_succ]
  refine wpAnyH_take (i := 3) (oi := { dst := some 55, op := Op.fieldAddr 28 (Operand.tmp 3) 1, type := 0, pos := _, after := #[], guard := none }) (v := ?_) rfl (by kernel_rfl) (by kernel_rfl) (by kernel_rfl) (fun _ _ _ h => h) (Or.inl ⟨by rfl, ?_⟩) hHeld ?_
  rotate_left
  · (intro w hSw; (try dsimp only at hSw); first | (go_simp; done) | (go_simp; with_reducible rfl))
  try simp only [Act.put, List.setIfInBounds_toArray, List.set_cons_zero, List.set_cons_succ]
  refine wpAnyH_take (i := 4) (oi := { dst := some 56, op := Op.load 26 (Operand.tmp 55), type := 26, pos := _, after := #[{ on := 3, ground := Ground.data }], guard := none }) (v := ?_) rfl (by kernel_rfl) (by kernel_rfl) (by kernel_rfl) (fun _ _ _ h => h) (Or.inl ⟨by rfl, ?_⟩) hHeld ?_
  rotate_left
  · (intro w hSw; (try dsimp only at hSw); first | (go_simp; done) | (go_simp; with_reducible rfl))
  try simp only [Act.put, List.setIfInBounds_toArray, List.set_cons_zero, List.set_cons_succ]
  refine wpAnyH_ready (rs := [1, 5]) (by kernel_rfl) (by simp) (AllReadyH.cons (o := { dst := some 53, op := Op.load 43 (Operand.tmp 52), type := 43, pos := _, after := #[{ on := 0, ground := Ground.data }], guard := none }) rfl (fun K hK => ?_) (AllReadyH.cons (o := { dst := some 57, op := Op.call { callee := Callee.value (Operand.func 38), args := #[Operand.tmp 56], argTypes := #[26] }, type := 26, pos := _, after := #[{ on := 4, ground := Ground.data }], guard := none }) rfl (fun K hK => ?_) AllReadyH.nil))
  · skip
    go_simp
    refine hK.out _ _ (HS) (fun hHeld => ?_)
    clear hK K
    try simp only [Act.put, List.setIfInBounds_toArray, List.set_cons_zero, List.set_cons_succ]
    refine wpAnyH_ready (rs := [5]) (by kernel_rfl) (by simp) (AllReadyH.cons (o := { dst := some 57, op := Op.call { callee := Callee.value (Operand.func 38), args := #[Operand.tmp 56], argTypes := #[26] }, type := 26, pos := _, after := #[{ on := 4, ground := Ground.data }], guard := none }) rfl (fun K hK => ?_) AllReadyH.nil)
    go_simp
    refine (b_copied (.slice A r.g.stamp.length c) r.g _ HTd.out.fr.g).mono ?_
    rintro e w5 ⟨gv, rfl, ho, hb5⟩
    obtain ⟨A7, n7, hv7, _, _⟩ := own_shape ho
    subst hv7
    have HT5 := Lib.hid (HTd.out.on hb5)
    have HO5 := Lib.hid (own_low ho (show w.heap.size + 3 ≤ _ from HTd.out.size))
    clear ho hb5 HS
    clear e0 e1 e2 e3 f0 f1 f2 f3 c0 c1 c2' c3 c4 c5 c6 c7 c8 c9 c10 c11 z0 z1 z2 z3 g0' g1 g2 g3
    obtain ⟨e0, e1, e2, e3⟩ := four_cells HT5.out.kb
    have f0 := HT5.out.kb.frozen 0
    have f1 := HT5.out.kb.frozen 1
    have f2 := HT5.out.kb.frozen 2
    have f3 := HT5.out.kb.frozen 3
    obtain ⟨c0, c1, c2', c3, c4, c5, c6, c7, c8, c9, c10, c11⟩ := rec_cells HT5.out.kr
    obtain ⟨⟨z0, z1, z2, z3⟩, g0', g1, g2, g3⟩ := zero_cells HT5.out.kz
    have HS := rec_cells HT5.out.kr
    unfold six
    go_simp
    refine hK.out _ _ (HS) (fun hHeld => ?_)
    clear hK K
    try simp only [Act.put, List.setIfInBounds_toArray, List.set_cons_zero, List.set_cons_succ]
    refine wpAnyH_ready (rs := [6]) (by kernel_rfl) (by simp) (AllReadyH.cons (o := { dst := some 58, op := Op.buildSlice 43 1 #[(0, Operand.tmp 57)], type := 43, pos := _, after := #[{ on := 5, ground := Ground.data }], guard := none }) rfl (fun K hK => ?_) AllReadyH.nil)
    go_simp
    have HB6 := Lib.hid ((Below.refl _ w5).alloc (Nat.le_refl _) (.cells #[.int .i64 r.g.id, .int .i64 r.g.holder, .string r.g.path, .int .i64 r.g.mode, .slice A7 r.g.stamp.length n7, .int .i64 r.g.term] 26))
    have HT6 := Lib.hid (HT5.out.on HB6.out)
    have HP6 := Lib.hid (Whole.new w5 26 #[.int .i64 r.g.id, .int .i64 r.g.holder, .string r.g.path, .int .i64 r.g.mode, .slice A7 r.g.stamp.length n7, .int .i64 r.g.term])
    have HO6 := Lib.hid ((Mod.of_below HB6.out []).own HO5.out (by simp))
    clear HB6 HO5 HT5 HS
    clear e0 e1 e2 e3 f0 f1 f2 f3 c0 c1 c2' c3 c4 c5 c6 c7 c8 c9 c10 c11 z0 z1 z2 z3 g0' g1 g2 g3
    have HS := rec_cells HT6.out.kr
    refine hK.out _ _ (HS) (fun hHeld => ?_)
    clear hK K HS
    try simp only [Act.put, List.setIfInBounds_toArray, List.set_cons_zero, List.set_cons_succ]
    generalize w5.alloc (.cells #[.int .i64 r.g.id, .int .i64 r.g.holder, .string r.g.path, .int .i64 r.g.mode, .slice A7 r.g.stamp.length n7, .int .i64 r.g.term] 26) = w6 at HT6 HP6 HO6 hHeld ⊢
    have HS := rec_cells HT6.out.kr
    obtain ⟨e0, e1, e2, e3⟩ := four_cells HT6.out.kb
    have f0 := HT6.out.kb.frozen 0
    have f1 := HT6.out.kb.frozen 1
    have f2 := HT6.out.kb.frozen 2
    have f3 := HT6.out.kb.frozen 3
    obtain ⟨c0, c1, c2', c3, c4, c5, c6, c7, c8, c9, c10, c11⟩ := rec_cells HT6.out.kr
    obtain ⟨⟨z0, z1, z2, z3⟩, g0', g1, g2, g3⟩ := zero_cells HT6.out.kz
    refine wpAnyH_ready (rs := [7]) (by kernel_rfl) (by simp) (AllReadyH.cons (o := { dst := some 59, op := Op.call { callee := Callee.value (Operand.func 65), args := #[Operand.tmp 53, Operand.tmp 54, Operand.tmp 58], argTypes := #[43, 3, 43] }, type := 43, pos := _, after := #[{ on := 1, ground := Ground.data }, { on := 2, ground := Ground.data }, { on := 6, ground := Ground.data }, { on := 5, ground := Ground.chain }], guard := none }) rfl (fun K hK => ?_) AllReadyH.nil)
    go_simp
    refine (Insert_any (base := w.heap.size + 3) w6 HLEN.out HT6.out.own HKL.out HP6.out (by have := HP.out.2.2.2.1; omega) HT6.out.size HO6.out ⟨HFR.out.g.wide, HFR.out.g.hd.parts⟩).mono ?_
    rintro e w7 ⟨v7, rfl, ho, hb7⟩
    obtain ⟨A8, n8, hv8, _, _⟩ := own_shape ho.row
    subst hv8
    clear e0 e1 e2 e3 f0 f1 f2 f3 c0 c1 c2' c3 c4 c5 c6 c7 c8 c9 c10 c11 z0 z1 z2 z3 g0' g1 g2 g3
    have HK7 := Lib.hid (And.intro (HT6.out.kb.low hb7 (by omega)) (And.intro (HT6.out.kr.low hb7 (by omega)) (HT6.out.kz.low hb7 (by omega))))
    have HT9 := Lib.hid (HT6.out.put HFR.out hb7 ho (BM.ins r.g b.gs))
    clear ho hb7 HS
    obtain ⟨e0, e1, e2, e3⟩ := four_cells HK7.out.1
    have f0 := HK7.out.1.frozen 0
    have f1 := HK7.out.1.frozen 1
    have f2 := HK7.out.1.frozen 2
    have f3 := HK7.out.1.frozen 3
    obtain ⟨c0, c1, c2', c3, c4, c5, c6, c7, c8, c9, c10, c11⟩ := rec_cells HK7.out.2.1
    obtain ⟨⟨z0, z1, z2, z3⟩, g0', g1, g2, g3⟩ := zero_cells HK7.out.2.2
    have HS := rec_cells HK7.out.2.1
    go_simp
    refine hK.out _ _ (HS) (fun hHeld => ?_)
    clear hK K
    try simp only [Act.put, List.setIfInBounds_toArray, List.set_cons_zero, List.set_cons_succ]
    refine wpAnyH_take (i := 8) (oi := { dst := some 60, op := Op.fieldAddr 45 (Operand.tmp 2) 3, type := 0, pos := _, after := #[{ on := 0, ground := Ground.phase }, { on := 1, ground := Ground.phase }, { on := 2, ground := Ground.phase }, { on := 3, ground := Ground.phase }, { on := 4, ground := Ground.phase }, { on := 5, ground := Ground.phase }, { on := 6, ground := Ground.phase }, { on := 7, ground := Ground.phase }], guard := none }) (v := ?_) rfl (by kernel_rfl) (by kernel_rfl) (by kernel_rfl) (fun _ _ _ h => h) (Or.inl ⟨by rfl, ?_⟩) hHeld ?_
    rotate_left
    · (intro w hSw; (try dsimp only at hSw); first | (go_simp; done) | (go_simp; with_reducible rfl))
    try simp only [Act.put, List.setIfInBounds_toArray, List.set_cons_zero, List.set_cons_succ]
    refine wpAnyH_ready (rs := [9]) (by kernel_rfl) (by simp) (AllReadyH.cons (o := { dst := none, op := Op.store 43 (Operand.tmp 60) (Operand.tmp 59), type := 0, pos := _, after := #[{ on := 8, ground := Ground.data }, { on := 7, ground := Ground.data }, { on := 7, ground := Ground.chain }, { on := 0, ground := Ground.phase }, { on := 1, ground := Ground.phase }, { on := 2, ground := Ground.phase }, { on := 3, ground := Ground.phase }, { on := 4, ground := Ground.phase }, { on := 5, ground := Ground.phase }, { on := 6, ground := Ground.phase }, { on := 7, ground := Ground.phase }], guard := none }) rfl (fun K hK => ?_) AllReadyH.nil)
    go_simp
    clear HS
    have HS := rec_cells HT9.out.kr
    refine hK.out _ _ (HS) (fun hHeld => ?_)
    clear hK K HS hHeld HK7
    clear e0 e1 e2 e3 f0 f1 f2 f3 c0 c1 c2' c3 c4 c5 c6 c7 c8 c9 c10 c11 z0 z1 z2 z3 g0' g1 g2 g3
    try simp only [Act.put, List.setIfInBounds_toArray, List.set_cons_zero, List.set_cons_succ]
    refine wpAnyH_done (by kernel_rfl) ?_ _
    refine NoPanic.normal ?_
    generalize w7.setCell ⟨w.heap.size, 3, none⟩ (.slice A8 (put ps k (r.g, .slice A7 r.g.stamp.length n7)).length n8) = w9 at HT9 ⊢
    obtain ⟨e0, e1, e2, e3⟩ := four_cells HT9.out.kb
    have f0 := HT9.out.kb.frozen 0
    have f1 := HT9.out.kb.frozen 1
    have f2 := HT9.out.kb.frozen 2
    have f3 := HT9.out.kb.frozen 3
    obtain ⟨c0, c1, c2', c3, c4, c5, c6, c7, c8, c9, c10, c11⟩ := rec_cells HT9.out.kr
    obtain ⟨⟨z0, z1, z2, z3⟩, g0', g1, g2, g3⟩ := zero_cells HT9.out.kz
    go_wp2_with fail
    refine bodyPost_ret (v := .agg (four ({ b with gs := BM.ins r.g b.gs }) (.slice A8 (put ps k (r.g, .slice A7 r.g.stamp.length n7)).length n8))) (by simp [results, Try.results31, go_sem, z0, z1, z2, z3, four]) rfl ?_
    have hv : BM.behind b r = { b with gs := BM.ins r.g b.gs } := by unfold BM.behind; simp [hk'.out]
    rw [hv]
    exact HT9.out.done (by rw [HKK.out]; exact put_fst HM.out r.g _)
  · skip
    go_simp
    refine (b_copied (.slice A r.g.stamp.length c) r.g _ HTd.out.fr.g).mono ?_
    rintro e w5 ⟨gv, rfl, ho, hb5⟩
    obtain ⟨A7, n7, hv7, _, _⟩ := own_shape ho
    subst hv7
    have HT5 := Lib.hid (HTd.out.on hb5)
    have HO5 := Lib.hid (own_low ho (show w.heap.size + 3 ≤ _ from HTd.out.size))
    clear ho hb5 HS
    clear e0 e1 e2 e3 f0 f1 f2 f3 c0 c1 c2' c3 c4 c5 c6 c7 c8 c9 c10 c11 z0 z1 z2 z3 g0' g1 g2 g3
    obtain ⟨e0, e1, e2, e3⟩ := four_cells HT5.out.kb
    have f0 := HT5.out.kb.frozen 0
    have f1 := HT5.out.kb.frozen 1
    have f2 := HT5.out.kb.frozen 2
    have f3 := HT5.out.kb.frozen 3
    obtain ⟨c0, c1, c2', c3, c4, c5, c6, c7, c8, c9, c10, c11⟩ := rec_cells HT5.out.kr
    obtain ⟨⟨z0, z1, z2, z3⟩, g0', g1, g2, g3⟩ := zero_cells HT5.out.kz
    have HS := rec_cells HT5.out.kr
    unfold six
    go_simp
    refine hK.out _ _ (HS) (fun hHeld => ?_)
    clear hK K
    try simp only [Act.put, List.setIfInBounds_toArray, List.set_cons_zero, List.set_cons_succ]
    refine wpAnyH_ready (rs := [1, 6]) (by kernel_rfl) (by simp) (AllReadyH.cons (o := { dst := some 53, op := Op.load 43 (Operand.tmp 52), type := 43, pos := _, after := #[{ on := 0, ground := Ground.data }], guard := none }) rfl (fun K hK => ?_) (AllReadyH.cons (o := { dst := some 58, op := Op.buildSlice 43 1 #[(0, Operand.tmp 57)], type := 43, pos := _, after := #[{ on := 5, ground := Ground.data }], guard := none }) rfl (fun K hK => ?_) AllReadyH.nil))
    · skip
      go_simp
      refine hK.out _ _ (HS) (fun hHeld => ?_)
      clear hK K
      try simp only [Act.put, List.setIfInBounds_toArray, List.set_cons_zero, List.set_cons_succ]
      refine wpAnyH_ready (rs := [6]) (by kernel_rfl) (by simp) (AllReadyH.cons (o := { dst := some 58, op := Op.buildSlice 43 1 #[(0, Operand.tmp 57)], type := 43, pos := _, after := #[{ on := 5, ground := Ground.data }], guard := none }) rfl (fun K hK => ?_) AllReadyH.nil)
      go_simp
      have HB6 := Lib.hid ((Below.refl _ w5).alloc (Nat.le_refl _) (.cells #[.int .i64 r.g.id, .int .i64 r.g.holder, .string r.g.path, .int .i64 r.g.mode, .slice A7 r.g.stamp.length n7, .int .i64 r.g.term] 26))
      have HT6 := Lib.hid (HT5.out.on HB6.out)
      have HP6 := Lib.hid (Whole.new w5 26 #[.int .i64 r.g.id, .int .i64 r.g.holder, .string r.g.path, .int .i64 r.g.mode, .slice A7 r.g.stamp.length n7, .int .i64 r.g.term])
      have HO6 := Lib.hid ((Mod.of_below HB6.out []).own HO5.out (by simp))
      clear HB6 HO5 HT5 HS
      clear e0 e1 e2 e3 f0 f1 f2 f3 c0 c1 c2' c3 c4 c5 c6 c7 c8 c9 c10 c11 z0 z1 z2 z3 g0' g1 g2 g3
      have HS := rec_cells HT6.out.kr
      refine hK.out _ _ (HS) (fun hHeld => ?_)
      clear hK K HS
      try simp only [Act.put, List.setIfInBounds_toArray, List.set_cons_zero, List.set_cons_succ]
      generalize w5.alloc (.cells #[.int .i64 r.g.id, .int .i64 r.g.holder, .string r.g.path, .int .i64 r.g.mode, .slice A7 r.g.stamp.length n7, .int .i64 r.g.term] 26) = w6 at HT6 HP6 HO6 hHeld ⊢
      have HS := rec_cells HT6.out.kr
      obtain ⟨e0, e1, e2, e3⟩ := four_cells HT6.out.kb
      have f0 := HT6.out.kb.frozen 0
      have f1 := HT6.out.kb.frozen 1
      have f2 := HT6.out.kb.frozen 2
      have f3 := HT6.out.kb.frozen 3
      obtain ⟨c0, c1, c2', c3, c4, c5, c6, c7, c8, c9, c10, c11⟩ := rec_cells HT6.out.kr
      obtain ⟨⟨z0, z1, z2, z3⟩, g0', g1, g2, g3⟩ := zero_cells HT6.out.kz
      refine wpAnyH_ready (rs := [7]) (by kernel_rfl) (by simp) (AllReadyH.cons (o := { dst := some 59, op := Op.call { callee := Callee.value (Operand.func 65), args := #[Operand.tmp 53, Operand.tmp 54, Operand.tmp 58], argTypes := #[43, 3, 43] }, type := 43, pos := _, after := #[{ on := 1, ground := Ground.data }, { on := 2, ground := Ground.data }, { on := 6, ground := Ground.data }, { on := 5, ground := Ground.chain }], guard := none }) rfl (fun K hK => ?_) AllReadyH.nil)
      go_simp
      refine (Insert_any (base := w.heap.size + 3) w6 HLEN.out HT6.out.own HKL.out HP6.out (by have := HP.out.2.2.2.1; omega) HT6.out.size HO6.out ⟨HFR.out.g.wide, HFR.out.g.hd.parts⟩).mono ?_
      rintro e w7 ⟨v7, rfl, ho, hb7⟩
      obtain ⟨A8, n8, hv8, _, _⟩ := own_shape ho.row
      subst hv8
      clear e0 e1 e2 e3 f0 f1 f2 f3 c0 c1 c2' c3 c4 c5 c6 c7 c8 c9 c10 c11 z0 z1 z2 z3 g0' g1 g2 g3
      have HK7 := Lib.hid (And.intro (HT6.out.kb.low hb7 (by omega)) (And.intro (HT6.out.kr.low hb7 (by omega)) (HT6.out.kz.low hb7 (by omega))))
      have HT9 := Lib.hid (HT6.out.put HFR.out hb7 ho (BM.ins r.g b.gs))
      clear ho hb7 HS
      obtain ⟨e0, e1, e2, e3⟩ := four_cells HK7.out.1
      have f0 := HK7.out.1.frozen 0
      have f1 := HK7.out.1.frozen 1
      have f2 := HK7.out.1.frozen 2
      have f3 := HK7.out.1.frozen 3
      obtain ⟨c0, c1, c2', c3, c4, c5, c6, c7, c8, c9, c10, c11⟩ := rec_cells HK7.out.2.1
      obtain ⟨⟨z0, z1, z2, z3⟩, g0', g1, g2, g3⟩ := zero_cells HK7.out.2.2
      have HS := rec_cells HK7.out.2.1
      go_simp
      refine hK.out _ _ (HS) (fun hHeld => ?_)
      clear hK K
      try simp only [Act.put, List.setIfInBounds_toArray, List.set_cons_zero, List.set_cons_succ]
      refine wpAnyH_take (i := 8) (oi := { dst := some 60, op := Op.fieldAddr 45 (Operand.tmp 2) 3, type := 0, pos := _, after := #[{ on := 0, ground := Ground.phase }, { on := 1, ground := Ground.phase }, { on := 2, ground := Ground.phase }, { on := 3, ground := Ground.phase }, { on := 4, ground := Ground.phase }, { on := 5, ground := Ground.phase }, { on := 6, ground := Ground.phase }, { on := 7, ground := Ground.phase }], guard := none }) (v := ?_) rfl (by kernel_rfl) (by kernel_rfl) (by kernel_rfl) (fun _ _ _ h => h) (Or.inl ⟨by rfl, ?_⟩) hHeld ?_
      rotate_left
      · (intro w hSw; (try dsimp only at hSw); first | (go_simp; done) | (go_simp; with_reducible rfl))
      try simp only [Act.put, List.setIfInBounds_toArray, List.set_cons_zero, List.set_cons_succ]
      refine wpAnyH_ready (rs := [9]) (by kernel_rfl) (by simp) (AllReadyH.cons (o := { dst := none, op := Op.store 43 (Operand.tmp 60) (Operand.tmp 59), type := 0, pos := _, after := #[{ on := 8, ground := Ground.data }, { on := 7, ground := Ground.data }, { on := 7, ground := Ground.chain }, { on := 0, ground := Ground.phase }, { on := 1, ground := Ground.phase }, { on := 2, ground := Ground.phase }, { on := 3, ground := Ground.phase }, { on := 4, ground := Ground.phase }, { on := 5, ground := Ground.phase }, { on := 6, ground := Ground.phase }, { on := 7, ground := Ground.phase }], guard := none }) rfl (fun K hK => ?_) AllReadyH.nil)
      go_simp
      clear HS
      have HS := rec_cells HT9.out.kr
      refine hK.out _ _ (HS) (fun hHeld => ?_)
      clear hK K HS hHeld HK7
      clear e0 e1 e2 e3 f0 f1 f2 f3 c0 c1 c2' c3 c4 c5 c6 c7 c8 c9 c10 c11 z0 z1 z2 z3 g0' g1 g2 g3
      try simp only [Act.put, List.setIfInBounds_toArray, List.set_cons_zero, List.set_cons_succ]
      refine wpAnyH_done (by kernel_rfl) ?_ _
      refine NoPanic.normal ?_
      generalize w7.setCell ⟨w.heap.size, 3, none⟩ (.slice A8 (put ps k (r.g, .slice A7 r.g.stamp.length n7)).length n8) = w9 at HT9 ⊢
      obtain ⟨e0, e1, e2, e3⟩ := four_cells HT9.out.kb
      have f0 := HT9.out.kb.frozen 0
      have f1 := HT9.out.kb.frozen 1
      have f2 := HT9.out.kb.frozen 2
      have f3 := HT9.out.kb.frozen 3
      obtain ⟨c0, c1, c2', c3, c4, c5, c6, c7, c8, c9, c10, c11⟩ := rec_cells HT9.out.kr
      obtain ⟨⟨z0, z1, z2, z3⟩, g0', g1, g2, g3⟩ := zero_cells HT9.out.kz
      go_wp2_with fail
      refine bodyPost_ret (v := .agg (four ({ b with gs := BM.ins r.g b.gs }) (.slice A8 (put ps k (r.g, .slice A7 r.g.stamp.length n7)).length n8))) (by simp [results, Try.results31, go_sem, z0, z1, z2, z3, four]) rfl ?_
      have hv : BM.behind b r = { b with gs := BM.ins r.g b.gs } := by unfold BM.behind; simp [hk'.out]
      rw [hv]
      exact HT9.out.done (by rw [HKK.out]; exact put_fst HM.out r.g _)
    · skip
      go_simp
      have HB6 := Lib.hid ((Below.refl _ w5).alloc (Nat.le_refl _) (.cells #[.int .i64 r.g.id, .int .i64 r.g.holder, .string r.g.path, .int .i64 r.g.mode, .slice A7 r.g.stamp.length n7, .int .i64 r.g.term] 26))
      have HT6 := Lib.hid (HT5.out.on HB6.out)
      have HP6 := Lib.hid (Whole.new w5 26 #[.int .i64 r.g.id, .int .i64 r.g.holder, .string r.g.path, .int .i64 r.g.mode, .slice A7 r.g.stamp.length n7, .int .i64 r.g.term])
      have HO6 := Lib.hid ((Mod.of_below HB6.out []).own HO5.out (by simp))
      clear HB6 HO5 HT5 HS
      clear e0 e1 e2 e3 f0 f1 f2 f3 c0 c1 c2' c3 c4 c5 c6 c7 c8 c9 c10 c11 z0 z1 z2 z3 g0' g1 g2 g3
      have HS := rec_cells HT6.out.kr
      refine hK.out _ _ (HS) (fun hHeld => ?_)
      clear hK K HS
      try simp only [Act.put, List.setIfInBounds_toArray, List.set_cons_zero, List.set_cons_succ]
      generalize w5.alloc (.cells #[.int .i64 r.g.id, .int .i64 r.g.holder, .string r.g.path, .int .i64 r.g.mode, .slice A7 r.g.stamp.length n7, .int .i64 r.g.term] 26) = w6 at HT6 HP6 HO6 hHeld ⊢
      have HS := rec_cells HT6.out.kr
      obtain ⟨e0, e1, e2, e3⟩ := four_cells HT6.out.kb
      have f0 := HT6.out.kb.frozen 0
      have f1 := HT6.out.kb.frozen 1
      have f2 := HT6.out.kb.frozen 2
      have f3 := HT6.out.kb.frozen 3
      obtain ⟨c0, c1, c2', c3, c4, c5, c6, c7, c8, c9, c10, c11⟩ := rec_cells HT6.out.kr
      obtain ⟨⟨z0, z1, z2, z3⟩, g0', g1, g2, g3⟩ := zero_cells HT6.out.kz
      refine wpAnyH_ready (rs := [1]) (by kernel_rfl) (by simp) (AllReadyH.cons (o := { dst := some 53, op := Op.load 43 (Operand.tmp 52), type := 43, pos := _, after := #[{ on := 0, ground := Ground.data }], guard := none }) rfl (fun K hK => ?_) AllReadyH.nil)
      go_simp
      refine hK.out _ _ (HS) (fun hHeld => ?_)
      clear hK K
      try simp only [Act.put, List.setIfInBounds_toArray, List.set_cons_zero, List.set_cons_succ]
      refine wpAnyH_ready (rs := [7]) (by kernel_rfl) (by simp) (AllReadyH.cons (o := { dst := some 59, op := Op.call { callee := Callee.value (Operand.func 65), args := #[Operand.tmp 53, Operand.tmp 54, Operand.tmp 58], argTypes := #[43, 3, 43] }, type := 43, pos := _, after := #[{ on := 1, ground := Ground.data }, { on := 2, ground := Ground.data }, { on := 6, ground := Ground.data }, { on := 5, ground := Ground.chain }], guard := none }) rfl (fun K hK => ?_) AllReadyH.nil)
      go_simp
      refine (Insert_any (base := w.heap.size + 3) w6 HLEN.out HT6.out.own HKL.out HP6.out (by have := HP.out.2.2.2.1; omega) HT6.out.size HO6.out ⟨HFR.out.g.wide, HFR.out.g.hd.parts⟩).mono ?_
      rintro e w7 ⟨v7, rfl, ho, hb7⟩
      obtain ⟨A8, n8, hv8, _, _⟩ := own_shape ho.row
      subst hv8
      clear e0 e1 e2 e3 f0 f1 f2 f3 c0 c1 c2' c3 c4 c5 c6 c7 c8 c9 c10 c11 z0 z1 z2 z3 g0' g1 g2 g3
      have HK7 := Lib.hid (And.intro (HT6.out.kb.low hb7 (by omega)) (And.intro (HT6.out.kr.low hb7 (by omega)) (HT6.out.kz.low hb7 (by omega))))
      have HT9 := Lib.hid (HT6.out.put HFR.out hb7 ho (BM.ins r.g b.gs))
      clear ho hb7 HS
      obtain ⟨e0, e1, e2, e3⟩ := four_cells HK7.out.1
      have f0 := HK7.out.1.frozen 0
      have f1 := HK7.out.1.frozen 1
      have f2 := HK7.out.1.frozen 2
      have f3 := HK7.out.1.frozen 3
      obtain ⟨c0, c1, c2', c3, c4, c5, c6, c7, c8, c9, c10, c11⟩ := rec_cells HK7.out.2.1
      obtain ⟨⟨z0, z1, z2, z3⟩, g0', g1, g2, g3⟩ := zero_cells HK7.out.2.2
      have HS := rec_cells HK7.out.2.1
      go_simp
      refine hK.out _ _ (HS) (fun hHeld => ?_)
      clear hK K
      try simp only [Act.put, List.setIfInBounds_toArray, List.set_cons_zero, List.set_cons_succ]
      refine wpAnyH_take (i := 8) (oi := { dst := some 60, op := Op.fieldAddr 45 (Operand.tmp 2) 3, type := 0, pos := _, after := #[{ on := 0, ground := Ground.phase }, { on := 1, ground := Ground.phase }, { on := 2, ground := Ground.phase }, { on := 3, ground := Ground.phase }, { on := 4, ground := Ground.phase }, { on := 5, ground := Ground.phase }, { on := 6, ground := Ground.phase }, { on := 7, ground := Ground.phase }], guard := none }) (v := ?_) rfl (by kernel_rfl) (by kernel_rfl) (by kernel_rfl) (fun _ _ _ h => h) (Or.inl ⟨by rfl, ?_⟩) hHeld ?_
      rotate_left
      · (intro w hSw; (try dsimp only at hSw); first | (go_simp; done) | (go_simp; with_reducible rfl))
      try simp only [Act.put, List.setIfInBounds_toArray, List.set_cons_zero, List.set_cons_succ]
      refine wpAnyH_ready (rs := [9]) (by kernel_rfl) (by simp) (AllReadyH.cons (o := { dst := none, op := Op.store 43 (Operand.tmp 60) (Operand.tmp 59), type := 0, pos := _, after := #[{ on := 8, ground := Ground.data }, { on := 7, ground := Ground.data }, { on := 7, ground := Ground.chain }, { on := 0, ground := Ground.phase }, { on := 1, ground := Ground.phase }, { on := 2, ground := Ground.phase }, { on := 3, ground := Ground.phase }, { on := 4, ground := Ground.phase }, { on := 5, ground := Ground.phase }, { on := 6, ground := Ground.phase }, { on := 7, ground := Ground.phase }], guard := none }) rfl (fun K hK => ?_) AllReadyH.nil)
      go_simp
      clear HS
      have HS := rec_cells HT9.out.kr
      refine hK.out _ _ (HS) (fun hHeld => ?_)
      clear hK K HS hHeld HK7
      clear e0 e1 e2 e3 f0 f1 f2 f3 c0 c1 c2' c3 c4 c5 c6 c7 c8 c9 c10 c11 z0 z1 z2 z3 g0' g1 g2 g3
      try simp only [Act.put, List.setIfInBounds_toArray, List.set_cons_zero, List.set_cons_succ]
      refine wpAnyH_done (by kernel_rfl) ?_ _
      refine NoPanic.normal ?_
      generalize w7.setCell ⟨w.heap.size, 3, none⟩ (.slice A8 (put ps k (r.g, .slice A7 r.g.stamp.length n7)).length n8) = w9 at HT9 ⊢
      obtain ⟨e0, e1, e2, e3⟩ := four_cells HT9.out.kb
      have f0 := HT9.out.kb.frozen 0
      have f1 := HT9.out.kb.frozen 1
      have f2 := HT9.out.kb.frozen 2
      have f3 := HT9.out.kb.frozen 3
      obtain ⟨c0, c1, c2', c3, c4, c5, c6, c7, c8, c9, c10, c11⟩ := rec_cells HT9.out.kr
      obtain ⟨⟨z0, z1, z2, z3⟩, g0', g1, g2, g3⟩ := zero_cells HT9.out.kz
      go_wp2_with fail
      refine bodyPost_ret (v := .agg (four ({ b with gs := BM.ins r.g b.gs }) (.slice A8 (put ps k (r.g, .slice A7 r.g.stamp.length n7)).length n8))) (by simp [results, Try.results31, go_sem, z0, z1, z2, z3, four]) rfl ?_
      have hv : BM.behind b r = { b with gs := BM.ins r.g b.gs } := by unfold BM.behind; simp [hk'.out]
      rw [hv]
      exact HT9.out.done (by rw [HKK.out]; exact put_fst HM.out r.g _)
end Go.Proofs.Ytboflkadabagfab
namespace Go.Proofs.Ytboflkadabagfab
open Go.RowKit
open BM (Gr Rc Bk g0 r0 b0)
set_option linter.unusedVariables false
set_option linter.unusedSimpArgs false
set_option maxRecDepth 100000
set_option maxHeartbeats 8000000 in
theorem b4 {A A2 : Option Addr} {c c2 : Nat} (v : Value) (b : Bk) (r : Rc) (w : World) (hb : FitB w v b) (hr : FitR w (.slice A r.g.stamp.length c) (.slice A2 r.stamp.length c2) r) (hok : BM.okBk b = true) (hk : r.kind = 4) :
    Calls Try.prog 31 #[.agg (four b v), .agg (twelve r (.slice A r.g.stamp.length c) (.slice A2 r.stamp.length c2))] w (BkPost w (BM.behind b r)) := by
  have hH : w.heap.size + 1 = (w.alloc (.cells (four b v) 45)).heap.size := by simp
  have hH2 : w.heap.size + 1 + 1 = ((w.alloc (.cells (four b v) 45)).alloc (.cells (twelve r (.slice A r.g.stamp.length c) (.slice A2 r.stamp.length c2)) 28)).heap.size := by simp
  have HX := Lib.hid ((((Below.refl _ w).alloc (Nat.le_refl _) (.cells (four b v) 45)).alloc (by simp) (.cells (twelve r (.slice A r.g.stamp.length c) (.slice A2 r.stamp.length c2)) 28)).alloc (by simp; omega) (.cells z4 45))
  have HB := Lib.hid (hb.below HX.out)
  have HKB := Lib.hid (((Whole.new w 45 (four b v)).alloc (.cells (twelve r (.slice A r.g.stamp.length c) (.slice A2 r.stamp.length c2)) 28)).alloc (.cells z4 45))
  have HKR := Lib.hid (show Whole (((w.alloc (.cells (four b v) 45)).alloc (.cells (twelve r (.slice A r.g.stamp.length c) (.slice A2 r.stamp.length c2)) 28)).alloc (.cells z4 45)) (w.heap.size + 1) 28 (twelve r (.slice A r.g.stamp.length c) (.slice A2 r.stamp.length c2)) from by rw [hH]; exact (Whole.new _ _ _).alloc _)
  have HKZ := Lib.hid (show Whole (((w.alloc (.cells (four b v) 45)).alloc (.cells (twelve r (.slice A r.g.stamp.length c) (.slice A2 r.stamp.length c2)) 28)).alloc (.cells z4 45)) (w.heap.size + 1 + 1) 45 z4 from by rw [hH2]; exact Whole.new _ _ _)
  have HS := Lib.hid (show (((w.alloc (.cells (four b v) 45)).alloc (.cells (twelve r (.slice A r.g.stamp.length c) (.slice A2 r.stamp.length c2)) 28)).alloc (.cells z4 45)).heap.size = w.heap.size + 3 by simp)
  have HP := Lib.hid (BM.okBk_parts hok)
  have HFB := Lib.hid (show In64 b.next ∧ In64 b.boots ∧ In64 b.longest from ⟨hb.next, hb.boots, hb.longest⟩)
  have HFR := Lib.hid hr
  clear hb hr hH hH2
  unfold z4 at HX HB HKB HKR HKZ HS
  obtain ⟨e0, e1, e2, e3⟩ := four_cells HKB.out
  have jw : wrap64 (b.next + 1) = b.next + 1 := by have := HP.out.1; unfold wrap64; omega
  go_enter Try.func31, Try.ntmps31
  go_wp2_with fail
  generalize (((w.alloc (.cells (four b v) 45)).alloc (.cells (twelve r (.slice A r.g.stamp.length c) (.slice A2 r.stamp.length c2)) 28)).alloc (.cells #[.int .i64 0, .int .i64 0, .int .i64 0, .slice none 0 0] 45)) = wa at HX HB HKB HKR HKZ HS e0 e1 e2 e3 ⊢
  refine (b_copiedAll v b.gs wa HB.out.gs (by have := HP.out.2.2.2.1; omega)).mono ?_
  rintro e w1 ⟨B, ps, rfl, hm, ho, hb1⟩
  have HM := Lib.hid hm
  have HKB1 := Lib.hid ((Mod.of_below hb1 []).whole HKB.out (by simp))
  have HT := Lib.hid (head_end hm HS.out HX.out hb1 HKB.out HKR.out HKZ.out ho HFR.out HFB.out)
  clear hm ho hb1 e0 e1 e2 e3 HB HX HKB HKR HKZ HS
  have HKR1 := Lib.hid HT.out.1
  replace HT := Lib.hid HT.out.2
  obtain ⟨e0, e1, e2, e3⟩ := four_cells HKB1.out
  have f0 := HKB1.out.frozen 0
  have f1 := HKB1.out.frozen 1
  have f2 := HKB1.out.frozen 2
  have f3 := HKB1.out.frozen 3
  have c0 : w1.cell? ⟨w.heap.size + 1, 0, none⟩ = some (.int .i64 4) := by rw [← hk]; exact HKR1.out.1.cell 0
  have hk' := Lib.hid hk
  clear hk
  obtain ⟨_, c1, c2', c3, c4, c5, c6, c7, c8, c9, c10, c11⟩ := rec_cells HKR1.out.1
  obtain ⟨⟨z0, z1, z2, z3⟩, g0', g1, g2, g3⟩ := zero_cells HKR1.out.2
  go_wp2_with fail
  have HT4 := Lib.hid (HT.out.store HFR.out (i := 0) (v := .int .i64 (b.next + 1)) (b' := { b with next := b.next + 1 }) (L' := (.slice B b.gs.length b.gs.length)) rfl HT.out.own ⟨by have := HP.out.1; unfold In64; constructor <;> dsimp only <;> omega, HFB.out.2.1, HFB.out.2.2⟩)
  clear HT
  have HT := HT4
  clear HT4
  have HR := Lib.hid (ok_rise hok)
  have HT1 : Hid (BhSt w ({ b with next := b.next + 1 }) (.slice B b.gs.length b.gs.length) r (.slice A r.g.stamp.length c) (.slice A2 r.stamp.length c2) ps (((w1.setCell { block := w.heap.size, off := 3 } (Value.slice B b.gs.length b.gs.length)).setCell { block := w.heap.size, off := 0 } (Value.int IntKind.i64 (b.next + 1))))) := HT
  clear HT HKB1 HKR1
  clear e0 e1 e2 e3 f0 f1 f2 f3 c0 c1 c2' c3 c4 c5 c6 c7 c8 c9 c10 c11 z0 z1 z2 z3 g0' g1 g2 g3
  generalize ((w1.setCell { block := w.heap.size, off := 3 } (Value.slice B b.gs.length b.gs.length)).setCell { block := w.heap.size, off := 0 } (Value.int IntKind.i64 (b.next + 1))) = w2 at HT1 ⊢
  refine (b_place (.slice B b.gs.length b.gs.length) ({ b with next := b.next + 1 }) r.g.id w2 (HT1.out.bk HM.out) HR.out HFR.out.g.wide.1 (by have := HP.out.2.2.2.1; (try dsimp only); omega)).mono ?_
  rintro e w3 ⟨rfl, hb3⟩
  have HT := Lib.hid (HT1.out.on hb3)
  clear hb3 HT1
  obtain ⟨k, hkk⟩ : ∃ k, k = ahead b.gs r.g.id := ⟨_, rfl⟩
  have HKK := Lib.hid hkk
  have HKL := Lib.hid (show k ≤ b.gs.length by rw [hkk]; exact ahead_le _ _)
  rw [← hkk]
  clear hkk
  obtain ⟨e0, e1, e2, e3⟩ := four_cells HT.out.kb
  have f0 := HT.out.kb.frozen 0
  have f1 := HT.out.kb.frozen 1
  have f2 := HT.out.kb.frozen 2
  have f3 := HT.out.kb.frozen 3
  obtain ⟨c0, c1, c2', c3, c4, c5, c6, c7, c8, c9, c10, c11⟩ := rec_cells HT.out.kr
  obtain ⟨⟨z0, z1, z2, z3⟩, g0', g1, g2, g3⟩ := zero_cells HT.out.kz
  go_wp2_with fail
  have HTd := Lib.hid HT.out.drew
  have HLEN := Lib.hid (show ps.length = b.gs.length by rw [← HM.out, List.length_map])
  clear e0 e1 e2 e3 f0 f1 f2 f3 c0 c1 c2' c3 c4 c5 c6 c7 c8 c9 c10 c11 z0 z1 z2 z3 g0' g1 g2 g3
  refine wp_region_noPanic ?_
  refine wp_region_held_drew (S := fun w2 : World => w2.cell? ⟨w.heap.size + 1, 0, none⟩ = some (.int .i64 r.kind) ∧ w2.cell? ⟨w.heap.size + 1, 1, none⟩ = some (.int .i64 r.g.id) ∧ w2.cell? ⟨w.heap.size + 1, 2, none⟩ = some (.int .i64 r.g.holder) ∧ w2.cell? ⟨w.heap.size + 1, 3, none⟩ = some (.string r.g.path) ∧ w2.cell? ⟨w.heap.size + 1, 4, none⟩ = some (.int .i64 r.g.mode) ∧ w2.cell? ⟨w.heap.size + 1, 5, none⟩ = some (.slice A r.g.stamp.length c) ∧ w2.cell? ⟨w.heap.size + 1, 6, none⟩ = some (.int .i64 r.g.term) ∧ w2.cell? ⟨w.heap.size + 1, 7, none⟩ = some (.int .i64 r.id) ∧ w2.cell? ⟨w.heap.size + 1, 8, none⟩ = some (.slice A2 r.stamp.length c2) ∧ w2.cell? ⟨w.heap.size + 1, 9, none⟩ = some (.int .i64 r.next) ∧ w2.cell? ⟨w.heap.size + 1, 10, none⟩ = some (.int .i64 r.boots) ∧ w2.cell? ⟨w.heap.size + 1, 11, none⟩ = some (.int .i64 r.longest)) (by kernel_rfl) (rec_cells HTd.out.kr) (fun hHeld => ?_)
  generalize w3.drew = wd at HTd hHeld ⊢
  have HS := rec_cells HTd.out.kr
  obtain ⟨e0, e1, e2, e3⟩ := four_cells HTd.out.kb
  have f0 := HTd.out.kb.frozen 0
  have f1 := HTd.out.kb.frozen 1
  have f2 := HTd.out.kb.frozen 2
  have f3 := HTd.out.kb.frozen 3
  obtain ⟨c0, c1, c2', c3, c4, c5, c6, c7, c8, c9, c10, c11⟩ := rec_cells HTd.out.kr
  obtain ⟨⟨z0, z1, z2, z3⟩, g0', g1, g2, g3⟩ := zero_cells HTd.out.kz
  refine wpAnyH_take (i := 0) (oi := { dst := some 52, op := Op.fieldAddr 45 (Operand.tmp 2) 3, type := 0, pos := _, after := #[], guard := none }) (v := ?_) rfl (by kernel_rfl) (by kernel_rfl) (by kernel_rfl) (fun _ _ _ h => h) (Or.inl ⟨by rfl, ?_⟩) hHeld ?_
  rotate_left
  · (intro w hSw; (try dsimp only at hSw); first | (go_simp; done) | (go_simp; with_reducible rfl))
  try simp only [Act.put, List.setIfInBounds_toArray, List.set_cons_zero, List.set_cons_succ]
  refine wpAnyH_take (i := 2) (oi := { dst := some 54, op := Op.move (Operand.tmp 5), type := 3, pos := _, after := #[], guard := none }) (v := ?_) rfl (by kernel_rfl) (by kernel_rfl) (by kernel_rfl) (fun _ _ _ h => h) (Or.inl ⟨by rfl, ?_⟩) hHeld ?_
  rotate_left
  · (intro w hSw; (try dsimp only at hSw); first | (go_simp; done) | (go_simp; with_reducible rfl))
  try simp only [Act.put, List.setIfInBounds_toArray, List.set_cons_zero, List.set_cons_succ]
  refine wpAnyH_take (i := 3) (oi := { dst := some 55, op := Op.fieldAddr 28 (Operand.tmp 3) 1, type := 0, pos := _, after := #[], guard := none }) (v := ?_) rfl (by kernel_rfl) (by kernel_rfl) (by kernel_rfl) (fun _ _ _ h => h) (Or.inl ⟨by rfl, ?_⟩) hHeld ?_
  rotate_left
  · (intro w hSw; (try dsimp only at hSw); first | (go_simp; done) | (go_simp; with_reducible rfl))
  try simp only [Act.put, List.setIfInBounds_toArray, List.set_cons_zero, List.set_cons_succ]
  refine wpAnyH_take (i := 4) (oi := { dst := some 56, op := Op.load 26 (Operand.tmp 55), type := 26, pos := _, after := #[{ on := 3, ground := Ground.data }], guard := none }) (v := ?_) rfl (by kernel_rfl) (by kernel_rfl) (by kernel_rfl) (fun _ _ _ h => h) (Or.inl ⟨by rfl, ?_⟩) hHeld ?_
  rotate_left
  · (intro w hSw; (try dsimp only at hSw); first | (go_simp; done) | (go_simp; with_reducible rfl))
  try simp only [Act.put, List.setIfInBounds_toArray, List.set_cons_zero, List.set_cons_succ]
  refine wpAnyH_ready (rs := [1, 5]) (by kernel_rfl) (by simp) (AllReadyH.cons (o := { dst := some 53, op := Op.load 43 (Operand.tmp 52), type := 43, pos := _, after := #[{ on := 0, ground := Ground.data }], guard := none }) rfl (fun K hK => ?_) (AllReadyH.cons (o := { dst := some 57, op := Op.call { callee := Callee.value (Operand.func 38), args := #[Operand.tmp 56], argTypes := #[26] }, type := 26, pos := _, after := #[{ on := 4, ground := Ground.data }], guard := none }) rfl (fun K hK => ?_) AllReadyH.nil))
  · skip
    go_simp
    refine hK.out _ _ (HS) (fun hHeld => ?_)
    clear hK K
    try simp only [Act.put, List.setIfInBounds_toArray, List.set_cons_zero, List.set_cons_succ]
    refine wpAnyH_ready (rs := [5]) (by kernel_rfl) (by simp) (AllReadyH.cons (o := { dst := some 57, op := Op.call { callee := Callee.value (Operand.func 38), args := #[Operand.tmp 56], argTypes := #[26] }, type := 26, pos := _, after := #[{ on := 4, ground := Ground.data }], guard := none }) rfl (fun K hK => ?_) AllReadyH.nil)
    go_simp
    refine (b_copied (.slice A r.g.stamp.length c) r.g _ HTd.out.fr.g).mono ?_
    rintro e w5 ⟨gv, rfl, ho, hb5⟩
    obtain ⟨A7, n7, hv7, _, _⟩ := own_shape ho
    subst hv7
    have HT5 := Lib.hid (HTd.out.on hb5)
    have HO5 := Lib.hid (own_low ho (show w.heap.size + 3 ≤ _ from HTd.out.size))
    clear ho hb5 HS
    clear e0 e1 e2 e3 f0 f1 f2 f3 c0 c1 c2' c3 c4 c5 c6 c7 c8 c9 c10 c11 z0 z1 z2 z3 g0' g1 g2 g3
    obtain ⟨e0, e1, e2, e3⟩ := four_cells HT5.out.kb
    have f0 := HT5.out.kb.frozen 0
    have f1 := HT5.out.kb.frozen 1
    have f2 := HT5.out.kb.frozen 2
    have f3 := HT5.out.kb.frozen 3
    obtain ⟨c0, c1, c2', c3, c4, c5, c6, c7, c8, c9, c10, c11⟩ := rec_cells HT5.out.kr
    obtain ⟨⟨z0, z1, z2, z3⟩, g0', g1, g2, g3⟩ := zero_cells HT5.out.kz
    have HS := rec_cells HT5.out.kr
    unfold six
    go_simp
    refine hK.out _ _ (HS) (fun hHeld => ?_)
    clear hK K
    try simp only [Act.put, List.setIfInBounds_toArray, List.set_cons_zero, List.set_cons_succ]
    refine wpAnyH_ready (rs := [6]) (by kernel_rfl) (by simp) (AllReadyH.cons (o := { dst := some 58, op := Op.buildSlice 43 1 #[(0, Operand.tmp 57)], type := 43, pos := _, after := #[{ on := 5, ground := Ground.data }], guard := none }) rfl (fun K hK => ?_) AllReadyH.nil)
    go_simp
    have HB6 := Lib.hid ((Below.refl _ w5).alloc (Nat.le_refl _) (.cells #[.int .i64 r.g.id, .int .i64 r.g.holder, .string r.g.path, .int .i64 r.g.mode, .slice A7 r.g.stamp.length n7, .int .i64 r.g.term] 26))
    have HT6 := Lib.hid (HT5.out.on HB6.out)
    have HP6 := Lib.hid (Whole.new w5 26 #[.int .i64 r.g.id, .int .i64 r.g.holder, .string r.g.path, .int .i64 r.g.mode, .slice A7 r.g.stamp.length n7, .int .i64 r.g.term])
    have HO6 := Lib.hid ((Mod.of_below HB6.out []).own HO5.out (by simp))
    clear HB6 HO5 HT5 HS
    clear e0 e1 e2 e3 f0 f1 f2 f3 c0 c1 c2' c3 c4 c5 c6 c7 c8 c9 c10 c11 z0 z1 z2 z3 g0' g1 g2 g3
    have HS := rec_cells HT6.out.kr
    refine hK.out _ _ (HS) (fun hHeld => ?_)
    clear hK K HS
    try simp only [Act.put, List.setIfInBounds_toArray, List.set_cons_zero, List.set_cons_succ]
    generalize w5.alloc (.cells #[.int .i64 r.g.id, .int .i64 r.g.holder, .string r.g.path, .int .i64 r.g.mode, .slice A7 r.g.stamp.length n7, .int .i64 r.g.term] 26) = w6 at HT6 HP6 HO6 hHeld ⊢
    have HS := rec_cells HT6.out.kr
    obtain ⟨e0, e1, e2, e3⟩ := four_cells HT6.out.kb
    have f0 := HT6.out.kb.frozen 0
    have f1 := HT6.out.kb.frozen 1
    have f2 := HT6.out.kb.frozen 2
    have f3 := HT6.out.kb.frozen 3
    obtain ⟨c0, c1, c2', c3, c4, c5, c6, c7, c8, c9, c10, c11⟩ := rec_cells HT6.out.kr
    obtain ⟨⟨z0, z1, z2, z3⟩, g0', g1, g2, g3⟩ := zero_cells HT6.out.kz
    refine wpAnyH_ready (rs := [7]) (by kernel_rfl) (by simp) (AllReadyH.cons (o := { dst := some 59, op := Op.call { callee := Callee.value (Operand.func 65), args := #[Operand.tmp 53, Operand.tmp 54, Operand.tmp 58], argTypes := #[43, 3, 43] }, type := 43, pos := _, after := #[{ on := 1, ground := Ground.data }, { on := 2, ground := Ground.data }, { on := 6, ground := Ground.data }, { on := 5, ground := Ground.chain }], guard := none }) rfl (fun K hK => ?_) AllReadyH.nil)
    go_simp
    refine (Insert_any (base := w.heap.size + 3) w6 HLEN.out HT6.out.own HKL.out HP6.out (by have := HP.out.2.2.2.1; omega) HT6.out.size HO6.out ⟨HFR.out.g.wide, HFR.out.g.hd.parts⟩).mono ?_
    rintro e w7 ⟨v7, rfl, ho, hb7⟩
    obtain ⟨A8, n8, hv8, _, _⟩ := own_shape ho.row
    subst hv8
    clear e0 e1 e2 e3 f0 f1 f2 f3 c0 c1 c2' c3 c4 c5 c6 c7 c8 c9 c10 c11 z0 z1 z2 z3 g0' g1 g2 g3
    have HK7 := Lib.hid (And.intro (HT6.out.kb.low hb7 (by omega)) (And.intro (HT6.out.kr.low hb7 (by omega)) (HT6.out.kz.low hb7 (by omega))))
    have HT9 := Lib.hid (HT6.out.put HFR.out hb7 ho (BM.ins r.g b.gs))
    clear ho hb7 HS
    obtain ⟨e0, e1, e2, e3⟩ := four_cells HK7.out.1
    have f0 := HK7.out.1.frozen 0
    have f1 := HK7.out.1.frozen 1
    have f2 := HK7.out.1.frozen 2
    have f3 := HK7.out.1.frozen 3
    obtain ⟨c0, c1, c2', c3, c4, c5, c6, c7, c8, c9, c10, c11⟩ := rec_cells HK7.out.2.1
    obtain ⟨⟨z0, z1, z2, z3⟩, g0', g1, g2, g3⟩ := zero_cells HK7.out.2.2
    have HS := rec_cells HK7.out.2.1
    go_simp
    refine hK.out _ _ (HS) (fun hHeld => ?_)
    clear hK K
    try simp only [Act.put, List.setIfInBounds_toArray, List.set_cons_zero, List.set_cons_succ]
    refine wpAnyH_take (i := 8) (oi := { dst := some 60, op := Op.fieldAddr 45 (Operand.tmp 2) 3, type := 0, pos := _, after := #[{ on := 0, ground := Ground.phase }, { on := 1, ground := Ground.phase }, { on := 2, ground := Ground.phase }, { on := 3, ground := Ground.phase }, { on := 4, ground := Ground.phase }, { on := 5, ground := Ground.phase }, { on := 6, ground := Ground.phase }, { on := 7, ground := Ground.phase }], guard := none }) (v := ?_) rfl (by kernel_rfl) (by kernel_rfl) (by kernel_rfl) (fun _ _ _ h => h) (Or.inl ⟨by rfl, ?_⟩) hHeld ?_
    rotate_left
    · (intro w hSw; (try dsimp only at hSw); first | (go_simp; done) | (go_simp; with_reducible rfl))
    try simp only [Act.put, List.setIfInBounds_toArray, List.set_cons_zero, List.set_cons_succ]
    refine wpAnyH_ready (rs := [9]) (by kernel_rfl) (by simp) (AllReadyH.cons (o := { dst := none, op := Op.store 43 (Operand.tmp 60) (Operand.tmp 59), type := 0, pos := _, after := #[{ on := 8, ground := Ground.data }, { on := 7, ground := Ground.data }, { on := 7, ground := Ground.chain }, { on := 0, ground := Ground.phase }, { on := 1, ground := Ground.phase }, { on := 2, ground := Ground.phase }, { on := 3, ground := Ground.phase }, { on := 4, ground := Ground.phase }, { on := 5, ground := Ground.phase }, { on := 6, ground := Ground.phase }, { on := 7, ground := Ground.phase }], guard := none }) rfl (fun K hK => ?_) AllReadyH.nil)
    go_simp
    clear HS
    have HS := rec_cells HT9.out.kr
    refine hK.out _ _ (HS) (fun hHeld => ?_)
    clear hK K HS hHeld HK7
    clear e0 e1 e2 e3 f0 f1 f2 f3 c0 c1 c2' c3 c4 c5 c6 c7 c8 c9 c10 c11 z0 z1 z2 z3 g0' g1 g2 g3
    try simp only [Act.put, List.setIfInBounds_toArray, List.set_cons_zero, List.set_cons_succ]
    refine wpAnyH_done (by kernel_rfl) ?_ _
    refine NoPanic.normal ?_
    generalize w7.setCell ⟨w.heap.size, 3, none⟩ (.slice A8 (put ps k (r.g, .slice A7 r.g.stamp.length n7)).length n8) = w9 at HT9 ⊢
    obtain ⟨e0, e1, e2, e3⟩ := four_cells HT9.out.kb
    have f0 := HT9.out.kb.frozen 0
    have f1 := HT9.out.kb.frozen 1
    have f2 := HT9.out.kb.frozen 2
    have f3 := HT9.out.kb.frozen 3
    obtain ⟨c0, c1, c2', c3, c4, c5, c6, c7, c8, c9, c10, c11⟩ := rec_cells HT9.out.kr
    obtain ⟨⟨z0, z1, z2, z3⟩, g0', g1, g2, g3⟩ := zero_cells HT9.out.kz
    go_wp2_with fail
    refine bodyPost_ret (v := .agg (four ({ b with gs := BM.ins r.g b.gs, next := b.next + 1 }) (.slice A8 (put ps k (r.g, .slice A7 r.g.stamp.length n7)).length n8))) (by simp [results, Try.results31, go_sem, z0, z1, z2, z3, four]) rfl ?_
    have hv : BM.behind b r = { b with gs := BM.ins r.g b.gs, next := b.next + 1 } := by unfold BM.behind; simp [hk'.out]
    rw [hv]
    exact HT9.out.done (by rw [HKK.out]; exact put_fst HM.out r.g _)
  · skip
    go_simp
    refine (b_copied (.slice A r.g.stamp.length c) r.g _ HTd.out.fr.g).mono ?_
    rintro e w5 ⟨gv, rfl, ho, hb5⟩
    obtain ⟨A7, n7, hv7, _, _⟩ := own_shape ho
    subst hv7
    have HT5 := Lib.hid (HTd.out.on hb5)
    have HO5 := Lib.hid (own_low ho (show w.heap.size + 3 ≤ _ from HTd.out.size))
    clear ho hb5 HS
    clear e0 e1 e2 e3 f0 f1 f2 f3 c0 c1 c2' c3 c4 c5 c6 c7 c8 c9 c10 c11 z0 z1 z2 z3 g0' g1 g2 g3
    obtain ⟨e0, e1, e2, e3⟩ := four_cells HT5.out.kb
    have f0 := HT5.out.kb.frozen 0
    have f1 := HT5.out.kb.frozen 1
    have f2 := HT5.out.kb.frozen 2
    have f3 := HT5.out.kb.frozen 3
    obtain ⟨c0, c1, c2', c3, c4, c5, c6, c7, c8, c9, c10, c11⟩ := rec_cells HT5.out.kr
    obtain ⟨⟨z0, z1, z2, z3⟩, g0', g1, g2, g3⟩ := zero_cells HT5.out.kz
    have HS := rec_cells HT5.out.kr
    unfold six
    go_simp
    refine hK.out _ _ (HS) (fun hHeld => ?_)
    clear hK K
    try simp only [Act.put, List.setIfInBounds_toArray, List.set_cons_zero, List.set_cons_succ]
    refine wpAnyH_ready (rs := [1, 6]) (by kernel_rfl) (by simp) (AllReadyH.cons (o := { dst := some 53, op := Op.load 43 (Operand.tmp 52), type := 43, pos := _, after := #[{ on := 0, ground := Ground.data }], guard := none }) rfl (fun K hK => ?_) (AllReadyH.cons (o := { dst := some 58, op := Op.buildSlice 43 1 #[(0, Operand.tmp 57)], type := 43, pos := _, after := #[{ on := 5, ground := Ground.data }], guard := none }) rfl (fun K hK => ?_) AllReadyH.nil))
    · skip
      go_simp
      refine hK.out _ _ (HS) (fun hHeld => ?_)
      clear hK K
      try simp only [Act.put, List.setIfInBounds_toArray, List.set_cons_zero, List.set_cons_succ]
      refine wpAnyH_ready (rs := [6]) (by kernel_rfl) (by simp) (AllReadyH.cons (o := { dst := some 58, op := Op.buildSlice 43 1 #[(0, Operand.tmp 57)], type := 43, pos := _, after := #[{ on := 5, ground := Ground.data }], guard := none }) rfl (fun K hK => ?_) AllReadyH.nil)
      go_simp
      have HB6 := Lib.hid ((Below.refl _ w5).alloc (Nat.le_refl _) (.cells #[.int .i64 r.g.id, .int .i64 r.g.holder, .string r.g.path, .int .i64 r.g.mode, .slice A7 r.g.stamp.length n7, .int .i64 r.g.term] 26))
      have HT6 := Lib.hid (HT5.out.on HB6.out)
      have HP6 := Lib.hid (Whole.new w5 26 #[.int .i64 r.g.id, .int .i64 r.g.holder, .string r.g.path, .int .i64 r.g.mode, .slice A7 r.g.stamp.length n7, .int .i64 r.g.term])
      have HO6 := Lib.hid ((Mod.of_below HB6.out []).own HO5.out (by simp))
      clear HB6 HO5 HT5 HS
      clear e0 e1 e2 e3 f0 f1 f2 f3 c0 c1 c2' c3 c4 c5 c6 c7 c8 c9 c10 c11 z0 z1 z2 z3 g0' g1 g2 g3
      have HS := rec_cells HT6.out.kr
      refine hK.out _ _ (HS) (fun hHeld => ?_)
      clear hK K HS
      try simp only [Act.put, List.setIfInBounds_toArray, List.set_cons_zero, List.set_cons_succ]
      generalize w5.alloc (.cells #[.int .i64 r.g.id, .int .i64 r.g.holder, .string r.g.path, .int .i64 r.g.mode, .slice A7 r.g.stamp.length n7, .int .i64 r.g.term] 26) = w6 at HT6 HP6 HO6 hHeld ⊢
      have HS := rec_cells HT6.out.kr
      obtain ⟨e0, e1, e2, e3⟩ := four_cells HT6.out.kb
      have f0 := HT6.out.kb.frozen 0
      have f1 := HT6.out.kb.frozen 1
      have f2 := HT6.out.kb.frozen 2
      have f3 := HT6.out.kb.frozen 3
      obtain ⟨c0, c1, c2', c3, c4, c5, c6, c7, c8, c9, c10, c11⟩ := rec_cells HT6.out.kr
      obtain ⟨⟨z0, z1, z2, z3⟩, g0', g1, g2, g3⟩ := zero_cells HT6.out.kz
      refine wpAnyH_ready (rs := [7]) (by kernel_rfl) (by simp) (AllReadyH.cons (o := { dst := some 59, op := Op.call { callee := Callee.value (Operand.func 65), args := #[Operand.tmp 53, Operand.tmp 54, Operand.tmp 58], argTypes := #[43, 3, 43] }, type := 43, pos := _, after := #[{ on := 1, ground := Ground.data }, { on := 2, ground := Ground.data }, { on := 6, ground := Ground.data }, { on := 5, ground := Ground.chain }], guard := none }) rfl (fun K hK => ?_) AllReadyH.nil)
      go_simp
      refine (Insert_any (base := w.heap.size + 3) w6 HLEN.out HT6.out.own HKL.out HP6.out (by have := HP.out.2.2.2.1; omega) HT6.out.size HO6.out ⟨HFR.out.g.wide, HFR.out.g.hd.parts⟩).mono ?_
      rintro e w7 ⟨v7, rfl, ho, hb7⟩
      obtain ⟨A8, n8, hv8, _, _⟩ := own_shape ho.row
      subst hv8
      clear e0 e1 e2 e3 f0 f1 f2 f3 c0 c1 c2' c3 c4 c5 c6 c7 c8 c9 c10 c11 z0 z1 z2 z3 g0' g1 g2 g3
      have HK7 := Lib.hid (And.intro (HT6.out.kb.low hb7 (by omega)) (And.intro (HT6.out.kr.low hb7 (by omega)) (HT6.out.kz.low hb7 (by omega))))
      have HT9 := Lib.hid (HT6.out.put HFR.out hb7 ho (BM.ins r.g b.gs))
      clear ho hb7 HS
      obtain ⟨e0, e1, e2, e3⟩ := four_cells HK7.out.1
      have f0 := HK7.out.1.frozen 0
      have f1 := HK7.out.1.frozen 1
      have f2 := HK7.out.1.frozen 2
      have f3 := HK7.out.1.frozen 3
      obtain ⟨c0, c1, c2', c3, c4, c5, c6, c7, c8, c9, c10, c11⟩ := rec_cells HK7.out.2.1
      obtain ⟨⟨z0, z1, z2, z3⟩, g0', g1, g2, g3⟩ := zero_cells HK7.out.2.2
      have HS := rec_cells HK7.out.2.1
      go_simp
      refine hK.out _ _ (HS) (fun hHeld => ?_)
      clear hK K
      try simp only [Act.put, List.setIfInBounds_toArray, List.set_cons_zero, List.set_cons_succ]
      refine wpAnyH_take (i := 8) (oi := { dst := some 60, op := Op.fieldAddr 45 (Operand.tmp 2) 3, type := 0, pos := _, after := #[{ on := 0, ground := Ground.phase }, { on := 1, ground := Ground.phase }, { on := 2, ground := Ground.phase }, { on := 3, ground := Ground.phase }, { on := 4, ground := Ground.phase }, { on := 5, ground := Ground.phase }, { on := 6, ground := Ground.phase }, { on := 7, ground := Ground.phase }], guard := none }) (v := ?_) rfl (by kernel_rfl) (by kernel_rfl) (by kernel_rfl) (fun _ _ _ h => h) (Or.inl ⟨by rfl, ?_⟩) hHeld ?_
      rotate_left
      · (intro w hSw; (try dsimp only at hSw); first | (go_simp; done) | (go_simp; with_reducible rfl))
      try simp only [Act.put, List.setIfInBounds_toArray, List.set_cons_zero, List.set_cons_succ]
      refine wpAnyH_ready (rs := [9]) (by kernel_rfl) (by simp) (AllReadyH.cons (o := { dst := none, op := Op.store 43 (Operand.tmp 60) (Operand.tmp 59), type := 0, pos := _, after := #[{ on := 8, ground := Ground.data }, { on := 7, ground := Ground.data }, { on := 7, ground := Ground.chain }, { on := 0, ground := Ground.phase }, { on := 1, ground := Ground.phase }, { on := 2, ground := Ground.phase }, { on := 3, ground := Ground.phase }, { on := 4, ground := Ground.phase }, { on := 5, ground := Ground.phase }, { on := 6, ground := Ground.phase }, { on := 7, ground := Ground.phase }], guard := none }) rfl (fun K hK => ?_) AllReadyH.nil)
      go_simp
      clear HS
      have HS := rec_cells HT9.out.kr
      refine hK.out _ _ (HS) (fun hHeld => ?_)
      clear hK K HS hHeld HK7
      clear e0 e1 e2 e3 f0 f1 f2 f3 c0 c1 c2' c3 c4 c5 c6 c7 c8 c9 c10 c11 z0 z1 z2 z3 g0' g1 g2 g3
      try simp only [Act.put, List.setIfInBounds_toArray, List.set_cons_zero, List.set_cons_succ]
      refine wpAnyH_done (by kernel_rfl) ?_ _
      refine NoPanic.normal ?_
      generalize w7.setCell ⟨w.heap.size, 3, none⟩ (.slice A8 (put ps k (r.g, .slice A7 r.g.stamp.length n7)).length n8) = w9 at HT9 ⊢
      obtain ⟨e0, e1, e2, e3⟩ := four_cells HT9.out.kb
      have f0 := HT9.out.kb.frozen 0
      have f1 := HT9.out.kb.frozen 1
      have f2 := HT9.out.kb.frozen 2
      have f3 := HT9.out.kb.frozen 3
      obtain ⟨c0, c1, c2', c3, c4, c5, c6, c7, c8, c9, c10, c11⟩ := rec_cells HT9.out.kr
      obtain ⟨⟨z0, z1, z2, z3⟩, g0', g1, g2, g3⟩ := zero_cells HT9.out.kz
      go_wp2_with fail
      refine bodyPost_ret (v := .agg (four ({ b with gs := BM.ins r.g b.gs, next := b.next + 1 }) (.slice A8 (put ps k (r.g, .slice A7 r.g.stamp.length n7)).length n8))) (by simp [results, Try.results31, go_sem, z0, z1, z2, z3, four]) rfl ?_
      have hv : BM.behind b r = { b with gs := BM.ins r.g b.gs, next := b.next + 1 } := by unfold BM.behind; simp [hk'.out]
      rw [hv]
      exact HT9.out.done (by rw [HKK.out]; exact put_fst HM.out r.g _)
    · skip
      go_simp
      have HB6 := Lib.hid ((Below.refl _ w5).alloc (Nat.le_refl _) (.cells #[.int .i64 r.g.id, .int .i64 r.g.holder, .string r.g.path, .int .i64 r.g.mode, .slice A7 r.g.stamp.length n7, .int .i64 r.g.term] 26))
      have HT6 := Lib.hid (HT5.out.on HB6.out)
      have HP6 := Lib.hid (Whole.new w5 26 #[.int .i64 r.g.id, .int .i64 r.g.holder, .string r.g.path, .int .i64 r.g.mode, .slice A7 r.g.stamp.length n7, .int .i64 r.g.term])
      have HO6 := Lib.hid ((Mod.of_below HB6.out []).own HO5.out (by simp))
      clear HB6 HO5 HT5 HS
      clear e0 e1 e2 e3 f0 f1 f2 f3 c0 c1 c2' c3 c4 c5 c6 c7 c8 c9 c10 c11 z0 z1 z2 z3 g0' g1 g2 g3
      have HS := rec_cells HT6.out.kr
      refine hK.out _ _ (HS) (fun hHeld => ?_)
      clear hK K HS
      try simp only [Act.put, List.setIfInBounds_toArray, List.set_cons_zero, List.set_cons_succ]
      generalize w5.alloc (.cells #[.int .i64 r.g.id, .int .i64 r.g.holder, .string r.g.path, .int .i64 r.g.mode, .slice A7 r.g.stamp.length n7, .int .i64 r.g.term] 26) = w6 at HT6 HP6 HO6 hHeld ⊢
      have HS := rec_cells HT6.out.kr
      obtain ⟨e0, e1, e2, e3⟩ := four_cells HT6.out.kb
      have f0 := HT6.out.kb.frozen 0
      have f1 := HT6.out.kb.frozen 1
      have f2 := HT6.out.kb.frozen 2
      have f3 := HT6.out.kb.frozen 3
      obtain ⟨c0, c1, c2', c3, c4, c5, c6, c7, c8, c9, c10, c11⟩ := rec_cells HT6.out.kr
      obtain ⟨⟨z0, z1, z2, z3⟩, g0', g1, g2, g3⟩ := zero_cells HT6.out.kz
      refine wpAnyH_ready (rs := [1]) (by kernel_rfl) (by simp) (AllReadyH.cons (o := { dst := some 53, op := Op.load 43 (Operand.tmp 52), type := 43, pos := _, after := #[{ on := 0, ground := Ground.data }], guard := none }) rfl (fun K hK => ?_) AllReadyH.nil)
      go_simp
      refine hK.out _ _ (HS) (fun hHeld => ?_)
      clear hK K
      try simp only [Act.put, List.setIfInBounds_toArray, List.set_cons_zero, List.set_cons_succ]
      refine wpAnyH_ready (rs := [7]) (by kernel_rfl) (by simp) (AllReadyH.cons (o := { dst := some 59, op := Op.call { callee := Callee.value (Operand.func 65), args := #[Operand.tmp 53, Operand.tmp 54, Operand.tmp 58], argTypes := #[43, 3, 43] }, type := 43, pos := _, after := #[{ on := 1, ground := Ground.data }, { on := 2, ground := Ground.data }, { on := 6, ground := Ground.data }, { on := 5, ground := Ground.chain }], guard := none }) rfl (fun K hK => ?_) AllReadyH.nil)
      go_simp
      refine (Insert_any (base := w.heap.size + 3) w6 HLEN.out HT6.out.own HKL.out HP6.out (by have := HP.out.2.2.2.1; omega) HT6.out.size HO6.out ⟨HFR.out.g.wide, HFR.out.g.hd.parts⟩).mono ?_
      rintro e w7 ⟨v7, rfl, ho, hb7⟩
      obtain ⟨A8, n8, hv8, _, _⟩ := own_shape ho.row
      subst hv8
      clear e0 e1 e2 e3 f0 f1 f2 f3 c0 c1 c2' c3 c4 c5 c6 c7 c8 c9 c10 c11 z0 z1 z2 z3 g0' g1 g2 g3
      have HK7 := Lib.hid (And.intro (HT6.out.kb.low hb7 (by omega)) (And.intro (HT6.out.kr.low hb7 (by omega)) (HT6.out.kz.low hb7 (by omega))))
      have HT9 := Lib.hid (HT6.out.put HFR.out hb7 ho (BM.ins r.g b.gs))
      clear ho hb7 HS
      obtain ⟨e0, e1, e2, e3⟩ := four_cells HK7.out.1
      have f0 := HK7.out.1.frozen 0
      have f1 := HK7.out.1.frozen 1
      have f2 := HK7.out.1.frozen 2
      have f3 := HK7.out.1.frozen 3
      obtain ⟨c0, c1, c2', c3, c4, c5, c6, c7, c8, c9, c10, c11⟩ := rec_cells HK7.out.2.1
      obtain ⟨⟨z0, z1, z2, z3⟩, g0', g1, g2, g3⟩ := zero_cells HK7.out.2.2
      have HS := rec_cells HK7.out.2.1
      go_simp
      refine hK.out _ _ (HS) (fun hHeld => ?_)
      clear hK K
      try simp only [Act.put, List.setIfInBounds_toArray, List.set_cons_zero, List.set_cons_succ]
      refine wpAnyH_take (i := 8) (oi := { dst := some 60, op := Op.fieldAddr 45 (Operand.tmp 2) 3, type := 0, pos := _, after := #[{ on := 0, ground := Ground.phase }, { on := 1, ground := Ground.phase }, { on := 2, ground := Ground.phase }, { on := 3, ground := Ground.phase }, { on := 4, ground := Ground.phase }, { on := 5, ground := Ground.phase }, { on := 6, ground := Ground.phase }, { on := 7, ground := Ground.phase }], guard := none }) (v := ?_) rfl (by kernel_rfl) (by kernel_rfl) (by kernel_rfl) (fun _ _ _ h => h) (Or.inl ⟨by rfl, ?_⟩) hHeld ?_
      rotate_left
      · (intro w hSw; (try dsimp only at hSw); first | (go_simp; done) | (go_simp; with_reducible rfl))
      try simp only [Act.put, List.setIfInBounds_toArray, List.set_cons_zero, List.set_cons_succ]
      refine wpAnyH_ready (rs := [9]) (by kernel_rfl) (by simp) (AllReadyH.cons (o := { dst := none, op := Op.store 43 (Operand.tmp 60) (Operand.tmp 59), type := 0, pos := _, after := #[{ on := 8, ground := Ground.data }, { on := 7, ground := Ground.data }, { on := 7, ground := Ground.chain }, { on := 0, ground := Ground.phase }, { on := 1, ground := Ground.phase }, { on := 2, ground := Ground.phase }, { on := 3, ground := Ground.phase }, { on := 4, ground := Ground.phase }, { on := 5, ground := Ground.phase }, { on := 6, ground := Ground.phase }, { on := 7, ground := Ground.phase }], guard := none }) rfl (fun K hK => ?_) AllReadyH.nil)
      go_simp
      clear HS
      have HS := rec_cells HT9.out.kr
      refine hK.out _ _ (HS) (fun hHeld => ?_)
      clear hK K HS hHeld HK7
      clear e0 e1 e2 e3 f0 f1 f2 f3 c0 c1 c2' c3 c4 c5 c6 c7 c8 c9 c10 c11 z0 z1 z2 z3 g0' g1 g2 g3
      try simp only [Act.put, List.setIfInBounds_toArray, List.set_cons_zero, List.set_cons_succ]
      refine wpAnyH_done (by kernel_rfl) ?_ _
      refine NoPanic.normal ?_
      generalize w7.setCell ⟨w.heap.size, 3, none⟩ (.slice A8 (put ps k (r.g, .slice A7 r.g.stamp.length n7)).length n8) = w9 at HT9 ⊢
      obtain ⟨e0, e1, e2, e3⟩ := four_cells HT9.out.kb
      have f0 := HT9.out.kb.frozen 0
      have f1 := HT9.out.kb.frozen 1
      have f2 := HT9.out.kb.frozen 2
      have f3 := HT9.out.kb.frozen 3
      obtain ⟨c0, c1, c2', c3, c4, c5, c6, c7, c8, c9, c10, c11⟩ := rec_cells HT9.out.kr
      obtain ⟨⟨z0, z1, z2, z3⟩, g0', g1, g2, g3⟩ := zero_cells HT9.out.kz
      go_wp2_with fail
      refine bodyPost_ret (v := .agg (four ({ b with gs := BM.ins r.g b.gs, next := b.next + 1 }) (.slice A8 (put ps k (r.g, .slice A7 r.g.stamp.length n7)).length n8))) (by simp [results, Try.results31, go_sem, z0, z1, z2, z3, four]) rfl ?_
      have hv : BM.behind b r = { b with gs := BM.ins r.g b.gs, next := b.next + 1 } := by unfold BM.behind; simp [hk'.out]
      rw [hv]
      exact HT9.out.done (by rw [HKK.out]; exact put_fst HM.out r.g _)
end Go.Proofs.Ytboflkadabagfab
namespace Go.Proofs.Ytboflkadabagfab
open Go.RowKit
open BM (Gr Rc Bk g0 r0 b0)
set_option linter.unusedVariables false
set_option linter.unusedSimpArgs false
set_option maxRecDepth 100000
/-- One grant's stamp is another. -/
def upd (ps : List (Gr × Value)) (k : Nat) (p : Gr × Value) (s : List Int) (nv : Value) : List (Gr × Value) := ps.take k ++ ({ p.1 with stamp := s }, nv) :: ps.drop (k + 1)
theorem split_ps {l : List (Gr × Value)} {k : Nat} {a : Gr × Value} (h : l[k]? = some a) : l = l.take k ++ a :: l.drop (k + 1) := by
  obtain ⟨hk, he⟩ := List.getElem?_eq_some_iff.1 h
  subst he
  rw [List.getElem_cons_drop, List.take_append_drop]
theorem upd_fst {ps : List (Gr × Value)} {l : List Gr} {id : Int} {p : Gr × Value} (hm : ps.map Prod.fst = l) (hr : Rise l) (ht : BM.there id l = true) (hp : ps[ahead l id]? = some p) (s : List Int) (nv : Value) : (upd ps (ahead l id) p s nv).map Prod.fst = BM.fresh id s l := by
  obtain ⟨a, h1, h2⟩ := there_get hr ht
  subst h2
  have e : l[ahead l a.id]? = some p.1 := by rw [← hm, List.getElem?_map, hm, hp]; rfl
  rw [h1] at e
  have e' := Option.some.inj e
  unfold upd
  rw [List.map_append, List.map_cons, List.map_take, List.map_drop, hm, fresh_eq s hr h1, e']
theorem upd_flat {ps : List (Gr × Value)} {k : Nat} {p : Gr × Value} (hp : ps[k]? = some p) (s : List Int) (nv : Value) : (flat ps).set (k * 6 + 4) nv = flat (upd ps k p s nv) := by
  have hk := (List.getElem?_eq_some_iff.1 hp).1
  have hlt : (flat (ps.take k)).length = k * 6 := by rw [flat_len, List.length_take]; congr 1; omega
  have e := congrArg flat (split_ps hp)
  rw [flat_append, flat_cons] at e
  unfold upd
  rw [e, flat_append, flat_cons, List.set_append_right _ _ (by omega), hlt, Nat.add_sub_cancel_left]
  rfl
theorem upd_len {ps : List (Gr × Value)} {k : Nat} {p : Gr × Value} (hp : ps[k]? = some p) (s : List Int) (nv : Value) : (upd ps k p s nv).length = ps.length := by
  have hk := (List.getElem?_eq_some_iff.1 hp).1
  unfold upd
  simp
  omega
theorem upd_own {w : World} {base g n k : Nat} {cur : Array Value} {ps : List (Gr × Value)} {p : Gr × Value} {s : List Int} {nv : Value} (hown : OwnG w base (.slice (some ⟨g, 0, none⟩) n n) ps) (hn : ps.length = n) (hl : n ≤ 1000) (hp : ps[k]? = some p) (hc : Whole w g 26 cur) (hbg : base ≤ g) (hsz : cur.size = n * 6) (htk : cur.toList.take (n * 6) = flat ps)
    (hnv : OwnI w base nv s) (h8 : s.length * 8 ≤ 140737488355328) (hs : ∀ x ∈ s, In64 x) : OwnG (w.setCell ⟨g, k * 6 + 4, none⟩ nv) base (.slice (some ⟨g, 0, none⟩) n n) (upd ps k p s nv) := by
  have hk := (List.getElem?_eq_some_iff.1 hp).1
  have hM : Mod [g] w (w.setCell ⟨g, k * 6 + 4, none⟩ nv) := (Mod.refl _ w).store (p := ⟨g, k * 6 + 4, none⟩) (.inl (by simp)) nv
  have hul := upd_len hp s nv
  have hfl := flat_len (upd ps k p s nv)
  have hown' : ∀ {v : Value} {l : List Int}, OwnI w base v l → OwnI (w.setCell ⟨g, k * 6 + 4, none⟩ nv) base v l := fun ho => hM.own ho (fun e he hf => by
    have : e = g := by simpa using hf
    subst this
    exact own_ne ho hc (by decide) he)
  refine ⟨?_, ?_, ?_, by rw [hul]; exact hown.room⟩
  · refine ⟨hfl, .inr ⟨g, n, cur.setIfInBounds (k * 6 + 4) nv, by rw [hul, hn], hbg, hc.store _ _, by omega, by unfold maxLen; omega, by simpa using hsz, ?_⟩⟩
    rw [hul, hn, Array.toList_setIfInBounds, List.take_set, htk, upd_flat hp s nv]
  · intro q hq
    unfold upd at hq
    rcases List.mem_append.1 hq with hq | hq
    · exact hown' (hown.st q (List.mem_of_mem_take hq))
    · rcases List.mem_cons.1 hq with hq | hq
      · rw [hq]; exact hown' hnv
      · exact hown' (hown.st q (List.mem_of_mem_drop hq))
  · intro q hq
    unfold upd at hq
    rcases List.mem_append.1 hq with hq | hq
    · exact hown.wide q (List.mem_of_mem_take hq)
    · rcases List.mem_cons.1 hq with hq | hq
      · rw [hq]
        have hw := (hown.wide p (List.mem_of_getElem? hp)).1
        exact ⟨⟨hw.id, hw.holder, hw.mode, hw.term, hw.path⟩, h8, hs⟩
      · exact hown.wide q (List.mem_of_mem_drop hq)
theorem BhSt.upd {w0 w : World} {b : Bk} {L s u : Value} {r : Rc} {ps ps' : List (Gr × Value)} (h : BhSt w0 b L r s u ps w) (hf : FitR w0 s u r) {g i : Nat} {v : Value} (hg : w0.heap.size + 3 ≤ g) (hL : OwnG (w.setCell ⟨g, i, none⟩ v) (w0.heap.size + 3) L ps') (gs : List Gr) : BhSt w0 { b with gs := gs } L r s u ps' (w.setCell ⟨g, i, none⟩ v) := by
  have hM : Mod [g] w (w.setCell ⟨g, i, none⟩ v) := (Mod.refl _ w).store (p := ⟨g, i, none⟩) (.inl (by simp)) v
  have hs := h.size
  have hB : Below w0.heap.size w0 (w.setCell ⟨g, i, none⟩ v) := h.below.trans (hM.below (by omega) (by simp; omega))
  exact ⟨hM.whole h.kb (by simp; omega), hM.whole h.kr (by simp; omega), hM.whole h.kz (by simp; omega), hL, hf.below hB, h.fb, by simp; omega, hB⟩
theorem five_cells {w : World} {g h : Nat} {m : Rc} {sv tv L : Value} (hr : Whole w g 28 (twelve m sv tv)) (hl : w.cell? ⟨h, 3, none⟩ = some L) : w.cell? ⟨g, 0, none⟩ = some (.int .i64 m.kind) ∧ w.cell? ⟨g, 1, none⟩ = some (.int .i64 m.g.id) ∧ w.cell? ⟨g, 2, none⟩ = some (.int .i64 m.g.holder) ∧ w.cell? ⟨g, 3, none⟩ = some (.string m.g.path) ∧ w.cell? ⟨g, 4, none⟩ = some (.int .i64 m.g.mode) ∧ w.cell? ⟨g, 5, none⟩ = some sv ∧ w.cell? ⟨g, 6, none⟩ = some (.int .i64 m.g.term) ∧
    w.cell? ⟨g, 7, none⟩ = some (.int .i64 m.id) ∧ w.cell? ⟨g, 8, none⟩ = some tv ∧ w.cell? ⟨g, 9, none⟩ = some (.int .i64 m.next) ∧ w.cell? ⟨g, 10, none⟩ = some (.int .i64 m.boots) ∧ w.cell? ⟨g, 11, none⟩ = some (.int .i64 m.longest) ∧ w.cell? ⟨h, 3, none⟩ = some L :=
  ⟨hr.cell 0, hr.cell 1, hr.cell 2, hr.cell 3, hr.cell 4, hr.cell 5, hr.cell 6, hr.cell 7, hr.cell 8, hr.cell 9, hr.cell 10, hr.cell 11, hl⟩
set_option maxHeartbeats 8000000 in
theorem b5 {A A2 : Option Addr} {c c2 : Nat} (v : Value) (b : Bk) (r : Rc) (w : World) (hb : FitB w v b) (hr : FitR w (.slice A r.g.stamp.length c) (.slice A2 r.stamp.length c2) r) (hok : BM.okBk b = true) (hk : r.kind = 5) (hth : BM.there r.id b.gs = true) :
    Calls Try.prog 31 #[.agg (four b v), .agg (twelve r (.slice A r.g.stamp.length c) (.slice A2 r.stamp.length c2))] w (BkPost w (BM.behind b r)) := by
  have hH : w.heap.size + 1 = (w.alloc (.cells (four b v) 45)).heap.size := by simp
  have hH2 : w.heap.size + 1 + 1 = ((w.alloc (.cells (four b v) 45)).alloc (.cells (twelve r (.slice A r.g.stamp.length c) (.slice A2 r.stamp.length c2)) 28)).heap.size := by simp
  have HX := Lib.hid ((((Below.refl _ w).alloc (Nat.le_refl _) (.cells (four b v) 45)).alloc (by simp) (.cells (twelve r (.slice A r.g.stamp.length c) (.slice A2 r.stamp.length c2)) 28)).alloc (by simp; omega) (.cells z4 45))
  have HB := Lib.hid (hb.below HX.out)
  have HKB := Lib.hid (((Whole.new w 45 (four b v)).alloc (.cells (twelve r (.slice A r.g.stamp.length c) (.slice A2 r.stamp.length c2)) 28)).alloc (.cells z4 45))
  have HKR := Lib.hid (show Whole (((w.alloc (.cells (four b v) 45)).alloc (.cells (twelve r (.slice A r.g.stamp.length c) (.slice A2 r.stamp.length c2)) 28)).alloc (.cells z4 45)) (w.heap.size + 1) 28 (twelve r (.slice A r.g.stamp.length c) (.slice A2 r.stamp.length c2)) from by rw [hH]; exact (Whole.new _ _ _).alloc _)
  have HKZ := Lib.hid (show Whole (((w.alloc (.cells (four b v) 45)).alloc (.cells (twelve r (.slice A r.g.stamp.length c) (.slice A2 r.stamp.length c2)) 28)).alloc (.cells z4 45)) (w.heap.size + 1 + 1) 45 z4 from by rw [hH2]; exact Whole.new _ _ _)
  have HS := Lib.hid (show (((w.alloc (.cells (four b v) 45)).alloc (.cells (twelve r (.slice A r.g.stamp.length c) (.slice A2 r.stamp.length c2)) 28)).alloc (.cells z4 45)).heap.size = w.heap.size + 3 by simp)
  have HP := Lib.hid (BM.okBk_parts hok)
  have HFB := Lib.hid (show In64 b.next ∧ In64 b.boots ∧ In64 b.longest from ⟨hb.next, hb.boots, hb.longest⟩)
  have HFR := Lib.hid hr
  clear hb hr hH hH2
  have HTH := Lib.hid hth
  clear hth
  unfold z4 at HX HB HKB HKR HKZ HS
  obtain ⟨e0, e1, e2, e3⟩ := four_cells HKB.out
  go_enter Try.func31, Try.ntmps31
  go_wp2_with fail
  generalize (((w.alloc (.cells (four b v) 45)).alloc (.cells (twelve r (.slice A r.g.stamp.length c) (.slice A2 r.stamp.length c2)) 28)).alloc (.cells #[.int .i64 0, .int .i64 0, .int .i64 0, .slice none 0 0] 45)) = wa at HX HB HKB HKR HKZ HS e0 e1 e2 e3 ⊢
  refine (b_copiedAll v b.gs wa HB.out.gs (by have := HP.out.2.2.2.1; omega)).mono ?_
  rintro e w1 ⟨B, ps, rfl, hm, ho, hb1⟩
  have HM := Lib.hid hm
  have HKB1 := Lib.hid ((Mod.of_below hb1 []).whole HKB.out (by simp))
  have HT := Lib.hid (head_end hm HS.out HX.out hb1 HKB.out HKR.out HKZ.out ho HFR.out HFB.out)
  clear hm ho hb1 e0 e1 e2 e3 HB HX HKB HKR HKZ HS
  have HKR1 := Lib.hid HT.out.1
  replace HT := Lib.hid HT.out.2
  obtain ⟨e0, e1, e2, e3⟩ := four_cells HKB1.out
  have f0 := HKB1.out.frozen 0
  have f1 := HKB1.out.frozen 1
  have f2 := HKB1.out.frozen 2
  have f3 := HKB1.out.frozen 3
  have c0 : w1.cell? ⟨w.heap.size + 1, 0, none⟩ = some (.int .i64 5) := by rw [← hk]; exact HKR1.out.1.cell 0
  have hk' := Lib.hid hk
  clear hk
  obtain ⟨_, c1, c2', c3, c4, c5, c6, c7, c8, c9, c10, c11⟩ := rec_cells HKR1.out.1
  obtain ⟨⟨z0, z1, z2, z3⟩, g0', g1, g2, g3⟩ := zero_cells HKR1.out.2
  go_wp2_with fail
  have HR := Lib.hid (ok_rise hok)
  have HT1 : Hid (BhSt w (b) (.slice B b.gs.length b.gs.length) r (.slice A r.g.stamp.length c) (.slice A2 r.stamp.length c2) ps ((w1.setCell { block := w.heap.size, off := 3 } (Value.slice B b.gs.length b.gs.length)))) := HT
  clear HT HKB1 HKR1
  clear e0 e1 e2 e3 f0 f1 f2 f3 c0 c1 c2' c3 c4 c5 c6 c7 c8 c9 c10 c11 z0 z1 z2 z3 g0' g1 g2 g3
  generalize (w1.setCell { block := w.heap.size, off := 3 } (Value.slice B b.gs.length b.gs.length)) = w2 at HT1 ⊢
  refine (b_place (.slice B b.gs.length b.gs.length) (b) r.id w2 (HT1.out.bk HM.out) HR.out HFR.out.id (by have := HP.out.2.2.2.1; (try dsimp only); omega)).mono ?_
  rintro e w3 ⟨rfl, hb3⟩
  have HT := Lib.hid (HT1.out.on hb3)
  clear hb3 HT1
  obtain ⟨k, hkk⟩ : ∃ k, k = ahead b.gs r.id := ⟨_, rfl⟩
  have HKK := Lib.hid hkk
  have HKL := Lib.hid (show k ≤ b.gs.length by rw [hkk]; exact ahead_le _ _)
  rw [← hkk]
  clear hkk
  obtain ⟨e0, e1, e2, e3⟩ := four_cells HT.out.kb
  have f0 := HT.out.kb.frozen 0
  have f1 := HT.out.kb.frozen 1
  have f2 := HT.out.kb.frozen 2
  have f3 := HT.out.kb.frozen 3
  obtain ⟨c0, c1, c2', c3, c4, c5, c6, c7, c8, c9, c10, c11⟩ := rec_cells HT.out.kr
  obtain ⟨⟨z0, z1, z2, z3⟩, g0', g1, g2, g3⟩ := zero_cells HT.out.kz
  go_wp2_with fail
  obtain ⟨a, ha, _⟩ := there_get HR.out HTH.out
  have hkl : k < b.gs.length := by rw [HKK.out]; exact (List.getElem?_eq_some_iff.1 ha).1
  have hl : ps.length = b.gs.length := by rw [← HM.out, List.length_map]
  clear e0 e1 e2 e3 f0 f1 f2 f3 c0 c1 c2' c3 c4 c5 c6 c7 c8 c9 c10 c11 z0 z1 z2 z3 g0' g1 g2 g3
  obtain ⟨g, cur, rfl, hbg, hcur, hsz, htk, hnn⟩ := HT.out.own.whole (by omega)
  clear hnn
  obtain ⟨pk, hpk⟩ : ∃ p, ps[k]? = some p := ⟨_, List.getElem?_eq_getElem (by omega)⟩
  obtain ⟨o4, hq⟩ : ∃ v, cur[k * 6 + 4]? = some v := ⟨_, Array.getElem?_eq_getElem (by omega)⟩
  have HTd := Lib.hid HT.out.drew
  have HCd := Lib.hid (show Whole w3.drew g 26 cur from hcur)
  have HSZ := Lib.hid hsz
  have HTK := Lib.hid (show cur.toList.take (b.gs.length * 6) = flat ps by rw [← hl]; exact htk)
  have HPK := Lib.hid hpk
  have HQ := Lib.hid hq
  have HBG := Lib.hid hbg
  have HLEN := Lib.hid hl
  have j0 : (0 : Int) ≤ (k : Int) := by omega
  have j1 : (k : Int) < (b.gs.length : Int) := by omega
  clear ha hl hcur hsz htk hpk hq hbg HT
  refine wp_region_noPanic ?_
  refine wp_region_held_drew (S := fun w2 : World => w2.cell? ⟨w.heap.size + 1, 0, none⟩ = some (.int .i64 r.kind) ∧ w2.cell? ⟨w.heap.size + 1, 1, none⟩ = some (.int .i64 r.g.id) ∧ w2.cell? ⟨w.heap.size + 1, 2, none⟩ = some (.int .i64 r.g.holder) ∧ w2.cell? ⟨w.heap.size + 1, 3, none⟩ = some (.string r.g.path) ∧ w2.cell? ⟨w.heap.size + 1, 4, none⟩ = some (.int .i64 r.g.mode) ∧ w2.cell? ⟨w.heap.size + 1, 5, none⟩ = some (.slice A r.g.stamp.length c) ∧ w2.cell? ⟨w.heap.size + 1, 6, none⟩ = some (.int .i64 r.g.term) ∧ w2.cell? ⟨w.heap.size + 1, 7, none⟩ = some (.int .i64 r.id) ∧ w2.cell? ⟨w.heap.size + 1, 8, none⟩ = some (.slice A2 r.stamp.length c2) ∧ w2.cell? ⟨w.heap.size + 1, 9, none⟩ = some (.int .i64 r.next) ∧ w2.cell? ⟨w.heap.size + 1, 10, none⟩ = some (.int .i64 r.boots) ∧ w2.cell? ⟨w.heap.size + 1, 11, none⟩ = some (.int .i64 r.longest) ∧ w2.cell? ⟨w.heap.size, 3, none⟩ = some (.slice (some ⟨g, 0, none⟩) b.gs.length b.gs.length)) (by kernel_rfl) (five_cells HTd.out.kr (HTd.out.kb.cell 3)) (fun hHeld => ?_)
  generalize w3.drew = wd at HTd HCd hHeld ⊢
  have HS := five_cells HTd.out.kr (HTd.out.kb.cell 3)
  obtain ⟨e0, e1, e2, e3⟩ := four_cells HTd.out.kb
  have f0 := HTd.out.kb.frozen 0
  have f1 := HTd.out.kb.frozen 1
  have f2 := HTd.out.kb.frozen 2
  have f3 := HTd.out.kb.frozen 3
  obtain ⟨c0, c1, c2', c3, c4, c5, c6, c7, c8, c9, c10, c11⟩ := rec_cells HTd.out.kr
  obtain ⟨⟨z0, z1, z2, z3⟩, g0', g1, g2, g3⟩ := zero_cells HTd.out.kz
  refine wpAnyH_take (i := 0) (oi := { dst := some 68, op := Op.fieldAddr 45 (Operand.tmp 2) 3, type := 0, pos := _, after := #[], guard := none }) (v := ?_) rfl (by kernel_rfl) (by kernel_rfl) (by kernel_rfl) (fun _ _ _ h => h) (Or.inl ⟨by rfl, ?_⟩) hHeld ?_
  rotate_left
  · (intro w hSw; (try dsimp only at hSw); first | (go_simp; done) | (go_simp; with_reducible rfl))
  try simp only [Act.put, List.setIfInBounds_toArray, List.set_cons_zero, List.set_cons_succ]
  refine wpAnyH_take (i := 1) (oi := { dst := some 69, op := Op.load 43 (Operand.tmp 68), type := 43, pos := _, after := #[{ on := 0, ground := Ground.data }], guard := none }) (v := ?_) rfl (by kernel_rfl) (by kernel_rfl) (by kernel_rfl) (fun _ _ _ h => h) (Or.inl ⟨by rfl, ?_⟩) hHeld ?_
  rotate_left
  · (intro w hSw; (try dsimp only at hSw); first | (go_simp; done) | (go_simp; with_reducible rfl))
  try simp only [Act.put, List.setIfInBounds_toArray, List.set_cons_zero, List.set_cons_succ]
  refine wpAnyH_take (i := 2) (oi := { dst := some 70, op := Op.move (Operand.tmp 7), type := 3, pos := _, after := #[], guard := none }) (v := ?_) rfl (by kernel_rfl) (by kernel_rfl) (by kernel_rfl) (fun _ _ _ h => h) (Or.inl ⟨by rfl, ?_⟩) hHeld ?_
  rotate_left
  · (intro w hSw; (try dsimp only at hSw); first | (go_simp; done) | (go_simp; with_reducible rfl))
  try simp only [Act.put, List.setIfInBounds_toArray, List.set_cons_zero, List.set_cons_succ]
  refine wpAnyH_take (i := 3) (oi := { dst := some 71, op := Op.fieldAddr 28 (Operand.tmp 3) 3, type := 0, pos := _, after := #[], guard := none }) (v := ?_) rfl (by kernel_rfl) (by kernel_rfl) (by kernel_rfl) (fun _ _ _ h => h) (Or.inl ⟨by rfl, ?_⟩) hHeld ?_
  rotate_left
  · (intro w hSw; (try dsimp only at hSw); first | (go_simp; done) | (go_simp; with_reducible rfl))
  try simp only [Act.put, List.setIfInBounds_toArray, List.set_cons_zero, List.set_cons_succ]
  refine wpAnyH_take (i := 4) (oi := { dst := some 72, op := Op.load 24 (Operand.tmp 71), type := 24, pos := _, after := #[{ on := 3, ground := Ground.data }], guard := none }) (v := ?_) rfl (by kernel_rfl) (by kernel_rfl) (by kernel_rfl) (fun _ _ _ h => h) (Or.inl ⟨by rfl, ?_⟩) hHeld ?_
  rotate_left
  · (intro w hSw; (try dsimp only at hSw); first | (go_simp; done) | (go_simp; with_reducible rfl))
  try simp only [Act.put, List.setIfInBounds_toArray, List.set_cons_zero, List.set_cons_succ]
  refine wpAnyH_ready (rs := [5]) (by kernel_rfl) (by simp) (AllReadyH.cons (o := { dst := some 73, op := Op.call { callee := Callee.value (Operand.func 66), args := #[Operand.tmp 72], argTypes := #[24] }, type := 24, pos := _, after := #[{ on := 4, ground := Ground.data }], guard := none }) rfl (fun K hK => ?_) AllReadyH.nil)
  go_simp
  refine (CloneI_any (.slice A2 r.stamp.length c2) r.stamp _ HTd.out.fr.st).mono ?_
  rintro e w5 ⟨nv, rfl, ho, hb5⟩
  obtain ⟨A7, n7, hv7, _, _⟩ := own_shape ho
  subst hv7
  have HT5 := Lib.hid (HTd.out.on hb5)
  have HC5 := Lib.hid ((Mod.of_below hb5 []).whole HCd.out (by simp))
  have HO5 := Lib.hid (own_low ho (show w.heap.size + 3 ≤ _ from HTd.out.size))
  clear ho hb5 HS
  clear e0 e1 e2 e3 f0 f1 f2 f3 c0 c1 c2' c3 c4 c5 c6 c7 c8 c9 c10 c11 z0 z1 z2 z3 g0' g1 g2 g3
  obtain ⟨e0, e1, e2, e3⟩ := four_cells HT5.out.kb
  have f0 := HT5.out.kb.frozen 0
  have f1 := HT5.out.kb.frozen 1
  have f2 := HT5.out.kb.frozen 2
  have f3 := HT5.out.kb.frozen 3
  obtain ⟨c0, c1, c2', c3, c4, c5, c6, c7, c8, c9, c10, c11⟩ := rec_cells HT5.out.kr
  obtain ⟨⟨z0, z1, z2, z3⟩, g0', g1, g2, g3⟩ := zero_cells HT5.out.kz
  have q4 : w5.cell? ⟨g, k * 6 + 4, none⟩ = some o4 := (HC5.out.cell _).trans HQ.out
  have qf : w5.frozen? ⟨g, k * 6 + 4, none⟩ = false := HC5.out.frozen _
  have HS := five_cells HT5.out.kr (HT5.out.kb.cell 3)
  go_simp
  refine hK.out _ _ (HS) (fun hHeld => ?_)
  clear hK K
  try simp only [Act.put, List.setIfInBounds_toArray, List.set_cons_zero, List.set_cons_succ]
  refine wpAnyH_take (i := 6) (oi := { dst := some 74, op := Op.indexAddr 43 (Operand.tmp 69) (Operand.tmp 70), type := 0, pos := _, after := #[{ on := 1, ground := Ground.data }, { on := 2, ground := Ground.data }, { on := 0, ground := Ground.phase }, { on := 1, ground := Ground.phase }, { on := 2, ground := Ground.phase }, { on := 3, ground := Ground.phase }, { on := 4, ground := Ground.phase }, { on := 5, ground := Ground.phase }], guard := none }) (v := ?_) rfl (by kernel_rfl) (by kernel_rfl) (by kernel_rfl) (fun _ _ _ h => h) (Or.inl ⟨by rfl, ?_⟩) hHeld ?_
  rotate_left
  · (intro w hSw; (try dsimp only at hSw); first | (go_simp; done) | (go_simp; with_reducible rfl))
  try simp only [Act.put, List.setIfInBounds_toArray, List.set_cons_zero, List.set_cons_succ]
  refine wpAnyH_take (i := 7) (oi := { dst := some 75, op := Op.fieldAddr 26 (Operand.tmp 74) 4, type := 0, pos := _, after := #[{ on := 6, ground := Ground.data }, { on := 0, ground := Ground.phase }, { on := 1, ground := Ground.phase }, { on := 2, ground := Ground.phase }, { on := 3, ground := Ground.phase }, { on := 4, ground := Ground.phase }, { on := 5, ground := Ground.phase }], guard := none }) (v := ?_) rfl (by kernel_rfl) (by kernel_rfl) (by kernel_rfl) (fun _ _ _ h => h) (Or.inl ⟨by rfl, ?_⟩) hHeld ?_
  rotate_left
  · (intro w hSw; (try dsimp only at hSw); first | (go_simp; done) | (go_simp; with_reducible rfl))
  try simp only [Act.put, List.setIfInBounds_toArray, List.set_cons_zero, List.set_cons_succ]
  refine wpAnyH_ready (rs := [8]) (by kernel_rfl) (by simp) (AllReadyH.cons (o := { dst := none, op := Op.store 24 (Operand.tmp 75) (Operand.tmp 73), type := 0, pos := _, after := #[{ on := 7, ground := Ground.data }, { on := 5, ground := Ground.data }, { on := 5, ground := Ground.chain }, { on := 0, ground := Ground.phase }, { on := 1, ground := Ground.phase }, { on := 2, ground := Ground.phase }, { on := 3, ground := Ground.phase }, { on := 4, ground := Ground.phase }, { on := 5, ground := Ground.phase }], guard := none }) rfl (fun K hK => ?_) AllReadyH.nil)
  go_simp
  have HT6 := Lib.hid (HT5.out.upd HFR.out HBG.out (upd_own HT5.out.own HLEN.out (by have := HP.out.2.2.2.1; omega) HPK.out HC5.out HBG.out HSZ.out HTK.out HO5.out HFR.out.st.parts.1 HFR.out.st.parts.2) (BM.fresh r.id r.stamp b.gs))
  clear HS
  have HS := five_cells HT6.out.kr (HT6.out.kb.cell 3)
  refine hK.out _ _ (HS) (fun hHeld => ?_)
  clear hK K HS hHeld q4 qf HC5 HO5 HT5
  clear e0 e1 e2 e3 f0 f1 f2 f3 c0 c1 c2' c3 c4 c5 c6 c7 c8 c9 c10 c11 z0 z1 z2 z3 g0' g1 g2 g3
  try simp only [Act.put, List.setIfInBounds_toArray, List.set_cons_zero, List.set_cons_succ]
  refine wpAnyH_done (by kernel_rfl) ?_ _
  refine NoPanic.normal ?_
  generalize w5.setCell ⟨g, k * 6 + 4, none⟩ (.slice A7 r.stamp.length n7) = w6 at HT6 ⊢
  have HT := HT6
  clear HT6 j0 j1 HTd HCd
  obtain ⟨e0, e1, e2, e3⟩ := four_cells HT.out.kb
  have f0 := HT.out.kb.frozen 0
  have f1 := HT.out.kb.frozen 1
  have f2 := HT.out.kb.frozen 2
  have f3 := HT.out.kb.frozen 3
  obtain ⟨c0, c1, c2', c3, c4, c5, c6, c7, c8, c9, c10, c11⟩ := rec_cells HT.out.kr
  obtain ⟨⟨z0, z1, z2, z3⟩, g0', g1, g2, g3⟩ := zero_cells HT.out.kz
  have jw : wrap64 (b.next + 1) = b.next + 1 := by have := HP.out.1; unfold wrap64; omega
  go_wp2_with fail
  refine bodyPost_ret (v := .agg (four ({ b with gs := BM.fresh r.id r.stamp b.gs, next := b.next + 1 }) (.slice (some ⟨g, 0, none⟩) b.gs.length b.gs.length))) (by simp [results, Try.results31, go_sem, z0, z1, z2, z3, four]) rfl ?_
  have hv : BM.behind b r = { b with gs := BM.fresh r.id r.stamp b.gs, next := b.next + 1 } := by unfold BM.behind; simp [hk'.out]
  rw [hv]
  exact (HT.out.store HFR.out (i := 0) (v := .int .i64 (b.next + 1)) (b' := { b with gs := BM.fresh r.id r.stamp b.gs, next := b.next + 1 }) (L' := (.slice (some ⟨g, 0, none⟩) b.gs.length b.gs.length)) rfl HT.out.own ⟨by have := HP.out.1; unfold In64; constructor <;> dsimp only <;> omega, HFB.out.2.1, HFB.out.2.2⟩).done (by rw [HKK.out] at HPK ⊢; exact upd_fst HM.out HR.out HTH.out HPK.out _ _)
end Go.Proofs.Ytboflkadabagfab
