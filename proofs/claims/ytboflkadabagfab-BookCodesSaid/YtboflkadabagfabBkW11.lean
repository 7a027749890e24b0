/- May a record be, its bytes, the record of bytes: the package's calls. -/
import Derived.Test.YtboflkadabagfabBkW10
import Derived.Test.YtboflkadabagfabBkTM
import Derived.OrdersHeld
namespace Go.Proofs.Ytboflkadabagfab
open Go.RowKit
open BM (Gr Rc Bk g0 r0 b0)
set_option linter.unusedVariables false
set_option linter.unusedSimpArgs false
set_option maxRecDepth 100000
theorem cs12BkW11 {w : World} {g : Nat} {t : TypeId} {a0 a1 a2 a3 a4 a5 a6 a7 a8 a9 a10 a11 : Value} (h : Whole w g t #[a0, a1, a2, a3, a4, a5, a6, a7, a8, a9, a10, a11]) : w.cell? ⟨g, 0, none⟩ = some a0 ∧ w.cell? ⟨g, 1, none⟩ = some a1 ∧ w.cell? ⟨g, 2, none⟩ = some a2 ∧ w.cell? ⟨g, 3, none⟩ = some a3 ∧ w.cell? ⟨g, 4, none⟩ = some a4 ∧ w.cell? ⟨g, 5, none⟩ = some a5 ∧ w.cell? ⟨g, 6, none⟩ = some a6 ∧ w.cell? ⟨g, 7, none⟩ = some a7 ∧ w.cell? ⟨g, 8, none⟩ = some a8 ∧ w.cell? ⟨g, 9, none⟩ = some a9 ∧ w.cell? ⟨g, 10, none⟩ = some a10 ∧ w.cell? ⟨g, 11, none⟩ = some a11 :=
  ⟨h.cell 0, h.cell 1, h.cell 2, h.cell 3, h.cell 4, h.cell 5, h.cell 6, h.cell 7, h.cell 8, h.cell 9, h.cell 10, h.cell 11⟩
set_option maxHeartbeats 8000000 in
theorem b_mayRecord (v u : Value) (r : Rc) (w : World) (h : FitR w v u r) :
    Calls Try.prog 17 #[.agg (twelve r v u)] w fun e w' => e = .returned (.bool (BM.okRc r)) ∧ Below w.heap.size w w' := by
  obtain ⟨A, c, hv, _⟩ := h.g.hd
  obtain ⟨B, d, hu, _⟩ := h.st
  subst hv hu
  have HX := Lib.hid (((Below.refl _ w).alloc (Nat.le_refl _) (.cells (twelve r (.slice A r.g.stamp.length c) (.slice B r.stamp.length d)) 28)).drew)
  have HR := Lib.hid (h.below HX.out)
  have HK := Lib.hid ((Whole.new w 28 (twelve r (.slice A r.g.stamp.length c) (.slice B r.stamp.length d))).drewN 1)
  clear h
  have HB9 := Lib.hid (Below.refl (w.alloc (.cells (twelve r (.slice A r.g.stamp.length c) (.slice B r.stamp.length d)) 28)).drew.heap.size (w.alloc (.cells (twelve r (.slice A r.g.stamp.length c) (.slice B r.stamp.length d)) 28)).drew)
  have QU := Lib.hid (fun w' (hb : Below (w.alloc (.cells (twelve r (.slice A r.g.stamp.length c) (.slice B r.stamp.length d)) 28)).drew.heap.size (w.alloc (.cells (twelve r (.slice A r.g.stamp.length c) (.slice B r.stamp.length d)) 28)).drew w') => b_mayUse _ _ r w' (HR.out.below hb))
  have HKK := Lib.hid (fun w' (hb : Below (w.alloc (.cells (twelve r (.slice A r.g.stamp.length c) (.slice B r.stamp.length d)) 28)).drew.heap.size (w.alloc (.cells (twelve r (.slice A r.g.stamp.length c) (.slice B r.stamp.length d)) 28)).drew w') => (Mod.of_below hb []).whole HK.out (by simp))
  have HS : (w.alloc (.cells (twelve r (.slice A r.g.stamp.length c) (.slice B r.stamp.length d)) 28)).drew.cell? ⟨w.heap.size, 0, none⟩ = some (.int .i64 r.kind) ∧ (w.alloc (.cells (twelve r (.slice A r.g.stamp.length c) (.slice B r.stamp.length d)) 28)).drew.cell? ⟨w.heap.size, 1, none⟩ = some (.int .i64 r.g.id) ∧ (w.alloc (.cells (twelve r (.slice A r.g.stamp.length c) (.slice B r.stamp.length d)) 28)).drew.cell? ⟨w.heap.size, 2, none⟩ = some (.int .i64 r.g.holder) ∧ (w.alloc (.cells (twelve r (.slice A r.g.stamp.length c) (.slice B r.stamp.length d)) 28)).drew.cell? ⟨w.heap.size, 3, none⟩ = some (.string r.g.path) ∧ (w.alloc (.cells (twelve r (.slice A r.g.stamp.length c) (.slice B r.stamp.length d)) 28)).drew.cell? ⟨w.heap.size, 4, none⟩ = some (.int .i64 r.g.mode) ∧ (w.alloc (.cells (twelve r (.slice A r.g.stamp.length c) (.slice B r.stamp.length d)) 28)).drew.cell? ⟨w.heap.size, 5, none⟩ = some (.slice A r.g.stamp.length c) ∧ (w.alloc (.cells (twelve r (.slice A r.g.stamp.length c) (.slice B r.stamp.length d)) 28)).drew.cell? ⟨w.heap.size, 6, none⟩ = some (.int .i64 r.g.term) ∧ (w.alloc (.cells (twelve r (.slice A r.g.stamp.length c) (.slice B r.stamp.length d)) 28)).drew.cell? ⟨w.heap.size, 7, none⟩ = some (.int .i64 r.id) ∧ (w.alloc (.cells (twelve r (.slice A r.g.stamp.length c) (.slice B r.stamp.length d)) 28)).drew.cell? ⟨w.heap.size, 8, none⟩ = some (.slice B r.stamp.length d) ∧ (w.alloc (.cells (twelve r (.slice A r.g.stamp.length c) (.slice B r.stamp.length d)) 28)).drew.cell? ⟨w.heap.size, 9, none⟩ = some (.int .i64 r.next) ∧ (w.alloc (.cells (twelve r (.slice A r.g.stamp.length c) (.slice B r.stamp.length d)) 28)).drew.cell? ⟨w.heap.size, 10, none⟩ = some (.int .i64 r.boots) ∧ (w.alloc (.cells (twelve r (.slice A r.g.stamp.length c) (.slice B r.stamp.length d)) 28)).drew.cell? ⟨w.heap.size, 11, none⟩ = some (.int .i64 r.longest) := ⟨HK.out.cell 0, HK.out.cell 1, HK.out.cell 2, HK.out.cell 3, HK.out.cell 4, HK.out.cell 5, HK.out.cell 6, HK.out.cell 7, HK.out.cell 8, HK.out.cell 9, HK.out.cell 10, HK.out.cell 11⟩
  cases hq : BM.mayUse r with
  | false =>
    rw [hq] at QU
    have HE := Lib.hid (show BM.okRc r = false by unfold BM.okRc; rw [hq]; rfl)
    clear hq
    go_enter Try.func17, Try.ntmps17
    go_wp2_with fail
    refine wp_region_noPanic ?_
    refine wp_region_held_drew (S := fun w2 : World => w2.cell? ⟨w.heap.size, 0, none⟩ = some (.int .i64 r.kind) ∧ w2.cell? ⟨w.heap.size, 1, none⟩ = some (.int .i64 r.g.id) ∧ w2.cell? ⟨w.heap.size, 2, none⟩ = some (.int .i64 r.g.holder) ∧ w2.cell? ⟨w.heap.size, 3, none⟩ = some (.string r.g.path) ∧ w2.cell? ⟨w.heap.size, 4, none⟩ = some (.int .i64 r.g.mode) ∧ w2.cell? ⟨w.heap.size, 5, none⟩ = some (.slice A r.g.stamp.length c) ∧ w2.cell? ⟨w.heap.size, 6, none⟩ = some (.int .i64 r.g.term) ∧ w2.cell? ⟨w.heap.size, 7, none⟩ = some (.int .i64 r.id) ∧ w2.cell? ⟨w.heap.size, 8, none⟩ = some (.slice B r.stamp.length d) ∧ w2.cell? ⟨w.heap.size, 9, none⟩ = some (.int .i64 r.next) ∧ w2.cell? ⟨w.heap.size, 10, none⟩ = some (.int .i64 r.boots) ∧ w2.cell? ⟨w.heap.size, 11, none⟩ = some (.int .i64 r.longest)) (by kernel_rfl) (HS) (fun hHeld => ?_)
    refine wpAnyH_take (i := 0) (oi := { dst := some 3, op := Op.load 28 (Operand.tmp 1), type := 28, pos := _, after := #[], guard := none }) (v := ?_) rfl (by kernel_rfl) (by kernel_rfl) (by kernel_rfl) (fun _ _ _ h => h) (Or.inl ⟨by rfl, ?_⟩) hHeld ?_
    rotate_left
    · (intro w hSw; (try dsimp only at hSw); first | (go_simp; done) | (go_simp; with_reducible rfl))
    try simp only [Act.put, List.setIfInBounds_toArray, List.set_cons_zero, List.set_cons_succ]
    refine wpAnyH_ready (rs := [1]) (by kernel_rfl) (by simp) (AllReadyH.cons (o := { dst := some 4, op := Op.call { callee := Callee.value (Operand.func 39), args := #[Operand.tmp 3], argTypes := #[28] }, type := 4, pos := _, after := #[{ on := 0, ground := Ground.data }], guard := none }) rfl (fun K hK => ?_) AllReadyH.nil)
    go_simp
    refine (QU.out _ HB9.out).mono ?_
    rintro x w5 ⟨rfl, hb⟩
    replace HB9 := Lib.hid (HB9.out.trans (hb.mono HB9.out.size))
    clear hb HS
    have hk5 := HKK.out _ HB9.out
    have HS : w5.cell? ⟨w.heap.size, 0, none⟩ = some (.int .i64 r.kind) ∧ w5.cell? ⟨w.heap.size, 1, none⟩ = some (.int .i64 r.g.id) ∧ w5.cell? ⟨w.heap.size, 2, none⟩ = some (.int .i64 r.g.holder) ∧ w5.cell? ⟨w.heap.size, 3, none⟩ = some (.string r.g.path) ∧ w5.cell? ⟨w.heap.size, 4, none⟩ = some (.int .i64 r.g.mode) ∧ w5.cell? ⟨w.heap.size, 5, none⟩ = some (.slice A r.g.stamp.length c) ∧ w5.cell? ⟨w.heap.size, 6, none⟩ = some (.int .i64 r.g.term) ∧ w5.cell? ⟨w.heap.size, 7, none⟩ = some (.int .i64 r.id) ∧ w5.cell? ⟨w.heap.size, 8, none⟩ = some (.slice B r.stamp.length d) ∧ w5.cell? ⟨w.heap.size, 9, none⟩ = some (.int .i64 r.next) ∧ w5.cell? ⟨w.heap.size, 10, none⟩ = some (.int .i64 r.boots) ∧ w5.cell? ⟨w.heap.size, 11, none⟩ = some (.int .i64 r.longest) := ⟨hk5.cell 0, hk5.cell 1, hk5.cell 2, hk5.cell 3, hk5.cell 4, hk5.cell 5, hk5.cell 6, hk5.cell 7, hk5.cell 8, hk5.cell 9, hk5.cell 10, hk5.cell 11⟩
    clear hk5
    go_simp
    refine hK.out _ _ (HS) (fun hHeld => ?_)
    clear hK K
    try simp only [Act.put, List.setIfInBounds_toArray, List.set_cons_zero, List.set_cons_succ]
    refine wpAnyH_take (i := 2) (oi := { dst := some 5, op := Op.move (Operand.tmp 4), type := 4, pos := _, after := #[{ on := 1, ground := Ground.data }, { on := 1, ground := Ground.chain }], guard := none }) (v := ?_) rfl (by kernel_rfl) (by kernel_rfl) (by kernel_rfl) (fun _ _ _ h => h) (Or.inl ⟨by rfl, ?_⟩) hHeld ?_
    rotate_left
    · (intro w hSw; (try dsimp only at hSw); first | (go_simp; done) | (go_simp; with_reducible rfl))
    try simp only [Act.put, List.setIfInBounds_toArray, List.set_cons_zero, List.set_cons_succ]
    refine wpAnyH_take (i := 3) (oi := { dst := some 6, op := Op.load 28 (Operand.tmp 1), type := 28, pos := _, after := #[{ on := 2, ground := Ground.guard }], guard := some (2, true) }) (v := undef) rfl (by kernel_rfl) (by kernel_rfl) (by kernel_rfl) (fun _ _ _ h => h) (Or.inr ⟨by rfl, rfl⟩) hHeld ?_
    try simp only [Act.put, List.setIfInBounds_toArray, List.set_cons_zero, List.set_cons_succ]
    refine wpAnyH_take (i := 4) (oi := { dst := some 7, op := Op.load 28 (Operand.tmp 1), type := 28, pos := _, after := #[{ on := 2, ground := Ground.guard }], guard := some (2, true) }) (v := undef) rfl (by kernel_rfl) (by kernel_rfl) (by kernel_rfl) (fun _ _ _ h => h) (Or.inr ⟨by rfl, rfl⟩) hHeld ?_
    try simp only [Act.put, List.setIfInBounds_toArray, List.set_cons_zero, List.set_cons_succ]
    refine wpAnyH_take (i := 5) (oi := { dst := some 8, op := Op.call { callee := Callee.value (Operand.func 18), args := #[Operand.tmp 7], argTypes := #[28] }, type := 29, pos := _, after := #[{ on := 4, ground := Ground.data }, { on := 2, ground := Ground.chain }, { on := 2, ground := Ground.guard }], guard := some (2, true) }) (v := undef) rfl (by kernel_rfl) (by kernel_rfl) (by kernel_rfl) (fun _ _ _ h => h) (Or.inr ⟨by rfl, rfl⟩) hHeld ?_
    try simp only [Act.put, List.setIfInBounds_toArray, List.set_cons_zero, List.set_cons_succ]
    refine wpAnyH_take (i := 6) (oi := { dst := some 9, op := Op.call { callee := Callee.value (Operand.func 23), args := #[Operand.tmp 8], argTypes := #[29] }, type := 28, pos := _, after := #[{ on := 5, ground := Ground.data }, { on := 5, ground := Ground.chain }, { on := 2, ground := Ground.guard }], guard := some (2, true) }) (v := undef) rfl (by kernel_rfl) (by kernel_rfl) (by kernel_rfl) (fun _ _ _ h => h) (Or.inr ⟨by rfl, rfl⟩) hHeld ?_
    try simp only [Act.put, List.setIfInBounds_toArray, List.set_cons_zero, List.set_cons_succ]
    refine wpAnyH_take (i := 7) (oi := { dst := some 10, op := Op.call { callee := Callee.value (Operand.func 40), args := #[Operand.tmp 6, Operand.tmp 9], argTypes := #[28, 28] }, type := 4, pos := _, after := #[{ on := 3, ground := Ground.data }, { on := 6, ground := Ground.data }, { on := 6, ground := Ground.chain }, { on := 2, ground := Ground.guard }], guard := some (2, true) }) (v := undef) rfl (by kernel_rfl) (by kernel_rfl) (by kernel_rfl) (fun _ _ _ h => h) (Or.inr ⟨by rfl, rfl⟩) hHeld ?_
    try simp only [Act.put, List.setIfInBounds_toArray, List.set_cons_zero, List.set_cons_succ]
    refine wpAnyH_take (i := 8) (oi := { dst := some 11, op := Op.pick (Operand.tmp 5) (Operand.tmp 10) (Operand.const (Value.bool false)), type := 4, pos := _, after := #[{ on := 2, ground := Ground.data }, { on := 7, ground := Ground.data }], guard := none }) (v := ?_) rfl (by kernel_rfl) (by kernel_rfl) (by kernel_rfl) (fun _ _ _ h => h) (Or.inl ⟨by rfl, ?_⟩) hHeld ?_
    rotate_left
    · (intro w hSw; (try dsimp only at hSw); first | (go_simp; done) | (go_simp; with_reducible rfl))
    try simp only [Act.put, List.setIfInBounds_toArray, List.set_cons_zero, List.set_cons_succ]
    refine wpAnyH_take (i := 9) (oi := { dst := some 2, op := Op.assign (Operand.tmp 11), type := 4, pos := _, after := #[{ on := 8, ground := Ground.data }, { on := 7, ground := Ground.chain }, { on := 0, ground := Ground.phase }, { on := 1, ground := Ground.phase }, { on := 2, ground := Ground.phase }, { on := 3, ground := Ground.phase }, { on := 4, ground := Ground.phase }, { on := 5, ground := Ground.phase }, { on := 6, ground := Ground.phase }, { on := 7, ground := Ground.phase }, { on := 8, ground := Ground.phase }], guard := none }) (v := ?_) rfl (by kernel_rfl) (by kernel_rfl) (by kernel_rfl) (fun _ _ _ h => h) (Or.inl ⟨by rfl, ?_⟩) hHeld ?_
    rotate_left
    · (intro w hSw; (try dsimp only at hSw); first | (go_simp; done) | (go_simp; with_reducible rfl))
    try simp only [Act.put, List.setIfInBounds_toArray, List.set_cons_zero, List.set_cons_succ]
    refine wpAnyH_done (by kernel_rfl) ?_ _
    refine NoPanic.normal ?_
    go_wp2_with fail
    go_ret
    exact bools HE.out.symm (HX.out.trans (HB9.out.mono HX.out.size))
  | true =>
    rw [hq] at QU
    have HE := Lib.hid (show decide (r = BM.taken 4 (BM.laid r)) = BM.okRc r by unfold BM.okRc; rw [hq, Bool.true_and, BM.taken_laid 4 hq (by omega), Bool.eq_iff_iff]; simp [eq_comm])
    have HMU := Lib.hid hq
    clear hq
    go_enter Try.func17, Try.ntmps17
    go_wp2_with fail
    refine wp_region_noPanic ?_
    refine wp_region_held_drew (S := fun w2 : World => w2.cell? ⟨w.heap.size, 0, none⟩ = some (.int .i64 r.kind) ∧ w2.cell? ⟨w.heap.size, 1, none⟩ = some (.int .i64 r.g.id) ∧ w2.cell? ⟨w.heap.size, 2, none⟩ = some (.int .i64 r.g.holder) ∧ w2.cell? ⟨w.heap.size, 3, none⟩ = some (.string r.g.path) ∧ w2.cell? ⟨w.heap.size, 4, none⟩ = some (.int .i64 r.g.mode) ∧ w2.cell? ⟨w.heap.size, 5, none⟩ = some (.slice A r.g.stamp.length c) ∧ w2.cell? ⟨w.heap.size, 6, none⟩ = some (.int .i64 r.g.term) ∧ w2.cell? ⟨w.heap.size, 7, none⟩ = some (.int .i64 r.id) ∧ w2.cell? ⟨w.heap.size, 8, none⟩ = some (.slice B r.stamp.length d) ∧ w2.cell? ⟨w.heap.size, 9, none⟩ = some (.int .i64 r.next) ∧ w2.cell? ⟨w.heap.size, 10, none⟩ = some (.int .i64 r.boots) ∧ w2.cell? ⟨w.heap.size, 11, none⟩ = some (.int .i64 r.longest)) (by kernel_rfl) (HS) (fun hHeld => ?_)
    refine wpAnyH_take (i := 0) (oi := { dst := some 3, op := Op.load 28 (Operand.tmp 1), type := 28, pos := _, after := #[], guard := none }) (v := ?_) rfl (by kernel_rfl) (by kernel_rfl) (by kernel_rfl) (fun _ _ _ h => h) (Or.inl ⟨by rfl, ?_⟩) hHeld ?_
    rotate_left
    · (intro w hSw; (try dsimp only at hSw); first | (go_simp; done) | (go_simp; with_reducible rfl))
    try simp only [Act.put, List.setIfInBounds_toArray, List.set_cons_zero, List.set_cons_succ]
    refine wpAnyH_ready (rs := [1]) (by kernel_rfl) (by simp) (AllReadyH.cons (o := { dst := some 4, op := Op.call { callee := Callee.value (Operand.func 39), args := #[Operand.tmp 3], argTypes := #[28] }, type := 4, pos := _, after := #[{ on := 0, ground := Ground.data }], guard := none }) rfl (fun K hK => ?_) AllReadyH.nil)
    go_simp
    refine (QU.out _ HB9.out).mono ?_
    rintro x w5 ⟨rfl, hb⟩
    replace HB9 := Lib.hid (HB9.out.trans (hb.mono HB9.out.size))
    clear hb HS
    have hk5 := HKK.out _ HB9.out
    have HS : w5.cell? ⟨w.heap.size, 0, none⟩ = some (.int .i64 r.kind) ∧ w5.cell? ⟨w.heap.size, 1, none⟩ = some (.int .i64 r.g.id) ∧ w5.cell? ⟨w.heap.size, 2, none⟩ = some (.int .i64 r.g.holder) ∧ w5.cell? ⟨w.heap.size, 3, none⟩ = some (.string r.g.path) ∧ w5.cell? ⟨w.heap.size, 4, none⟩ = some (.int .i64 r.g.mode) ∧ w5.cell? ⟨w.heap.size, 5, none⟩ = some (.slice A r.g.stamp.length c) ∧ w5.cell? ⟨w.heap.size, 6, none⟩ = some (.int .i64 r.g.term) ∧ w5.cell? ⟨w.heap.size, 7, none⟩ = some (.int .i64 r.id) ∧ w5.cell? ⟨w.heap.size, 8, none⟩ = some (.slice B r.stamp.length d) ∧ w5.cell? ⟨w.heap.size, 9, none⟩ = some (.int .i64 r.next) ∧ w5.cell? ⟨w.heap.size, 10, none⟩ = some (.int .i64 r.boots) ∧ w5.cell? ⟨w.heap.size, 11, none⟩ = some (.int .i64 r.longest) := ⟨hk5.cell 0, hk5.cell 1, hk5.cell 2, hk5.cell 3, hk5.cell 4, hk5.cell 5, hk5.cell 6, hk5.cell 7, hk5.cell 8, hk5.cell 9, hk5.cell 10, hk5.cell 11⟩
    clear hk5
    go_simp
    refine hK.out _ _ (HS) (fun hHeld => ?_)
    clear hK K
    try simp only [Act.put, List.setIfInBounds_toArray, List.set_cons_zero, List.set_cons_succ]
    refine wpAnyH_take (i := 2) (oi := { dst := some 5, op := Op.move (Operand.tmp 4), type := 4, pos := _, after := #[{ on := 1, ground := Ground.data }, { on := 1, ground := Ground.chain }], guard := none }) (v := ?_) rfl (by kernel_rfl) (by kernel_rfl) (by kernel_rfl) (fun _ _ _ h => h) (Or.inl ⟨by rfl, ?_⟩) hHeld ?_
    rotate_left
    · (intro w hSw; (try dsimp only at hSw); first | (go_simp; done) | (go_simp; with_reducible rfl))
    try simp only [Act.put, List.setIfInBounds_toArray, List.set_cons_zero, List.set_cons_succ]
    refine wpAnyH_take (i := 3) (oi := { dst := some 6, op := Op.load 28 (Operand.tmp 1), type := 28, pos := _, after := #[{ on := 2, ground := Ground.guard }], guard := some (2, true) }) (v := ?_) rfl (by kernel_rfl) (by kernel_rfl) (by kernel_rfl) (fun _ _ _ h => h) (Or.inl ⟨by rfl, ?_⟩) hHeld ?_
    rotate_left
    · (intro w hSw; (try dsimp only at hSw); first | (go_simp; done) | (go_simp; with_reducible rfl))
    try simp only [Act.put, List.setIfInBounds_toArray, List.set_cons_zero, List.set_cons_succ]
    refine wpAnyH_take (i := 4) (oi := { dst := some 7, op := Op.load 28 (Operand.tmp 1), type := 28, pos := _, after := #[{ on := 2, ground := Ground.guard }], guard := some (2, true) }) (v := ?_) rfl (by kernel_rfl) (by kernel_rfl) (by kernel_rfl) (fun _ _ _ h => h) (Or.inl ⟨by rfl, ?_⟩) hHeld ?_
    rotate_left
    · (intro w hSw; (try dsimp only at hSw); first | (go_simp; done) | (go_simp; with_reducible rfl))
    try simp only [Act.put, List.setIfInBounds_toArray, List.set_cons_zero, List.set_cons_succ]
    refine wpAnyH_ready (rs := [5]) (by kernel_rfl) (by simp) (AllReadyH.cons (o := { dst := some 8, op := Op.call { callee := Callee.value (Operand.func 18), args := #[Operand.tmp 7], argTypes := #[28] }, type := 29, pos := _, after := #[{ on := 4, ground := Ground.data }, { on := 2, ground := Ground.chain }, { on := 2, ground := Ground.guard }], guard := some (2, true) }) rfl (fun K hK => ?_) AllReadyH.nil)
    go_simp
    refine (b_laid _ _ r _ (HR.out.below HB9.out) HMU.out).mono ?_
    rintro x w5 ⟨lv, rfl, ho, hb⟩
    have HO := Lib.hid ho; clear ho
    obtain ⟨AL, cL, hAL, hL1, hL2⟩ := Oct.own_shape HO.out
    subst hAL
    replace HB9 := Lib.hid (HB9.out.trans (hb.mono HB9.out.size))
    clear hb HS
    have hk5 := HKK.out _ HB9.out
    have HS : w5.cell? ⟨w.heap.size, 0, none⟩ = some (.int .i64 r.kind) ∧ w5.cell? ⟨w.heap.size, 1, none⟩ = some (.int .i64 r.g.id) ∧ w5.cell? ⟨w.heap.size, 2, none⟩ = some (.int .i64 r.g.holder) ∧ w5.cell? ⟨w.heap.size, 3, none⟩ = some (.string r.g.path) ∧ w5.cell? ⟨w.heap.size, 4, none⟩ = some (.int .i64 r.g.mode) ∧ w5.cell? ⟨w.heap.size, 5, none⟩ = some (.slice A r.g.stamp.length c) ∧ w5.cell? ⟨w.heap.size, 6, none⟩ = some (.int .i64 r.g.term) ∧ w5.cell? ⟨w.heap.size, 7, none⟩ = some (.int .i64 r.id) ∧ w5.cell? ⟨w.heap.size, 8, none⟩ = some (.slice B r.stamp.length d) ∧ w5.cell? ⟨w.heap.size, 9, none⟩ = some (.int .i64 r.next) ∧ w5.cell? ⟨w.heap.size, 10, none⟩ = some (.int .i64 r.boots) ∧ w5.cell? ⟨w.heap.size, 11, none⟩ = some (.int .i64 r.longest) := ⟨hk5.cell 0, hk5.cell 1, hk5.cell 2, hk5.cell 3, hk5.cell 4, hk5.cell 5, hk5.cell 6, hk5.cell 7, hk5.cell 8, hk5.cell 9, hk5.cell 10, hk5.cell 11⟩
    clear hk5
    go_simp
    refine hK.out _ _ (HS) (fun hHeld => ?_)
    clear hK K
    try simp only [Act.put, List.setIfInBounds_toArray, List.set_cons_zero, List.set_cons_succ]
    refine wpAnyH_ready (rs := [6]) (by kernel_rfl) (by simp) (AllReadyH.cons (o := { dst := some 9, op := Op.call { callee := Callee.value (Operand.func 23), args := #[Operand.tmp 8], argTypes := #[29] }, type := 28, pos := _, after := #[{ on := 5, ground := Ground.data }, { on := 5, ground := Ground.chain }, { on := 2, ground := Ground.guard }], guard := some (2, true) }) rfl (fun K hK => ?_) AllReadyH.nil)
    go_simp
    refine (b_taken AL cL (BM.laid r) _ (Oct.BytesAt.own HO.out) (by have := (BM.laid_len HMU.out).2; omega)).mono ?_
    rintro x w5 ⟨tv, tu, rfl, h1, h2, hb⟩
    have HFT := Lib.hid (fit_own (rw_taken 4 (by omega) (BM.laid r)) h1 h2)
    clear h1 h2
    replace HB9 := Lib.hid (HB9.out.trans (hb.mono HB9.out.size))
    clear hb HS
    have hk5 := HKK.out _ HB9.out
    have HS : w5.cell? ⟨w.heap.size, 0, none⟩ = some (.int .i64 r.kind) ∧ w5.cell? ⟨w.heap.size, 1, none⟩ = some (.int .i64 r.g.id) ∧ w5.cell? ⟨w.heap.size, 2, none⟩ = some (.int .i64 r.g.holder) ∧ w5.cell? ⟨w.heap.size, 3, none⟩ = some (.string r.g.path) ∧ w5.cell? ⟨w.heap.size, 4, none⟩ = some (.int .i64 r.g.mode) ∧ w5.cell? ⟨w.heap.size, 5, none⟩ = some (.slice A r.g.stamp.length c) ∧ w5.cell? ⟨w.heap.size, 6, none⟩ = some (.int .i64 r.g.term) ∧ w5.cell? ⟨w.heap.size, 7, none⟩ = some (.int .i64 r.id) ∧ w5.cell? ⟨w.heap.size, 8, none⟩ = some (.slice B r.stamp.length d) ∧ w5.cell? ⟨w.heap.size, 9, none⟩ = some (.int .i64 r.next) ∧ w5.cell? ⟨w.heap.size, 10, none⟩ = some (.int .i64 r.boots) ∧ w5.cell? ⟨w.heap.size, 11, none⟩ = some (.int .i64 r.longest) := ⟨hk5.cell 0, hk5.cell 1, hk5.cell 2, hk5.cell 3, hk5.cell 4, hk5.cell 5, hk5.cell 6, hk5.cell 7, hk5.cell 8, hk5.cell 9, hk5.cell 10, hk5.cell 11⟩
    clear hk5
    go_simp
    refine hK.out _ _ (HS) (fun hHeld => ?_)
    clear hK K
    try simp only [Act.put, List.setIfInBounds_toArray, List.set_cons_zero, List.set_cons_succ]
    refine wpAnyH_ready (rs := [7]) (by kernel_rfl) (by simp) (AllReadyH.cons (o := { dst := some 10, op := Op.call { callee := Callee.value (Operand.func 40), args := #[Operand.tmp 6, Operand.tmp 9], argTypes := #[28, 28] }, type := 4, pos := _, after := #[{ on := 3, ground := Ground.data }, { on := 6, ground := Ground.data }, { on := 6, ground := Ground.chain }, { on := 2, ground := Ground.guard }], guard := some (2, true) }) rfl (fun K hK => ?_) AllReadyH.nil)
    go_simp
    refine (b_sameRecord _ _ _ _ r (BM.taken 4 (BM.laid r)) _ (HR.out.below HB9.out) HFT.out).mono ?_
    rintro x w5 ⟨rfl, hb⟩
    replace HB9 := Lib.hid (HB9.out.trans (hb.mono HB9.out.size))
    clear hb HS
    have hk5 := HKK.out _ HB9.out
    have HS : w5.cell? ⟨w.heap.size, 0, none⟩ = some (.int .i64 r.kind) ∧ w5.cell? ⟨w.heap.size, 1, none⟩ = some (.int .i64 r.g.id) ∧ w5.cell? ⟨w.heap.size, 2, none⟩ = some (.int .i64 r.g.holder) ∧ w5.cell? ⟨w.heap.size, 3, none⟩ = some (.string r.g.path) ∧ w5.cell? ⟨w.heap.size, 4, none⟩ = some (.int .i64 r.g.mode) ∧ w5.cell? ⟨w.heap.size, 5, none⟩ = some (.slice A r.g.stamp.length c) ∧ w5.cell? ⟨w.heap.size, 6, none⟩ = some (.int .i64 r.g.term) ∧ w5.cell? ⟨w.heap.size, 7, none⟩ = some (.int .i64 r.id) ∧ w5.cell? ⟨w.heap.size, 8, none⟩ = some (.slice B r.stamp.length d) ∧ w5.cell? ⟨w.heap.size, 9, none⟩ = some (.int .i64 r.next) ∧ w5.cell? ⟨w.heap.size, 10, none⟩ = some (.int .i64 r.boots) ∧ w5.cell? ⟨w.heap.size, 11, none⟩ = some (.int .i64 r.longest) := ⟨hk5.cell 0, hk5.cell 1, hk5.cell 2, hk5.cell 3, hk5.cell 4, hk5.cell 5, hk5.cell 6, hk5.cell 7, hk5.cell 8, hk5.cell 9, hk5.cell 10, hk5.cell 11⟩
    clear hk5
    go_simp
    refine hK.out _ _ (HS) (fun hHeld => ?_)
    clear hK K
    try simp only [Act.put, List.setIfInBounds_toArray, List.set_cons_zero, List.set_cons_succ]
    refine wpAnyH_take (i := 8) (oi := { dst := some 11, op := Op.pick (Operand.tmp 5) (Operand.tmp 10) (Operand.const (Value.bool false)), type := 4, pos := _, after := #[{ on := 2, ground := Ground.data }, { on := 7, ground := Ground.data }], guard := none }) (v := ?_) rfl (by kernel_rfl) (by kernel_rfl) (by kernel_rfl) (fun _ _ _ h => h) (Or.inl ⟨by rfl, ?_⟩) hHeld ?_
    rotate_left
    · (intro w hSw; (try dsimp only at hSw); first | (go_simp; done) | (go_simp; with_reducible rfl))
    try simp only [Act.put, List.setIfInBounds_toArray, List.set_cons_zero, List.set_cons_succ]
    refine wpAnyH_take (i := 9) (oi := { dst := some 2, op := Op.assign (Operand.tmp 11), type := 4, pos := _, after := #[{ on := 8, ground := Ground.data }, { on := 7, ground := Ground.chain }, { on := 0, ground := Ground.phase }, { on := 1, ground := Ground.phase }, { on := 2, ground := Ground.phase }, { on := 3, ground := Ground.phase }, { on := 4, ground := Ground.phase }, { on := 5, ground := Ground.phase }, { on := 6, ground := Ground.phase }, { on := 7, ground := Ground.phase }, { on := 8, ground := Ground.phase }], guard := none }) (v := ?_) rfl (by kernel_rfl) (by kernel_rfl) (by kernel_rfl) (fun _ _ _ h => h) (Or.inl ⟨by rfl, ?_⟩) hHeld ?_
    rotate_left
    · (intro w hSw; (try dsimp only at hSw); first | (go_simp; done) | (go_simp; with_reducible rfl))
    try simp only [Act.put, List.setIfInBounds_toArray, List.set_cons_zero, List.set_cons_succ]
    refine wpAnyH_done (by kernel_rfl) ?_ _
    refine NoPanic.normal ?_
    go_wp2_with fail
    go_ret
    exact bools HE.out (HX.out.trans (HB9.out.mono HX.out.size))
/-- What Encode answers. -/
def EncPost (w : World) (r : Rc) (e : Ending) (w' : World) : Prop := ∃ A c, e = .returned (.tuple #[.slice A (BM.encode r).1.length c, .int .i64 (BM.encode r).2]) ∧ w'.ownsRow w.heap.size 5 1 (.slice A (BM.encode r).1.length c) (BM.encode r).1.length (Oct.u8s (BM.encode r).1) ∧ Below w.heap.size w w'
set_option maxHeartbeats 4000000 in
theorem b_Encode (v u : Value) (r : Rc) (w : World) (h : FitR w v u r) :
    Calls Try.prog 5 #[.agg (twelve r v u)] w (EncPost w r) := by
  obtain ⟨A, c, hv, _⟩ := h.g.hd
  obtain ⟨B, d, hu, _⟩ := h.st
  subst hv hu
  have HX := Lib.hid ((Below.refl _ w).alloc (Nat.le_refl _) (.cells (twelve r (.slice A r.g.stamp.length c) (.slice B r.stamp.length d)) 28))
  have HR := Lib.hid (h.below HX.out)
  have HK := Lib.hid (Whole.new w 28 (twelve r (.slice A r.g.stamp.length c) (.slice B r.stamp.length d)))
  clear h
  obtain ⟨c0, c1, c2, c3, c4, c5, c6, c7, c8, c9, c10, c11⟩ := cs12BkW11 HK.out
  have QU := Lib.hid (fun w' (hb : Below (w.alloc (.cells (twelve r (.slice A r.g.stamp.length c) (.slice B r.stamp.length d)) 28)).heap.size (w.alloc (.cells (twelve r (.slice A r.g.stamp.length c) (.slice B r.stamp.length d)) 28)) w') => b_mayRecord _ _ r w' (HR.out.below hb))
  cases hq : BM.okRc r with
  | false =>
    rw [hq] at QU
    have HE := Lib.hid (show BM.encode r = ([], 43) by unfold BM.encode; rw [hq]; rfl)
    clear hq
    go_enter Try.func5, Try.ntmps5
    go_wp2_with fail
    refine (QU.out _ (Below.refl _ _)).mono ?_
    rintro x w9 ⟨rfl, hb⟩
    have HX9 := Lib.hid (below_on HX.out hb)
    clear hb c0 c1 c2 c3 c4 c5 c6 c7 c8 c9 c10 c11
    go_wp2_with fail
    go_ret2
    unfold EncPost
    rw [HE.out]
    exact ⟨none, 0, rfl, World.ownsRow_nil _ _ _ _, HX9.out⟩
  | true =>
    rw [hq] at QU
    have HE := Lib.hid (show BM.encode r = (BM.laid r, 0) by unfold BM.encode; rw [hq]; rfl)
    have HMU := Lib.hid (BM.ok_may hq).1
    clear hq
    go_enter Try.func5, Try.ntmps5
    go_wp2_with fail
    refine (QU.out _ (Below.refl _ _)).mono ?_
    rintro x w9 ⟨rfl, hb⟩
    have HX9 := Lib.hid (below_on HX.out hb)
    have HR9 := Lib.hid (HR.out.below hb)
    have HK9 := Lib.hid ((Mod.of_below hb []).whole HK.out (by simp))
    clear hb c0 c1 c2 c3 c4 c5 c6 c7 c8 c9 c10 c11
    obtain ⟨c0, c1, c2, c3, c4, c5, c6, c7, c8, c9, c10, c11⟩ := cs12BkW11 HK9.out
    go_wp2_with fail
    refine (b_laid _ _ r _ HR9.out HMU.out).mono ?_
    rintro x w8 ⟨lv, rfl, ho, hb⟩
    have HO := Lib.hid (own_base8 ho HX9.out.size)
    have HX8 := Lib.hid (below_on HX9.out hb)
    obtain ⟨AL, cL, hAL, _, _⟩ := Oct.own_shape ho
    subst hAL
    clear ho hb c0 c1 c2 c3 c4 c5 c6 c7 c8 c9 c10 c11
    go_wp2_with fail
    go_ret2
    unfold EncPost
    rw [HE.out]
    exact ⟨AL, cL, rfl, HO.out, HX8.out⟩
/-- What Decode answers. -/
def DecPost (w : World) (b : List UInt8) (e : Ending) (w' : World) : Prop := ∃ v u, e = .returned (.tuple #[.agg (twelve (BM.decode b).1 v u), .int .i64 (BM.decode b).2]) ∧ w'.ownsRow w.heap.size 3 1 v (BM.decode b).1.g.stamp.length (i64s (BM.decode b).1.g.stamp) ∧ w'.ownsRow w.heap.size 3 1 u (BM.decode b).1.stamp.length (i64s (BM.decode b).1.stamp) ∧ RW (BM.decode b).1 ∧ Below w.heap.size w w'
theorem rw0 : RW r0 := ⟨gw0, ⟨by simp [r0, g0, BM.r0, BM.g0], by simp [BM.r0, BM.g0]⟩, ⟨by simp [BM.r0], by simp [BM.r0]⟩, in0, in0, in0, in0, in0⟩
end Go.Proofs.Ytboflkadabagfab
