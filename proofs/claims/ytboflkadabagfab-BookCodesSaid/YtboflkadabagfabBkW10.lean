/- May a record be, its bytes, and the record of bytes: the package's calls. -/
import Derived.Test.YtboflkadabagfabBkW13
import Derived.Test.YtboflkadabagfabBkSm2
import Derived.Test.YtboflkadabagfabBkW6
import Derived.Test.YtboflkadabagfabBkW9
namespace Go.Proofs.Ytboflkadabagfab
open Go.RowKit
open BM (Gr Rc Bk g0 r0 b0)
set_option linter.unusedVariables false
set_option linter.unusedSimpArgs false
set_option maxRecDepth 100000
set_option maxHeartbeats 4000000 in
theorem mayUse_1 (A : Option Addr) (c : Nat) (u : Value) (r : Rc) (w : World) (h : FitR w (.slice A r.g.stamp.length c) u r) (hk : r.kind = 1) :
    Calls Try.prog 39 #[.agg (twelve r (.slice A r.g.stamp.length c) u)] w fun e w' => e = .returned (.bool (BM.mayUse r)) ∧ Below w.heap.size w w' := by
  have HX := Lib.hid ((Below.refl _ w).alloc (Nat.le_refl _) (.cells (twelve r (.slice A r.g.stamp.length c) u) 28))
  have HR := Lib.hid (h.below HX.out)
  have HK := Lib.hid (Whole.new w 28 (twelve r (.slice A r.g.stamp.length c) u))
  clear h
  have c0 : (w.alloc (.cells (twelve r (.slice A r.g.stamp.length c) u) 28)).cell? ⟨w.heap.size, 0, none⟩ = some (.int .i64 1) := by rw [← hk]; exact HK.out.cell 0
  have HE := Lib.hid (show BM.mayUse r = (BM.isNext r.next && BM.isBoots r.boots) from by unfold BM.mayUse; simp [hk])
  clear hk
  have c9 : (w.alloc (.cells (twelve r (.slice A r.g.stamp.length c) u) 28)).cell? ⟨w.heap.size, 9, none⟩ = some (.int .i64 r.next) := HK.out.cell 9
  have c10 : (w.alloc (.cells (twelve r (.slice A r.g.stamp.length c) u) 28)).cell? ⟨w.heap.size, 10, none⟩ = some (.int .i64 r.boots) := HK.out.cell 10
  have QN := Lib.hid (b_isNext r.next)
  have QB := Lib.hid (b_isBoots r.boots)
  cases hq : BM.isNext r.next with
  | false =>
    rw [hq] at QN HE
    clear hq
    go_enter Try.func39, Try.ntmps39
    go_wp2_with (first | (go_at_call 32; refine (QN.out _).mono ?_; rintro x w9 ⟨rfl, rfl⟩) | (go_at_call 33; refine (QB.out _).mono ?_; rintro x w9 ⟨rfl, rfl⟩))
    go_ret
    exact bools HE.out.symm HX.out
  | true =>
    rw [hq] at QN HE
    clear hq
    go_enter Try.func39, Try.ntmps39
    go_wp2_with (first | (go_at_call 32; refine (QN.out _).mono ?_; rintro x w9 ⟨rfl, rfl⟩) | (go_at_call 33; refine (QB.out _).mono ?_; rintro x w9 ⟨rfl, rfl⟩))
    go_ret
    exact bools HE.out.symm HX.out
set_option maxHeartbeats 4000000 in
theorem mayUse_2 (A : Option Addr) (c : Nat) (u : Value) (r : Rc) (w : World) (h : FitR w (.slice A r.g.stamp.length c) u r) (hk : r.kind = 2) :
    Calls Try.prog 39 #[.agg (twelve r (.slice A r.g.stamp.length c) u)] w fun e w' => e = .returned (.bool (BM.mayUse r)) ∧ Below w.heap.size w w' := by
  have HX := Lib.hid ((Below.refl _ w).alloc (Nat.le_refl _) (.cells (twelve r (.slice A r.g.stamp.length c) u) 28))
  have HR := Lib.hid (h.below HX.out)
  have HK := Lib.hid (Whole.new w 28 (twelve r (.slice A r.g.stamp.length c) u))
  clear h
  have c0 : (w.alloc (.cells (twelve r (.slice A r.g.stamp.length c) u) 28)).cell? ⟨w.heap.size, 0, none⟩ = some (.int .i64 2) := by rw [← hk]; exact HK.out.cell 0
  have HE := Lib.hid (show BM.mayUse r = TM.legal r.longest from by unfold BM.mayUse; simp [hk])
  clear hk
  have c11 : (w.alloc (.cells (twelve r (.slice A r.g.stamp.length c) u) 28)).cell? ⟨w.heap.size, 11, none⟩ = some (.int .i64 r.longest) := HK.out.cell 11
  go_enter Try.func39, Try.ntmps39
  go_wp2_with (go_at_call 68; refine (Legal_any _ _ HR.out.longest).mono ?_; rintro x w9 ⟨rfl, rfl⟩)
  go_ret
  exact bools HE.out.symm HX.out
set_option maxHeartbeats 4000000 in
theorem mayUse_3 (A : Option Addr) (c : Nat) (u : Value) (r : Rc) (w : World) (h : FitR w (.slice A r.g.stamp.length c) u r) (hk : r.kind = 3) :
    Calls Try.prog 39 #[.agg (twelve r (.slice A r.g.stamp.length c) u)] w fun e w' => e = .returned (.bool (BM.mayUse r)) ∧ Below w.heap.size w w' := by
  have HX := Lib.hid ((Below.refl _ w).alloc (Nat.le_refl _) (.cells (twelve r (.slice A r.g.stamp.length c) u) 28))
  have HR := Lib.hid (h.below HX.out)
  have HK := Lib.hid (Whole.new w 28 (twelve r (.slice A r.g.stamp.length c) u))
  clear h
  have c0 : (w.alloc (.cells (twelve r (.slice A r.g.stamp.length c) u) 28)).cell? ⟨w.heap.size, 0, none⟩ = some (.int .i64 3) := by rw [← hk]; exact HK.out.cell 0
  have HE := Lib.hid (show BM.mayUse r = BM.okGr r.g from by unfold BM.mayUse; simp [hk])
  clear hk
  have c1 : (w.alloc (.cells (twelve r (.slice A r.g.stamp.length c) u) 28)).cell? ⟨w.heap.size, 1, none⟩ = some (.int .i64 r.g.id) := HK.out.cell 1
  have c2 : (w.alloc (.cells (twelve r (.slice A r.g.stamp.length c) u) 28)).cell? ⟨w.heap.size, 2, none⟩ = some (.int .i64 r.g.holder) := HK.out.cell 2
  have c3 : (w.alloc (.cells (twelve r (.slice A r.g.stamp.length c) u) 28)).cell? ⟨w.heap.size, 3, none⟩ = some (.string r.g.path) := HK.out.cell 3
  have c4 : (w.alloc (.cells (twelve r (.slice A r.g.stamp.length c) u) 28)).cell? ⟨w.heap.size, 4, none⟩ = some (.int .i64 r.g.mode) := HK.out.cell 4
  have c5 : (w.alloc (.cells (twelve r (.slice A r.g.stamp.length c) u) 28)).cell? ⟨w.heap.size, 5, none⟩ = some (.slice A r.g.stamp.length c) := HK.out.cell 5
  have c6 : (w.alloc (.cells (twelve r (.slice A r.g.stamp.length c) u) 28)).cell? ⟨w.heap.size, 6, none⟩ = some (.int .i64 r.g.term) := HK.out.cell 6
  go_enter Try.func39, Try.ntmps39
  go_wp2_with fail
  refine (b_mayGrant (.slice A r.g.stamp.length c) r.g _ HR.out.g).mono ?_
  rintro x w9 ⟨rfl, hb⟩
  replace HX := Lib.hid (below_on HX.out hb)
  clear hb c0 c1 c2 c3 c4 c5 c6
  go_wp2_with fail
  go_ret
  exact bools HE.out.symm HX.out
set_option maxHeartbeats 4000000 in
theorem mayUse_4 (A : Option Addr) (c : Nat) (u : Value) (r : Rc) (w : World) (h : FitR w (.slice A r.g.stamp.length c) u r) (hk : r.kind = 4) :
    Calls Try.prog 39 #[.agg (twelve r (.slice A r.g.stamp.length c) u)] w fun e w' => e = .returned (.bool (BM.mayUse r)) ∧ Below w.heap.size w w' := by
  have HX := Lib.hid ((Below.refl _ w).alloc (Nat.le_refl _) (.cells (twelve r (.slice A r.g.stamp.length c) u) 28))
  have HR := Lib.hid (h.below HX.out)
  have HK := Lib.hid (Whole.new w 28 (twelve r (.slice A r.g.stamp.length c) u))
  clear h
  have c0 : (w.alloc (.cells (twelve r (.slice A r.g.stamp.length c) u) 28)).cell? ⟨w.heap.size, 0, none⟩ = some (.int .i64 4) := by rw [← hk]; exact HK.out.cell 0
  have HE := Lib.hid (show BM.mayUse r = (BM.okGr r.g && decide (BM.last r.g.stamp = r.g.id)) from by unfold BM.mayUse; simp [hk])
  clear hk
  have HKd := Lib.hid (HK.out.drewN 1)
  have HRd := Lib.hid (HR.out.below ((Below.refl _ _).drew))
  have HXd := Lib.hid HX.out.drew
  have HS : (w.alloc (.cells (twelve r (.slice A r.g.stamp.length c) u) 28)).drew.cell? ⟨w.heap.size, 1, none⟩ = some (.int .i64 r.g.id) ∧ (w.alloc (.cells (twelve r (.slice A r.g.stamp.length c) u) 28)).drew.cell? ⟨w.heap.size, 2, none⟩ = some (.int .i64 r.g.holder) ∧ (w.alloc (.cells (twelve r (.slice A r.g.stamp.length c) u) 28)).drew.cell? ⟨w.heap.size, 3, none⟩ = some (.string r.g.path) ∧ (w.alloc (.cells (twelve r (.slice A r.g.stamp.length c) u) 28)).drew.cell? ⟨w.heap.size, 4, none⟩ = some (.int .i64 r.g.mode) ∧ (w.alloc (.cells (twelve r (.slice A r.g.stamp.length c) u) 28)).drew.cell? ⟨w.heap.size, 5, none⟩ = some (.slice A r.g.stamp.length c) ∧ (w.alloc (.cells (twelve r (.slice A r.g.stamp.length c) u) 28)).drew.cell? ⟨w.heap.size, 6, none⟩ = some (.int .i64 r.g.term) := ⟨HKd.out.cell 1, HKd.out.cell 2, HKd.out.cell 3, HKd.out.cell 4, HKd.out.cell 5, HKd.out.cell 6⟩
  have QG := Lib.hid (fun w' (hb : Below (w.alloc (.cells (twelve r (.slice A r.g.stamp.length c) u) 28)).drew.heap.size (w.alloc (.cells (twelve r (.slice A r.g.stamp.length c) u) 28)).drew w') => b_mayGrant (.slice A r.g.stamp.length c) r.g w' (HRd.out.g.below hb))
  have HKK := Lib.hid (fun w' (hb : Below (w.alloc (.cells (twelve r (.slice A r.g.stamp.length c) u) 28)).drew.heap.size (w.alloc (.cells (twelve r (.slice A r.g.stamp.length c) u) 28)).drew w') => (Mod.of_below hb []).whole HKd.out (by simp))
  cases hq : BM.okGr r.g with
  | false =>
    rw [hq] at QG HE
    clear hq
    have HE2 := Lib.hid (show BM.mayUse r = false by rw [HE.out]; rfl)
    have HB9 := Lib.hid (Below.refl (w.alloc (.cells (twelve r (.slice A r.g.stamp.length c) u) 28)).drew.heap.size (w.alloc (.cells (twelve r (.slice A r.g.stamp.length c) u) 28)).drew)
    go_enter Try.func39, Try.ntmps39
    go_wp2_with fail
    clear c0
    refine wp_region_noPanic ?_
    refine wp_region_held_drew (S := fun w2 : World => w2.cell? ⟨w.heap.size, 1, none⟩ = some (.int .i64 r.g.id) ∧ w2.cell? ⟨w.heap.size, 2, none⟩ = some (.int .i64 r.g.holder) ∧ w2.cell? ⟨w.heap.size, 3, none⟩ = some (.string r.g.path) ∧ w2.cell? ⟨w.heap.size, 4, none⟩ = some (.int .i64 r.g.mode) ∧ w2.cell? ⟨w.heap.size, 5, none⟩ = some (.slice A r.g.stamp.length c) ∧ w2.cell? ⟨w.heap.size, 6, none⟩ = some (.int .i64 r.g.term)) (by kernel_rfl) (HS) (fun hHeld => ?_)
    refine wpAnyH_take (i := 0) (oi := { dst := some 27, op := Op.fieldAddr 28 (Operand.tmp 1) 1, type := 0, pos := _, after := #[], guard := none }) (v := ?_) rfl (by kernel_rfl) (by kernel_rfl) (by kernel_rfl) (fun _ _ _ h => h) (Or.inl ⟨by rfl, ?_⟩) hHeld ?_
    rotate_left
    · (intro w hSw; (try dsimp only at hSw); first | (go_simp; done) | (go_simp; with_reducible rfl))
    try simp only [Act.put, List.setIfInBounds_toArray, List.set_cons_zero, List.set_cons_succ]
    refine wpAnyH_take (i := 1) (oi := { dst := some 28, op := Op.load 26 (Operand.tmp 27), type := 26, pos := _, after := #[{ on := 0, ground := Ground.data }], guard := none }) (v := ?_) rfl (by kernel_rfl) (by kernel_rfl) (by kernel_rfl) (fun _ _ _ h => h) (Or.inl ⟨by rfl, ?_⟩) hHeld ?_
    rotate_left
    · (intro w hSw; (try dsimp only at hSw); first | (go_simp; done) | (go_simp; with_reducible rfl))
    try simp only [Act.put, List.setIfInBounds_toArray, List.set_cons_zero, List.set_cons_succ]
    refine wpAnyH_ready (rs := [2]) (by kernel_rfl) (by simp) (AllReadyH.cons (o := { dst := some 29, op := Op.call { callee := Callee.value (Operand.func 69), args := #[Operand.tmp 28], argTypes := #[26] }, type := 4, pos := _, after := #[{ on := 1, ground := Ground.data }], guard := none }) rfl (fun K hK => ?_) AllReadyH.nil)
    go_simp
    refine (QG.out _ HB9.out).mono ?_
    rintro x w5 ⟨rfl, hb⟩
    replace HB9 := Lib.hid (HB9.out.trans (hb.mono HB9.out.size))
    clear hb HS
    have hk5 := HKK.out _ HB9.out
    have HS : w5.cell? ⟨w.heap.size, 1, none⟩ = some (.int .i64 r.g.id) ∧ w5.cell? ⟨w.heap.size, 2, none⟩ = some (.int .i64 r.g.holder) ∧ w5.cell? ⟨w.heap.size, 3, none⟩ = some (.string r.g.path) ∧ w5.cell? ⟨w.heap.size, 4, none⟩ = some (.int .i64 r.g.mode) ∧ w5.cell? ⟨w.heap.size, 5, none⟩ = some (.slice A r.g.stamp.length c) ∧ w5.cell? ⟨w.heap.size, 6, none⟩ = some (.int .i64 r.g.term) := ⟨hk5.cell 1, hk5.cell 2, hk5.cell 3, hk5.cell 4, hk5.cell 5, hk5.cell 6⟩
    clear hk5
    go_simp
    refine hK.out _ _ (HS) (fun hHeld => ?_)
    clear hK K
    try simp only [Act.put, List.setIfInBounds_toArray, List.set_cons_zero, List.set_cons_succ]
    refine wpAnyH_take (i := 3) (oi := { dst := some 30, op := Op.move (Operand.tmp 29), type := 4, pos := _, after := #[{ on := 2, ground := Ground.data }, { on := 2, ground := Ground.chain }], guard := none }) (v := ?_) rfl (by kernel_rfl) (by kernel_rfl) (by kernel_rfl) (fun _ _ _ h => h) (Or.inl ⟨by rfl, ?_⟩) hHeld ?_
    rotate_left
    · (intro w hSw; (try dsimp only at hSw); first | (go_simp; done) | (go_simp; with_reducible rfl))
    try simp only [Act.put, List.setIfInBounds_toArray, List.set_cons_zero, List.set_cons_succ]
    refine wpAnyH_take (i := 4) (oi := { dst := some 31, op := Op.fieldAddr 28 (Operand.tmp 1) 1, type := 0, pos := _, after := #[{ on := 3, ground := Ground.guard }], guard := some (3, true) }) (v := undef) rfl (by kernel_rfl) (by kernel_rfl) (by kernel_rfl) (fun _ _ _ h => h) (Or.inr ⟨by rfl, rfl⟩) hHeld ?_
    try simp only [Act.put, List.setIfInBounds_toArray, List.set_cons_zero, List.set_cons_succ]
    refine wpAnyH_take (i := 5) (oi := { dst := some 32, op := Op.fieldAddr 26 (Operand.tmp 31) 4, type := 0, pos := _, after := #[{ on := 4, ground := Ground.data }, { on := 3, ground := Ground.guard }], guard := some (3, true) }) (v := undef) rfl (by kernel_rfl) (by kernel_rfl) (by kernel_rfl) (fun _ _ _ h => h) (Or.inr ⟨by rfl, rfl⟩) hHeld ?_
    try simp only [Act.put, List.setIfInBounds_toArray, List.set_cons_zero, List.set_cons_succ]
    refine wpAnyH_take (i := 6) (oi := { dst := some 33, op := Op.load 24 (Operand.tmp 32), type := 24, pos := _, after := #[{ on := 5, ground := Ground.data }, { on := 3, ground := Ground.guard }], guard := some (3, true) }) (v := undef) rfl (by kernel_rfl) (by kernel_rfl) (by kernel_rfl) (fun _ _ _ h => h) (Or.inr ⟨by rfl, rfl⟩) hHeld ?_
    try simp only [Act.put, List.setIfInBounds_toArray, List.set_cons_zero, List.set_cons_succ]
    refine wpAnyH_take (i := 7) (oi := { dst := some 34, op := Op.call { callee := Callee.value (Operand.func 70), args := #[Operand.tmp 33], argTypes := #[24] }, type := 3, pos := _, after := #[{ on := 6, ground := Ground.data }, { on := 3, ground := Ground.chain }, { on := 3, ground := Ground.guard }], guard := some (3, true) }) (v := undef) rfl (by kernel_rfl) (by kernel_rfl) (by kernel_rfl) (fun _ _ _ h => h) (Or.inr ⟨by rfl, rfl⟩) hHeld ?_
    try simp only [Act.put, List.setIfInBounds_toArray, List.set_cons_zero, List.set_cons_succ]
    refine wpAnyH_take (i := 8) (oi := { dst := some 35, op := Op.fieldAddr 28 (Operand.tmp 1) 1, type := 0, pos := _, after := #[{ on := 3, ground := Ground.guard }], guard := some (3, true) }) (v := undef) rfl (by kernel_rfl) (by kernel_rfl) (by kernel_rfl) (fun _ _ _ h => h) (Or.inr ⟨by rfl, rfl⟩) hHeld ?_
    try simp only [Act.put, List.setIfInBounds_toArray, List.set_cons_zero, List.set_cons_succ]
    refine wpAnyH_take (i := 9) (oi := { dst := some 36, op := Op.fieldAddr 26 (Operand.tmp 35) 0, type := 0, pos := _, after := #[{ on := 8, ground := Ground.data }, { on := 3, ground := Ground.guard }], guard := some (3, true) }) (v := undef) rfl (by kernel_rfl) (by kernel_rfl) (by kernel_rfl) (fun _ _ _ h => h) (Or.inr ⟨by rfl, rfl⟩) hHeld ?_
    try simp only [Act.put, List.setIfInBounds_toArray, List.set_cons_zero, List.set_cons_succ]
    refine wpAnyH_take (i := 10) (oi := { dst := some 37, op := Op.load 3 (Operand.tmp 36), type := 3, pos := _, after := #[{ on := 9, ground := Ground.data }, { on := 3, ground := Ground.guard }], guard := some (3, true) }) (v := undef) rfl (by kernel_rfl) (by kernel_rfl) (by kernel_rfl) (fun _ _ _ h => h) (Or.inr ⟨by rfl, rfl⟩) hHeld ?_
    try simp only [Act.put, List.setIfInBounds_toArray, List.set_cons_zero, List.set_cons_succ]
    refine wpAnyH_take (i := 11) (oi := { dst := some 38, op := Op.binOp BinOp.eql 3 (Operand.tmp 34) (Operand.tmp 37) 3, type := 4, pos := _, after := #[{ on := 7, ground := Ground.data }, { on := 10, ground := Ground.data }, { on := 3, ground := Ground.guard }], guard := some (3, true) }) (v := undef) rfl (by kernel_rfl) (by kernel_rfl) (by kernel_rfl) (fun _ _ _ h => h) (Or.inr ⟨by rfl, rfl⟩) hHeld ?_
    try simp only [Act.put, List.setIfInBounds_toArray, List.set_cons_zero, List.set_cons_succ]
    refine wpAnyH_take (i := 12) (oi := { dst := some 39, op := Op.pick (Operand.tmp 30) (Operand.tmp 38) (Operand.const (Value.bool false)), type := 4, pos := _, after := #[{ on := 3, ground := Ground.data }, { on := 11, ground := Ground.data }], guard := none }) (v := ?_) rfl (by kernel_rfl) (by kernel_rfl) (by kernel_rfl) (fun _ _ _ h => h) (Or.inl ⟨by rfl, ?_⟩) hHeld ?_
    rotate_left
    · (intro w hSw; (try dsimp only at hSw); first | (go_simp; done) | (go_simp; with_reducible rfl))
    try simp only [Act.put, List.setIfInBounds_toArray, List.set_cons_zero, List.set_cons_succ]
    refine wpAnyH_take (i := 13) (oi := { dst := some 2, op := Op.assign (Operand.tmp 39), type := 4, pos := _, after := #[{ on := 12, ground := Ground.data }, { on := 7, ground := Ground.chain }, { on := 0, ground := Ground.phase }, { on := 1, ground := Ground.phase }, { on := 2, ground := Ground.phase }, { on := 3, ground := Ground.phase }, { on := 4, ground := Ground.phase }, { on := 5, ground := Ground.phase }, { on := 6, ground := Ground.phase }, { on := 7, ground := Ground.phase }, { on := 8, ground := Ground.phase }, { on := 9, ground := Ground.phase }, { on := 10, ground := Ground.phase }, { on := 11, ground := Ground.phase }, { on := 12, ground := Ground.phase }], guard := none }) (v := ?_) rfl (by kernel_rfl) (by kernel_rfl) (by kernel_rfl) (fun _ _ _ h => h) (Or.inl ⟨by rfl, ?_⟩) hHeld ?_
    rotate_left
    · (intro w hSw; (try dsimp only at hSw); first | (go_simp; done) | (go_simp; with_reducible rfl))
    try simp only [Act.put, List.setIfInBounds_toArray, List.set_cons_zero, List.set_cons_succ]
    refine wpAnyH_done (by kernel_rfl) ?_ _
    refine NoPanic.normal ?_
    go_wp2_with fail
    go_ret
    exact bools HE2.out.symm (HXd.out.trans (HB9.out.mono HXd.out.size))
  | true =>
    rw [hq] at QG HE
    have QL := Lib.hid (fun w' (hb : Below (w.alloc (.cells (twelve r (.slice A r.g.stamp.length c) u) 28)).drew.heap.size (w.alloc (.cells (twelve r (.slice A r.g.stamp.length c) u) 28)).drew w') => b_last (.slice A r.g.stamp.length c) r.g.stamp w' (HRd.out.g.below hb).hd (BM.stamp_parts (BM.okGr_parts hq).2.2.2.2.1).1)
    clear hq
    by_cases h9 : BM.last r.g.stamp = r.g.id
    ·
      have d9 : (BM.last r.g.stamp == r.g.id) = true := by simpa using h9
      have HE2 := Lib.hid (show BM.mayUse r = true by rw [HE.out]; simp [h9])
      clear h9
      have HB9 := Lib.hid (Below.refl (w.alloc (.cells (twelve r (.slice A r.g.stamp.length c) u) 28)).drew.heap.size (w.alloc (.cells (twelve r (.slice A r.g.stamp.length c) u) 28)).drew)
      go_enter Try.func39, Try.ntmps39
      go_wp2_with fail
      clear c0
      go_region_held3 (fun w2 : World => w2.cell? ⟨w.heap.size, 1, none⟩ = some (.int .i64 r.g.id) ∧ w2.cell? ⟨w.heap.size, 2, none⟩ = some (.int .i64 r.g.holder) ∧ w2.cell? ⟨w.heap.size, 3, none⟩ = some (.string r.g.path) ∧ w2.cell? ⟨w.heap.size, 4, none⟩ = some (.int .i64 r.g.mode) ∧ w2.cell? ⟨w.heap.size, 5, none⟩ = some (.slice A r.g.stamp.length c) ∧ w2.cell? ⟨w.heap.size, 6, none⟩ = some (.int .i64 r.g.term))
        (first | exact HS | (go_keep; done))
        (first | (go_at_call 69; refine (QG.out _ HB9.out).mono ?_; rintro x w5 ⟨rfl, hb⟩; replace HB9 := Lib.hid (HB9.out.trans (hb.mono HB9.out.size)); clear hb; have hk5 := HKK.out _ HB9.out; replace HS : w5.cell? ⟨w.heap.size, 1, none⟩ = some (.int .i64 r.g.id) ∧ w5.cell? ⟨w.heap.size, 2, none⟩ = some (.int .i64 r.g.holder) ∧ w5.cell? ⟨w.heap.size, 3, none⟩ = some (.string r.g.path) ∧ w5.cell? ⟨w.heap.size, 4, none⟩ = some (.int .i64 r.g.mode) ∧ w5.cell? ⟨w.heap.size, 5, none⟩ = some (.slice A r.g.stamp.length c) ∧ w5.cell? ⟨w.heap.size, 6, none⟩ = some (.int .i64 r.g.term) := ⟨hk5.cell 1, hk5.cell 2, hk5.cell 3, hk5.cell 4, hk5.cell 5, hk5.cell 6⟩; clear hk5) | (go_at_call 70; refine (QL.out _ HB9.out).mono ?_; rintro x w5 ⟨rfl, rfl⟩))
      all_goals
        go_wp2_with fail
        go_ret
        exact bools HE2.out.symm (HXd.out.trans (HB9.out.mono HXd.out.size))
    ·
      have d9 : (BM.last r.g.stamp == r.g.id) = false := by simpa using h9
      have HE2 := Lib.hid (show BM.mayUse r = false by rw [HE.out]; simp [h9])
      clear h9
      have HB9 := Lib.hid (Below.refl (w.alloc (.cells (twelve r (.slice A r.g.stamp.length c) u) 28)).drew.heap.size (w.alloc (.cells (twelve r (.slice A r.g.stamp.length c) u) 28)).drew)
      go_enter Try.func39, Try.ntmps39
      go_wp2_with fail
      clear c0
      go_region_held3 (fun w2 : World => w2.cell? ⟨w.heap.size, 1, none⟩ = some (.int .i64 r.g.id) ∧ w2.cell? ⟨w.heap.size, 2, none⟩ = some (.int .i64 r.g.holder) ∧ w2.cell? ⟨w.heap.size, 3, none⟩ = some (.string r.g.path) ∧ w2.cell? ⟨w.heap.size, 4, none⟩ = some (.int .i64 r.g.mode) ∧ w2.cell? ⟨w.heap.size, 5, none⟩ = some (.slice A r.g.stamp.length c) ∧ w2.cell? ⟨w.heap.size, 6, none⟩ = some (.int .i64 r.g.term))
        (first | exact HS | (go_keep; done))
        (first | (go_at_call 69; refine (QG.out _ HB9.out).mono ?_; rintro x w5 ⟨rfl, hb⟩; replace HB9 := Lib.hid (HB9.out.trans (hb.mono HB9.out.size)); clear hb; have hk5 := HKK.out _ HB9.out; replace HS : w5.cell? ⟨w.heap.size, 1, none⟩ = some (.int .i64 r.g.id) ∧ w5.cell? ⟨w.heap.size, 2, none⟩ = some (.int .i64 r.g.holder) ∧ w5.cell? ⟨w.heap.size, 3, none⟩ = some (.string r.g.path) ∧ w5.cell? ⟨w.heap.size, 4, none⟩ = some (.int .i64 r.g.mode) ∧ w5.cell? ⟨w.heap.size, 5, none⟩ = some (.slice A r.g.stamp.length c) ∧ w5.cell? ⟨w.heap.size, 6, none⟩ = some (.int .i64 r.g.term) := ⟨hk5.cell 1, hk5.cell 2, hk5.cell 3, hk5.cell 4, hk5.cell 5, hk5.cell 6⟩; clear hk5) | (go_at_call 70; refine (QL.out _ HB9.out).mono ?_; rintro x w5 ⟨rfl, rfl⟩))
      all_goals
        go_wp2_with fail
        go_ret
        exact bools HE2.out.symm (HXd.out.trans (HB9.out.mono HXd.out.size))
set_option maxHeartbeats 4000000 in
theorem mayUse_5 (A : Option Addr) (c : Nat) (u : Value) (r : Rc) (w : World) (h : FitR w (.slice A r.g.stamp.length c) u r) (hk : r.kind = 5) :
    Calls Try.prog 39 #[.agg (twelve r (.slice A r.g.stamp.length c) u)] w fun e w' => e = .returned (.bool (BM.mayUse r)) ∧ Below w.heap.size w w' := by
  have HX := Lib.hid ((Below.refl _ w).alloc (Nat.le_refl _) (.cells (twelve r (.slice A r.g.stamp.length c) u) 28))
  have HR := Lib.hid (h.below HX.out)
  have HK := Lib.hid (Whole.new w 28 (twelve r (.slice A r.g.stamp.length c) u))
  clear h
  have c0 : (w.alloc (.cells (twelve r (.slice A r.g.stamp.length c) u) 28)).cell? ⟨w.heap.size, 0, none⟩ = some (.int .i64 5) := by rw [← hk]; exact HK.out.cell 0
  have HE := Lib.hid (show BM.mayUse r = (SM.count r.id && BM.isStamp r.stamp) from by unfold BM.mayUse; simp [hk])
  clear hk
  have c7 : (w.alloc (.cells (twelve r (.slice A r.g.stamp.length c) u) 28)).cell? ⟨w.heap.size, 7, none⟩ = some (.int .i64 r.id) := HK.out.cell 7
  have c8 : (w.alloc (.cells (twelve r (.slice A r.g.stamp.length c) u) 28)).cell? ⟨w.heap.size, 8, none⟩ = some (u) := HK.out.cell 8
  have QN := Lib.hid (b_isCounter r.id)
  have QB := Lib.hid (fun w' (hb : Below (w.alloc (.cells (twelve r (.slice A r.g.stamp.length c) u) 28)).heap.size (w.alloc (.cells (twelve r (.slice A r.g.stamp.length c) u) 28)) w') => b_isGrantStamp u r.stamp w' (HR.out.below hb).st)
  cases hq : SM.count r.id with
  | false =>
    rw [hq] at QN HE
    clear hq
    go_enter Try.func39, Try.ntmps39
    go_wp2_with (first | (go_at_call 72; refine (QN.out _).mono ?_; rintro x w9 ⟨rfl, rfl⟩) | (go_at_call 73; refine (QB.out _ (Below.refl _ _)).mono ?_; rintro x w9 ⟨rfl, rfl⟩))
    go_ret
    exact bools HE.out.symm HX.out
  | true =>
    rw [hq] at QN HE
    clear hq
    go_enter Try.func39, Try.ntmps39
    go_wp2_with (first | (go_at_call 72; refine (QN.out _).mono ?_; rintro x w9 ⟨rfl, rfl⟩) | (go_at_call 73; refine (QB.out _ (Below.refl _ _)).mono ?_; rintro x w9 ⟨rfl, rfl⟩))
    go_ret
    exact bools HE.out.symm HX.out
set_option maxHeartbeats 4000000 in
theorem mayUse_6 (A : Option Addr) (c : Nat) (u : Value) (r : Rc) (w : World) (h : FitR w (.slice A r.g.stamp.length c) u r) (hk : r.kind = 6) :
    Calls Try.prog 39 #[.agg (twelve r (.slice A r.g.stamp.length c) u)] w fun e w' => e = .returned (.bool (BM.mayUse r)) ∧ Below w.heap.size w w' := by
  have HX := Lib.hid ((Below.refl _ w).alloc (Nat.le_refl _) (.cells (twelve r (.slice A r.g.stamp.length c) u) 28))
  have HR := Lib.hid (h.below HX.out)
  have HK := Lib.hid (Whole.new w 28 (twelve r (.slice A r.g.stamp.length c) u))
  clear h
  have c0 : (w.alloc (.cells (twelve r (.slice A r.g.stamp.length c) u) 28)).cell? ⟨w.heap.size, 0, none⟩ = some (.int .i64 6) := by rw [← hk]; exact HK.out.cell 0
  have HE := Lib.hid (show BM.mayUse r = SM.count r.id from by unfold BM.mayUse; simp [hk])
  clear hk
  have c7 : (w.alloc (.cells (twelve r (.slice A r.g.stamp.length c) u) 28)).cell? ⟨w.heap.size, 7, none⟩ = some (.int .i64 r.id) := HK.out.cell 7
  go_enter Try.func39, Try.ntmps39
  go_wp2_with (go_at_call 72; refine (b_isCounter _ _).mono ?_; rintro x w9 ⟨rfl, rfl⟩)
  go_ret
  exact bools HE.out.symm HX.out
set_option maxHeartbeats 4000000 in
theorem mayUse_7 (A : Option Addr) (c : Nat) (u : Value) (r : Rc) (w : World) (h : FitR w (.slice A r.g.stamp.length c) u r) (hk : r.kind = 7) :
    Calls Try.prog 39 #[.agg (twelve r (.slice A r.g.stamp.length c) u)] w fun e w' => e = .returned (.bool (BM.mayUse r)) ∧ Below w.heap.size w w' := by
  have HX := Lib.hid ((Below.refl _ w).alloc (Nat.le_refl _) (.cells (twelve r (.slice A r.g.stamp.length c) u) 28))
  have HR := Lib.hid (h.below HX.out)
  have HK := Lib.hid (Whole.new w 28 (twelve r (.slice A r.g.stamp.length c) u))
  clear h
  have c0 : (w.alloc (.cells (twelve r (.slice A r.g.stamp.length c) u) 28)).cell? ⟨w.heap.size, 0, none⟩ = some (.int .i64 7) := by rw [← hk]; exact HK.out.cell 0
  have HE := Lib.hid (show BM.mayUse r = true from by unfold BM.mayUse; simp [hk])
  clear hk
  go_enter Try.func39, Try.ntmps39
  go_wp2_with fail
  go_ret
  exact bools HE.out.symm HX.out
set_option maxHeartbeats 4000000 in
theorem mayUse_no (A : Option Addr) (c : Nat) (u : Value) (r : Rc) (w : World) (h : FitR w (.slice A r.g.stamp.length c) u r) (h1 : r.kind ≠ 1) (h2 : r.kind ≠ 2) (h3 : r.kind ≠ 3) (h4 : r.kind ≠ 4) (h5 : r.kind ≠ 5) (h6 : r.kind ≠ 6) (h7 : r.kind ≠ 7) :
    Calls Try.prog 39 #[.agg (twelve r (.slice A r.g.stamp.length c) u)] w fun e w' => e = .returned (.bool (BM.mayUse r)) ∧ Below w.heap.size w w' := by
  have HX := Lib.hid ((Below.refl _ w).alloc (Nat.le_refl _) (.cells (twelve r (.slice A r.g.stamp.length c) u) 28))
  have HR := Lib.hid (h.below HX.out)
  have HK := Lib.hid (Whole.new w 28 (twelve r (.slice A r.g.stamp.length c) u))
  clear h
  have HE := Lib.hid (show BM.mayUse r = false from by unfold BM.mayUse; simp [h1, h2, h3, h4, h5, h6, h7])
  have d1 : (r.kind == 1) = false := by simpa using h1
  have d2 : (r.kind == 2) = false := by simpa using h2
  have d3 : (r.kind == 3) = false := by simpa using h3
  have d4 : (r.kind == 4) = false := by simpa using h4
  have d5 : (r.kind == 5) = false := by simpa using h5
  have d6 : (r.kind == 6) = false := by simpa using h6
  have d7 : (r.kind == 7) = false := by simpa using h7
  clear h1 h2 h3 h4 h5 h6 h7
  have c0 : (w.alloc (.cells (twelve r (.slice A r.g.stamp.length c) u) 28)).cell? ⟨w.heap.size, 0, none⟩ = some (.int .i64 r.kind) := HK.out.cell 0
  go_enter Try.func39, Try.ntmps39
  go_wp2_with fail
  go_ret
  exact bools HE.out.symm HX.out
theorem b_mayUse (v u : Value) (r : Rc) (w : World) (h : FitR w v u r) :
    Calls Try.prog 39 #[.agg (twelve r v u)] w fun e w' => e = .returned (.bool (BM.mayUse r)) ∧ Below w.heap.size w w' := by
  obtain ⟨A, c, hv, _⟩ := h.g.hd
  subst hv
  by_cases h1 : r.kind = 1
  · exact mayUse_1 A c u r w h h1
  by_cases h2 : r.kind = 2
  · exact mayUse_2 A c u r w h h2
  by_cases h3 : r.kind = 3
  · exact mayUse_3 A c u r w h h3
  by_cases h4 : r.kind = 4
  · exact mayUse_4 A c u r w h h4
  by_cases h5 : r.kind = 5
  · exact mayUse_5 A c u r w h h5
  by_cases h6 : r.kind = 6
  · exact mayUse_6 A c u r w h h6
  by_cases h7 : r.kind = 7
  · exact mayUse_7 A c u r w h h7
  exact mayUse_no A c u r w h h1 h2 h3 h4 h5 h6 h7
end Go.Proofs.Ytboflkadabagfab
