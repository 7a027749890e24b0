/- Does a record go with a book, and why not? The package's calls. -/
import Derived.Test.YtdegamlnkleddaaBkW16
import Derived.Test.YtdegamlnkleddaaBkTM
import Derived.OrdersHeld
namespace Go.Proofs.Ytdegamlnkleddaa
open Go.RowKit
open BM (Gr Rc Bk g0 r0 b0)
set_option linter.unusedVariables false
set_option linter.unusedSimpArgs false
set_option maxRecDepth 100000
theorem FitB.drew {w : World} {v : Value} {b : Bk} (h : FitB w v b) : FitB w.drew v b := h.below ((Below.refl _ _).drew)
theorem FitR.drew {w : World} {v u : Value} {r : Rc} (h : FitR w v u r) : FitR w.drew v u r := h.below ((Below.refl _ _).drew)
set_option maxHeartbeats 8000000 in
theorem fits_1 (B A A2 : Option Addr) (cb c c2 : Nat) (b : Bk) (r : Rc) (w : World) (hb : FitB w (.slice B b.gs.length cb) b) (hr : FitR w (.slice A r.g.stamp.length c) (.slice A2 r.stamp.length c2) r) (hok : BM.okBk b = true) (hmu : BM.mayUse r = true) (hk : r.kind = 1) :
    Calls Try.prog 67 #[.agg (four b (.slice B b.gs.length cb)), .agg (twelve r (.slice A r.g.stamp.length c) (.slice A2 r.stamp.length c2))] w fun e w' => e = .returned (.bool (BM.fits b r)) ∧ Below w.heap.size w w' := by
  have HX := Lib.hid (((Below.refl _ w).alloc (Nat.le_refl _) (.cells (four b (.slice B b.gs.length cb)) 25)).alloc (by simp) (.cells (twelve r (.slice A r.g.stamp.length c) (.slice A2 r.stamp.length c2)) 32))
  have HB := Lib.hid (hb.below HX.out)
  have HR := Lib.hid (hr.below HX.out)
  have HKB := Lib.hid ((Whole.new w 25 (four b (.slice B b.gs.length cb))).alloc (.cells (twelve r (.slice A r.g.stamp.length c) (.slice A2 r.stamp.length c2)) 32))
  have HKR := Lib.hid (show Whole ((w.alloc (.cells (four b (.slice B b.gs.length cb)) 25)).alloc (.cells (twelve r (.slice A r.g.stamp.length c) (.slice A2 r.stamp.length c2)) 32)) (w.heap.size + 1) 32 (twelve r (.slice A r.g.stamp.length c) (.slice A2 r.stamp.length c2)) from by have h := Whole.new (w.alloc (.cells (four b (.slice B b.gs.length cb)) 25)) 32 (twelve r (.slice A r.g.stamp.length c) (.slice A2 r.stamp.length c2)); have e : (w.alloc (.cells (four b (.slice B b.gs.length cb)) 25)).heap.size = w.heap.size + 1 := (by simp); rw [e] at h; exact h)
  have HRISE := Lib.hid (stand_rise (BM.okBk_parts hok).2.2.2.2)
  have HL6 := Lib.hid (show b.gs.length ≤ 1000 by have := (BM.okBk_parts hok).2.2.2.1; omega)
  clear hb hr hok
  have c0 : ((w.alloc (.cells (four b (.slice B b.gs.length cb)) 25)).alloc (.cells (twelve r (.slice A r.g.stamp.length c) (.slice A2 r.stamp.length c2)) 32)).cell? ⟨w.heap.size + 1, 0, none⟩ = some (.int .i64 1) := by rw [← hk]; exact HKR.out.cell 0
  have HE := Lib.hid (show BM.fits b r = decide (b = BM.new) from by unfold BM.fits; simp [hk])
  clear hk
  have HKBd := Lib.hid (HKB.out.drewN 1)
  have HKRd := Lib.hid (HKR.out.drewN 1)
  have HBd := Lib.hid HB.out.drew
  have HRd := Lib.hid HR.out.drew
  have HXd := Lib.hid HX.out.drew
  have HB9 := Lib.hid (Below.refl ((w.alloc (.cells (four b (.slice B b.gs.length cb)) 25)).alloc (.cells (twelve r (.slice A r.g.stamp.length c) (.slice A2 r.stamp.length c2)) 32)).drew.heap.size ((w.alloc (.cells (four b (.slice B b.gs.length cb)) 25)).alloc (.cells (twelve r (.slice A r.g.stamp.length c) (.slice A2 r.stamp.length c2)) 32)).drew)
  have HS : ((w.alloc (.cells (four b (.slice B b.gs.length cb)) 25)).alloc (.cells (twelve r (.slice A r.g.stamp.length c) (.slice A2 r.stamp.length c2)) 32)).drew.cell? ⟨w.heap.size, 0, none⟩ = some (.int .i64 b.next) ∧ ((w.alloc (.cells (four b (.slice B b.gs.length cb)) 25)).alloc (.cells (twelve r (.slice A r.g.stamp.length c) (.slice A2 r.stamp.length c2)) 32)).drew.cell? ⟨w.heap.size, 1, none⟩ = some (.int .i64 b.boots) ∧ ((w.alloc (.cells (four b (.slice B b.gs.length cb)) 25)).alloc (.cells (twelve r (.slice A r.g.stamp.length c) (.slice A2 r.stamp.length c2)) 32)).drew.cell? ⟨w.heap.size, 2, none⟩ = some (.int .i64 b.longest) ∧ ((w.alloc (.cells (four b (.slice B b.gs.length cb)) 25)).alloc (.cells (twelve r (.slice A r.g.stamp.length c) (.slice A2 r.stamp.length c2)) 32)).drew.cell? ⟨w.heap.size, 3, none⟩ = some (.slice B b.gs.length cb) := ⟨HKBd.out.cell 0, HKBd.out.cell 1, HKBd.out.cell 2, HKBd.out.cell 3⟩
  have HUP := Lib.hid (fun (w5 : World) (hb : Below ((w.alloc (.cells (four b (.slice B b.gs.length cb)) 25)).alloc (.cells (twelve r (.slice A r.g.stamp.length c) (.slice A2 r.stamp.length c2)) 32)).drew.heap.size ((w.alloc (.cells (four b (.slice B b.gs.length cb)) 25)).alloc (.cells (twelve r (.slice A r.g.stamp.length c) (.slice A2 r.stamp.length c2)) 32)).drew w5) => (show w5.cell? ⟨w.heap.size, 0, none⟩ = some (.int .i64 b.next) ∧ w5.cell? ⟨w.heap.size, 1, none⟩ = some (.int .i64 b.boots) ∧ w5.cell? ⟨w.heap.size, 2, none⟩ = some (.int .i64 b.longest) ∧ w5.cell? ⟨w.heap.size, 3, none⟩ = some (.slice B b.gs.length cb) from ⟨((Mod.of_below hb []).whole HKBd.out (by simp)).cell 0, ((Mod.of_below hb []).whole HKBd.out (by simp)).cell 1, ((Mod.of_below hb []).whole HKBd.out (by simp)).cell 2, ((Mod.of_below hb []).whole HKBd.out (by simp)).cell 3⟩))
  go_enter Try.func67, Try.ntmps67
  go_wp2_with fail
  clear c0
  go_region_held3 (fun w2 : World => w2.cell? ⟨w.heap.size, 0, none⟩ = some (.int .i64 b.next) ∧ w2.cell? ⟨w.heap.size, 1, none⟩ = some (.int .i64 b.boots) ∧ w2.cell? ⟨w.heap.size, 2, none⟩ = some (.int .i64 b.longest) ∧ w2.cell? ⟨w.heap.size, 3, none⟩ = some (.slice B b.gs.length cb))
    (first | exact HS | (go_keep; done))
    (first | (go_at_call 20; refine (b_New _).mono ?_; rintro x w5 ⟨rfl, hb⟩; replace HB9 := Lib.hid (HB9.out.trans (hb.mono HB9.out.size)); clear hb; replace HS := HUP.out _ HB9.out) | (go_at_call 19; refine (b_Same _ _ b BM.new _ (HBd.out.below HB9.out) (fitB_new _)).mono ?_; rintro x w5 ⟨rfl, hb⟩; replace HB9 := Lib.hid (HB9.out.trans (hb.mono HB9.out.size)); clear hb; replace HS := HUP.out _ HB9.out))
  all_goals
    go_wp2_with fail
    go_ret
    exact bools HE.out.symm (HXd.out.trans (HB9.out.mono HXd.out.size))
set_option maxHeartbeats 8000000 in
theorem fits_2 (B A A2 : Option Addr) (cb c c2 : Nat) (b : Bk) (r : Rc) (w : World) (hb : FitB w (.slice B b.gs.length cb) b) (hr : FitR w (.slice A r.g.stamp.length c) (.slice A2 r.stamp.length c2) r) (hok : BM.okBk b = true) (hmu : BM.mayUse r = true) (hk : r.kind = 2) :
    Calls Try.prog 67 #[.agg (four b (.slice B b.gs.length cb)), .agg (twelve r (.slice A r.g.stamp.length c) (.slice A2 r.stamp.length c2))] w fun e w' => e = .returned (.bool (BM.fits b r)) ∧ Below w.heap.size w w' := by
  have HX := Lib.hid (((Below.refl _ w).alloc (Nat.le_refl _) (.cells (four b (.slice B b.gs.length cb)) 25)).alloc (by simp) (.cells (twelve r (.slice A r.g.stamp.length c) (.slice A2 r.stamp.length c2)) 32))
  have HB := Lib.hid (hb.below HX.out)
  have HR := Lib.hid (hr.below HX.out)
  have HKB := Lib.hid ((Whole.new w 25 (four b (.slice B b.gs.length cb))).alloc (.cells (twelve r (.slice A r.g.stamp.length c) (.slice A2 r.stamp.length c2)) 32))
  have HKR := Lib.hid (show Whole ((w.alloc (.cells (four b (.slice B b.gs.length cb)) 25)).alloc (.cells (twelve r (.slice A r.g.stamp.length c) (.slice A2 r.stamp.length c2)) 32)) (w.heap.size + 1) 32 (twelve r (.slice A r.g.stamp.length c) (.slice A2 r.stamp.length c2)) from by have h := Whole.new (w.alloc (.cells (four b (.slice B b.gs.length cb)) 25)) 32 (twelve r (.slice A r.g.stamp.length c) (.slice A2 r.stamp.length c2)); have e : (w.alloc (.cells (four b (.slice B b.gs.length cb)) 25)).heap.size = w.heap.size + 1 := (by simp); rw [e] at h; exact h)
  have HRISE := Lib.hid (stand_rise (BM.okBk_parts hok).2.2.2.2)
  have HL6 := Lib.hid (show b.gs.length ≤ 1000 by have := (BM.okBk_parts hok).2.2.2.1; omega)
  clear hb hr hok
  have c0 : ((w.alloc (.cells (four b (.slice B b.gs.length cb)) 25)).alloc (.cells (twelve r (.slice A r.g.stamp.length c) (.slice A2 r.stamp.length c2)) 32)).cell? ⟨w.heap.size + 1, 0, none⟩ = some (.int .i64 2) := by rw [← hk]; exact HKR.out.cell 0
  have HE := Lib.hid (show BM.fits b r = decide (b.longest < r.longest) from by unfold BM.fits; simp [hk])
  clear hk
  have b2 : ((w.alloc (.cells (four b (.slice B b.gs.length cb)) 25)).alloc (.cells (twelve r (.slice A r.g.stamp.length c) (.slice A2 r.stamp.length c2)) 32)).cell? ⟨w.heap.size, 2, none⟩ = some (.int .i64 b.longest) := HKB.out.cell 2
  have c11 : ((w.alloc (.cells (four b (.slice B b.gs.length cb)) 25)).alloc (.cells (twelve r (.slice A r.g.stamp.length c) (.slice A2 r.stamp.length c2)) 32)).cell? ⟨w.heap.size + 1, 11, none⟩ = some (.int .i64 r.longest) := HKR.out.cell 11
  go_enter Try.func67, Try.ntmps67
  go_wp2_with fail
  go_ret
  exact bools HE.out.symm HX.out
set_option maxHeartbeats 8000000 in
theorem fits_3 (B A A2 : Option Addr) (cb c c2 : Nat) (b : Bk) (r : Rc) (w : World) (hb : FitB w (.slice B b.gs.length cb) b) (hr : FitR w (.slice A r.g.stamp.length c) (.slice A2 r.stamp.length c2) r) (hok : BM.okBk b = true) (hmu : BM.mayUse r = true) (hk : r.kind = 3) :
    Calls Try.prog 67 #[.agg (four b (.slice B b.gs.length cb)), .agg (twelve r (.slice A r.g.stamp.length c) (.slice A2 r.stamp.length c2))] w fun e w' => e = .returned (.bool (BM.fits b r)) ∧ Below w.heap.size w w' := by
  have HX := Lib.hid (((Below.refl _ w).alloc (Nat.le_refl _) (.cells (four b (.slice B b.gs.length cb)) 25)).alloc (by simp) (.cells (twelve r (.slice A r.g.stamp.length c) (.slice A2 r.stamp.length c2)) 32))
  have HB := Lib.hid (hb.below HX.out)
  have HR := Lib.hid (hr.below HX.out)
  have HKB := Lib.hid ((Whole.new w 25 (four b (.slice B b.gs.length cb))).alloc (.cells (twelve r (.slice A r.g.stamp.length c) (.slice A2 r.stamp.length c2)) 32))
  have HKR := Lib.hid (show Whole ((w.alloc (.cells (four b (.slice B b.gs.length cb)) 25)).alloc (.cells (twelve r (.slice A r.g.stamp.length c) (.slice A2 r.stamp.length c2)) 32)) (w.heap.size + 1) 32 (twelve r (.slice A r.g.stamp.length c) (.slice A2 r.stamp.length c2)) from by have h := Whole.new (w.alloc (.cells (four b (.slice B b.gs.length cb)) 25)) 32 (twelve r (.slice A r.g.stamp.length c) (.slice A2 r.stamp.length c2)); have e : (w.alloc (.cells (four b (.slice B b.gs.length cb)) 25)).heap.size = w.heap.size + 1 := (by simp); rw [e] at h; exact h)
  have HRISE := Lib.hid (stand_rise (BM.okBk_parts hok).2.2.2.2)
  have HL6 := Lib.hid (show b.gs.length ≤ 1000 by have := (BM.okBk_parts hok).2.2.2.1; omega)
  clear hb hr hok
  have c0 : ((w.alloc (.cells (four b (.slice B b.gs.length cb)) 25)).alloc (.cells (twelve r (.slice A r.g.stamp.length c) (.slice A2 r.stamp.length c2)) 32)).cell? ⟨w.heap.size + 1, 0, none⟩ = some (.int .i64 3) := by rw [← hk]; exact HKR.out.cell 0
  have HNE := Lib.hid (show r.g.stamp ≠ [] from (BM.stamp_parts (BM.okGr_parts (by have h2 := hmu; unfold BM.mayUse at h2; simpa [hk] using h2)).2.2.2.2.1).1)
  have HE := Lib.hid (show BM.fits b r = (!BM.there r.g.id b.gs && decide (BM.last r.g.stamp < b.next)) from by unfold BM.fits; simp [hk])
  clear hk
  have HKBd := Lib.hid (HKB.out.drewN 1)
  have HKRd := Lib.hid (HKR.out.drewN 1)
  have HBd := Lib.hid HB.out.drew
  have HRd := Lib.hid HR.out.drew
  have HXd := Lib.hid HX.out.drew
  have HB9 := Lib.hid (Below.refl ((w.alloc (.cells (four b (.slice B b.gs.length cb)) 25)).alloc (.cells (twelve r (.slice A r.g.stamp.length c) (.slice A2 r.stamp.length c2)) 32)).drew.heap.size ((w.alloc (.cells (four b (.slice B b.gs.length cb)) 25)).alloc (.cells (twelve r (.slice A r.g.stamp.length c) (.slice A2 r.stamp.length c2)) 32)).drew)
  have HS : ((w.alloc (.cells (four b (.slice B b.gs.length cb)) 25)).alloc (.cells (twelve r (.slice A r.g.stamp.length c) (.slice A2 r.stamp.length c2)) 32)).drew.cell? ⟨w.heap.size, 0, none⟩ = some (.int .i64 b.next) ∧ ((w.alloc (.cells (four b (.slice B b.gs.length cb)) 25)).alloc (.cells (twelve r (.slice A r.g.stamp.length c) (.slice A2 r.stamp.length c2)) 32)).drew.cell? ⟨w.heap.size, 1, none⟩ = some (.int .i64 b.boots) ∧ ((w.alloc (.cells (four b (.slice B b.gs.length cb)) 25)).alloc (.cells (twelve r (.slice A r.g.stamp.length c) (.slice A2 r.stamp.length c2)) 32)).drew.cell? ⟨w.heap.size, 2, none⟩ = some (.int .i64 b.longest) ∧ ((w.alloc (.cells (four b (.slice B b.gs.length cb)) 25)).alloc (.cells (twelve r (.slice A r.g.stamp.length c) (.slice A2 r.stamp.length c2)) 32)).drew.cell? ⟨w.heap.size, 3, none⟩ = some (.slice B b.gs.length cb) ∧ ((w.alloc (.cells (four b (.slice B b.gs.length cb)) 25)).alloc (.cells (twelve r (.slice A r.g.stamp.length c) (.slice A2 r.stamp.length c2)) 32)).drew.cell? ⟨w.heap.size + 1, 1, none⟩ = some (.int .i64 r.g.id) ∧ ((w.alloc (.cells (four b (.slice B b.gs.length cb)) 25)).alloc (.cells (twelve r (.slice A r.g.stamp.length c) (.slice A2 r.stamp.length c2)) 32)).drew.cell? ⟨w.heap.size + 1, 5, none⟩ = some (.slice A r.g.stamp.length c) := ⟨HKBd.out.cell 0, HKBd.out.cell 1, HKBd.out.cell 2, HKBd.out.cell 3, HKRd.out.cell 1, HKRd.out.cell 5⟩
  have HUP := Lib.hid (fun (w5 : World) (hb : Below ((w.alloc (.cells (four b (.slice B b.gs.length cb)) 25)).alloc (.cells (twelve r (.slice A r.g.stamp.length c) (.slice A2 r.stamp.length c2)) 32)).drew.heap.size ((w.alloc (.cells (four b (.slice B b.gs.length cb)) 25)).alloc (.cells (twelve r (.slice A r.g.stamp.length c) (.slice A2 r.stamp.length c2)) 32)).drew w5) => (show w5.cell? ⟨w.heap.size, 0, none⟩ = some (.int .i64 b.next) ∧ w5.cell? ⟨w.heap.size, 1, none⟩ = some (.int .i64 b.boots) ∧ w5.cell? ⟨w.heap.size, 2, none⟩ = some (.int .i64 b.longest) ∧ w5.cell? ⟨w.heap.size, 3, none⟩ = some (.slice B b.gs.length cb) ∧ w5.cell? ⟨w.heap.size + 1, 1, none⟩ = some (.int .i64 r.g.id) ∧ w5.cell? ⟨w.heap.size + 1, 5, none⟩ = some (.slice A r.g.stamp.length c) from ⟨((Mod.of_below hb []).whole HKBd.out (by simp)).cell 0, ((Mod.of_below hb []).whole HKBd.out (by simp)).cell 1, ((Mod.of_below hb []).whole HKBd.out (by simp)).cell 2, ((Mod.of_below hb []).whole HKBd.out (by simp)).cell 3, ((Mod.of_below hb []).whole HKRd.out (by simp)).cell 1, ((Mod.of_below hb []).whole HKRd.out (by simp)).cell 5⟩))
  have QS := Lib.hid (fun w' (hb : Below ((w.alloc (.cells (four b (.slice B b.gs.length cb)) 25)).alloc (.cells (twelve r (.slice A r.g.stamp.length c) (.slice A2 r.stamp.length c2)) 32)).drew.heap.size ((w.alloc (.cells (four b (.slice B b.gs.length cb)) 25)).alloc (.cells (twelve r (.slice A r.g.stamp.length c) (.slice A2 r.stamp.length c2)) 32)).drew w') => b_stands _ b r.g.id w' (HBd.out.below hb) HRISE.out HR.out.g.wide.id HL6.out)
  cases hth : BM.there r.g.id b.gs with
  | true =>
    rw [hth] at HE QS
    clear hth
    go_enter Try.func67, Try.ntmps67
    go_wp2_with fail
    clear c0
    refine wp_region_noPanic ?_
    refine wp_region_held_drew (S := fun w2 : World => w2.cell? ⟨w.heap.size, 0, none⟩ = some (.int .i64 b.next) ∧ w2.cell? ⟨w.heap.size, 1, none⟩ = some (.int .i64 b.boots) ∧ w2.cell? ⟨w.heap.size, 2, none⟩ = some (.int .i64 b.longest) ∧ w2.cell? ⟨w.heap.size, 3, none⟩ = some (.slice B b.gs.length cb) ∧ w2.cell? ⟨w.heap.size + 1, 1, none⟩ = some (.int .i64 r.g.id) ∧ w2.cell? ⟨w.heap.size + 1, 5, none⟩ = some (.slice A r.g.stamp.length c)) (by kernel_rfl) (HS) (fun hHeld => ?_)
    refine wpAnyH_take (i := 0) (oi := { dst := some 21, op := Op.load 25 (Operand.tmp 2), type := 25, pos := _, after := #[], guard := none }) (v := ?_) rfl (by kernel_rfl) (by kernel_rfl) (by kernel_rfl) (fun _ _ _ h => h) (Or.inl ⟨by rfl, ?_⟩) hHeld ?_
    rotate_left
    · (intro w hSw; (try dsimp only at hSw); first | (go_simp; done) | (go_simp; with_reducible rfl))
    try simp only [Act.put, List.setIfInBounds_toArray, List.set_cons_zero, List.set_cons_succ]
    refine wpAnyH_take (i := 1) (oi := { dst := some 22, op := Op.fieldAddr 32 (Operand.tmp 3) 1, type := 0, pos := _, after := #[], guard := none }) (v := ?_) rfl (by kernel_rfl) (by kernel_rfl) (by kernel_rfl) (fun _ _ _ h => h) (Or.inl ⟨by rfl, ?_⟩) hHeld ?_
    rotate_left
    · (intro w hSw; (try dsimp only at hSw); first | (go_simp; done) | (go_simp; with_reducible rfl))
    try simp only [Act.put, List.setIfInBounds_toArray, List.set_cons_zero, List.set_cons_succ]
    refine wpAnyH_take (i := 2) (oi := { dst := some 23, op := Op.fieldAddr 30 (Operand.tmp 22) 0, type := 0, pos := _, after := #[{ on := 1, ground := Ground.data }], guard := none }) (v := ?_) rfl (by kernel_rfl) (by kernel_rfl) (by kernel_rfl) (fun _ _ _ h => h) (Or.inl ⟨by rfl, ?_⟩) hHeld ?_
    rotate_left
    · (intro w hSw; (try dsimp only at hSw); first | (go_simp; done) | (go_simp; with_reducible rfl))
    try simp only [Act.put, List.setIfInBounds_toArray, List.set_cons_zero, List.set_cons_succ]
    refine wpAnyH_take (i := 3) (oi := { dst := some 24, op := Op.load 3 (Operand.tmp 23), type := 3, pos := _, after := #[{ on := 2, ground := Ground.data }], guard := none }) (v := ?_) rfl (by kernel_rfl) (by kernel_rfl) (by kernel_rfl) (fun _ _ _ h => h) (Or.inl ⟨by rfl, ?_⟩) hHeld ?_
    rotate_left
    · (intro w hSw; (try dsimp only at hSw); first | (go_simp; done) | (go_simp; with_reducible rfl))
    try simp only [Act.put, List.setIfInBounds_toArray, List.set_cons_zero, List.set_cons_succ]
    refine wpAnyH_ready (rs := [4]) (by kernel_rfl) (by simp) (AllReadyH.cons (o := { dst := some 25, op := Op.call { callee := Callee.value (Operand.func 96), args := #[Operand.tmp 21, Operand.tmp 24], argTypes := #[25, 3] }, type := 4, pos := _, after := #[{ on := 0, ground := Ground.data }, { on := 3, ground := Ground.data }], guard := none }) rfl (fun K hK => ?_) AllReadyH.nil)
    go_simp
    refine (QS.out _ HB9.out).mono ?_
    rintro x w5 ⟨rfl, hb⟩
    replace HB9 := Lib.hid (HB9.out.trans (hb.mono HB9.out.size))
    clear hb HS
    have HS := HUP.out _ HB9.out
    go_simp
    refine hK.out _ _ (HS) (fun hHeld => ?_)
    clear hK K
    try simp only [Act.put, List.setIfInBounds_toArray, List.set_cons_zero, List.set_cons_succ]
    refine wpAnyH_take (i := 5) (oi := { dst := some 26, op := Op.unOp UnOp.not 4 (Operand.tmp 25), type := 4, pos := _, after := #[{ on := 4, ground := Ground.data }], guard := none }) (v := ?_) rfl (by kernel_rfl) (by kernel_rfl) (by kernel_rfl) (fun _ _ _ h => h) (Or.inl ⟨by rfl, ?_⟩) hHeld ?_
    rotate_left
    · (intro w hSw; (try dsimp only at hSw); first | (go_simp; done) | (go_simp; with_reducible rfl))
    try simp only [Act.put, List.setIfInBounds_toArray, List.set_cons_zero, List.set_cons_succ]
    refine wpAnyH_take (i := 6) (oi := { dst := some 27, op := Op.move (Operand.tmp 26), type := 4, pos := _, after := #[{ on := 5, ground := Ground.data }, { on := 4, ground := Ground.chain }], guard := none }) (v := ?_) rfl (by kernel_rfl) (by kernel_rfl) (by kernel_rfl) (fun _ _ _ h => h) (Or.inl ⟨by rfl, ?_⟩) hHeld ?_
    rotate_left
    · (intro w hSw; (try dsimp only at hSw); first | (go_simp; done) | (go_simp; with_reducible rfl))
    try simp only [Act.put, List.setIfInBounds_toArray, List.set_cons_zero, List.set_cons_succ]
    refine wpAnyH_take (i := 7) (oi := { dst := some 28, op := Op.fieldAddr 32 (Operand.tmp 3) 1, type := 0, pos := _, after := #[{ on := 6, ground := Ground.guard }], guard := some (6, true) }) (v := undef) rfl (by kernel_rfl) (by kernel_rfl) (by kernel_rfl) (fun _ _ _ h => h) (Or.inr ⟨by rfl, rfl⟩) hHeld ?_
    try simp only [Act.put, List.setIfInBounds_toArray, List.set_cons_zero, List.set_cons_succ]
    refine wpAnyH_take (i := 8) (oi := { dst := some 29, op := Op.fieldAddr 30 (Operand.tmp 28) 4, type := 0, pos := _, after := #[{ on := 7, ground := Ground.data }, { on := 6, ground := Ground.guard }], guard := some (6, true) }) (v := undef) rfl (by kernel_rfl) (by kernel_rfl) (by kernel_rfl) (fun _ _ _ h => h) (Or.inr ⟨by rfl, rfl⟩) hHeld ?_
    try simp only [Act.put, List.setIfInBounds_toArray, List.set_cons_zero, List.set_cons_succ]
    refine wpAnyH_take (i := 9) (oi := { dst := some 30, op := Op.load 28 (Operand.tmp 29), type := 28, pos := _, after := #[{ on := 8, ground := Ground.data }, { on := 6, ground := Ground.guard }], guard := some (6, true) }) (v := undef) rfl (by kernel_rfl) (by kernel_rfl) (by kernel_rfl) (fun _ _ _ h => h) (Or.inr ⟨by rfl, rfl⟩) hHeld ?_
    try simp only [Act.put, List.setIfInBounds_toArray, List.set_cons_zero, List.set_cons_succ]
    refine wpAnyH_take (i := 10) (oi := { dst := some 31, op := Op.call { callee := Callee.value (Operand.func 75), args := #[Operand.tmp 30], argTypes := #[28] }, type := 3, pos := _, after := #[{ on := 9, ground := Ground.data }, { on := 6, ground := Ground.chain }, { on := 6, ground := Ground.guard }], guard := some (6, true) }) (v := undef) rfl (by kernel_rfl) (by kernel_rfl) (by kernel_rfl) (fun _ _ _ h => h) (Or.inr ⟨by rfl, rfl⟩) hHeld ?_
    try simp only [Act.put, List.setIfInBounds_toArray, List.set_cons_zero, List.set_cons_succ]
    refine wpAnyH_take (i := 11) (oi := { dst := some 32, op := Op.fieldAddr 25 (Operand.tmp 2) 0, type := 0, pos := _, after := #[{ on := 6, ground := Ground.guard }], guard := some (6, true) }) (v := undef) rfl (by kernel_rfl) (by kernel_rfl) (by kernel_rfl) (fun _ _ _ h => h) (Or.inr ⟨by rfl, rfl⟩) hHeld ?_
    try simp only [Act.put, List.setIfInBounds_toArray, List.set_cons_zero, List.set_cons_succ]
    refine wpAnyH_take (i := 12) (oi := { dst := some 33, op := Op.load 3 (Operand.tmp 32), type := 3, pos := _, after := #[{ on := 11, ground := Ground.data }, { on := 6, ground := Ground.guard }], guard := some (6, true) }) (v := undef) rfl (by kernel_rfl) (by kernel_rfl) (by kernel_rfl) (fun _ _ _ h => h) (Or.inr ⟨by rfl, rfl⟩) hHeld ?_
    try simp only [Act.put, List.setIfInBounds_toArray, List.set_cons_zero, List.set_cons_succ]
    refine wpAnyH_take (i := 13) (oi := { dst := some 34, op := Op.binOp BinOp.lss 3 (Operand.tmp 31) (Operand.tmp 33) 3, type := 4, pos := _, after := #[{ on := 10, ground := Ground.data }, { on := 12, ground := Ground.data }, { on := 6, ground := Ground.guard }], guard := some (6, true) }) (v := undef) rfl (by kernel_rfl) (by kernel_rfl) (by kernel_rfl) (fun _ _ _ h => h) (Or.inr ⟨by rfl, rfl⟩) hHeld ?_
    try simp only [Act.put, List.setIfInBounds_toArray, List.set_cons_zero, List.set_cons_succ]
    refine wpAnyH_take (i := 14) (oi := { dst := some 35, op := Op.pick (Operand.tmp 27) (Operand.tmp 34) (Operand.const (Value.bool false)), type := 4, pos := _, after := #[{ on := 6, ground := Ground.data }, { on := 13, ground := Ground.data }], guard := none }) (v := ?_) rfl (by kernel_rfl) (by kernel_rfl) (by kernel_rfl) (fun _ _ _ h => h) (Or.inl ⟨by rfl, ?_⟩) hHeld ?_
    rotate_left
    · (intro w hSw; (try dsimp only at hSw); first | (go_simp; done) | (go_simp; with_reducible rfl))
    try simp only [Act.put, List.setIfInBounds_toArray, List.set_cons_zero, List.set_cons_succ]
    refine wpAnyH_take (i := 15) (oi := { dst := some 4, op := Op.assign (Operand.tmp 35), type := 4, pos := _, after := #[{ on := 14, ground := Ground.data }, { on := 10, ground := Ground.chain }, { on := 0, ground := Ground.phase }, { on := 1, ground := Ground.phase }, { on := 2, ground := Ground.phase }, { on := 3, ground := Ground.phase }, { on := 4, ground := Ground.phase }, { on := 5, ground := Ground.phase }, { on := 6, ground := Ground.phase }, { on := 7, ground := Ground.phase }, { on := 8, ground := Ground.phase }, { on := 9, ground := Ground.phase }, { on := 10, ground := Ground.phase }, { on := 11, ground := Ground.phase }, { on := 12, ground := Ground.phase }, { on := 13, ground := Ground.phase }, { on := 14, ground := Ground.phase }], guard := none }) (v := ?_) rfl (by kernel_rfl) (by kernel_rfl) (by kernel_rfl) (fun _ _ _ h => h) (Or.inl ⟨by rfl, ?_⟩) hHeld ?_
    rotate_left
    · (intro w hSw; (try dsimp only at hSw); first | (go_simp; done) | (go_simp; with_reducible rfl))
    try simp only [Act.put, List.setIfInBounds_toArray, List.set_cons_zero, List.set_cons_succ]
    refine wpAnyH_done (by kernel_rfl) ?_ _
    refine NoPanic.normal ?_
    go_wp2_with fail
    go_ret
    exact bools HE.out.symm (HXd.out.trans (HB9.out.mono HXd.out.size))
  | false =>
    rw [hth] at HE QS
    clear hth
    have d9 : decide (BM.last r.g.stamp < b.next) = decide (BM.last r.g.stamp < b.next) := rfl
    clear d9
    go_enter Try.func67, Try.ntmps67
    go_wp2_with fail
    clear c0
    go_region_held3 (fun w2 : World => w2.cell? ⟨w.heap.size, 0, none⟩ = some (.int .i64 b.next) ∧ w2.cell? ⟨w.heap.size, 1, none⟩ = some (.int .i64 b.boots) ∧ w2.cell? ⟨w.heap.size, 2, none⟩ = some (.int .i64 b.longest) ∧ w2.cell? ⟨w.heap.size, 3, none⟩ = some (.slice B b.gs.length cb) ∧ w2.cell? ⟨w.heap.size + 1, 1, none⟩ = some (.int .i64 r.g.id) ∧ w2.cell? ⟨w.heap.size + 1, 5, none⟩ = some (.slice A r.g.stamp.length c))
      (first | exact HS | (go_keep; done))
      (first | (go_at_call 96; refine (QS.out _ HB9.out).mono ?_; rintro x w5 ⟨rfl, hb⟩; replace HB9 := Lib.hid (HB9.out.trans (hb.mono HB9.out.size)); clear hb; replace HS := HUP.out _ HB9.out) | (go_at_call 75; refine (b_last _ r.g.stamp _ (HRd.out.below HB9.out).g.hd HNE.out).mono ?_; rintro x w5 ⟨rfl, rfl⟩))
    all_goals
      go_wp2_with fail
      go_ret
      exact bools (by rw [HE.out]; rfl) (HXd.out.trans (HB9.out.mono HXd.out.size))
set_option maxHeartbeats 8000000 in
theorem fits_4 (B A A2 : Option Addr) (cb c c2 : Nat) (b : Bk) (r : Rc) (w : World) (hb : FitB w (.slice B b.gs.length cb) b) (hr : FitR w (.slice A r.g.stamp.length c) (.slice A2 r.stamp.length c2) r) (hok : BM.okBk b = true) (hmu : BM.mayUse r = true) (hk : r.kind = 4) :
    Calls Try.prog 67 #[.agg (four b (.slice B b.gs.length cb)), .agg (twelve r (.slice A r.g.stamp.length c) (.slice A2 r.stamp.length c2))] w fun e w' => e = .returned (.bool (BM.fits b r)) ∧ Below w.heap.size w w' := by
  have HX := Lib.hid (((Below.refl _ w).alloc (Nat.le_refl _) (.cells (four b (.slice B b.gs.length cb)) 25)).alloc (by simp) (.cells (twelve r (.slice A r.g.stamp.length c) (.slice A2 r.stamp.length c2)) 32))
  have HB := Lib.hid (hb.below HX.out)
  have HR := Lib.hid (hr.below HX.out)
  have HKB := Lib.hid ((Whole.new w 25 (four b (.slice B b.gs.length cb))).alloc (.cells (twelve r (.slice A r.g.stamp.length c) (.slice A2 r.stamp.length c2)) 32))
  have HKR := Lib.hid (show Whole ((w.alloc (.cells (four b (.slice B b.gs.length cb)) 25)).alloc (.cells (twelve r (.slice A r.g.stamp.length c) (.slice A2 r.stamp.length c2)) 32)) (w.heap.size + 1) 32 (twelve r (.slice A r.g.stamp.length c) (.slice A2 r.stamp.length c2)) from by have h := Whole.new (w.alloc (.cells (four b (.slice B b.gs.length cb)) 25)) 32 (twelve r (.slice A r.g.stamp.length c) (.slice A2 r.stamp.length c2)); have e : (w.alloc (.cells (four b (.slice B b.gs.length cb)) 25)).heap.size = w.heap.size + 1 := (by simp); rw [e] at h; exact h)
  have HRISE := Lib.hid (stand_rise (BM.okBk_parts hok).2.2.2.2)
  have HL6 := Lib.hid (show b.gs.length ≤ 1000 by have := (BM.okBk_parts hok).2.2.2.1; omega)
  clear hb hr hok
  have c0 : ((w.alloc (.cells (four b (.slice B b.gs.length cb)) 25)).alloc (.cells (twelve r (.slice A r.g.stamp.length c) (.slice A2 r.stamp.length c2)) 32)).cell? ⟨w.heap.size + 1, 0, none⟩ = some (.int .i64 4) := by rw [← hk]; exact HKR.out.cell 0
  have HE := Lib.hid (show BM.fits b r = decide (r.g.id = b.next) from by unfold BM.fits; simp [hk])
  clear hk
  have b0 : ((w.alloc (.cells (four b (.slice B b.gs.length cb)) 25)).alloc (.cells (twelve r (.slice A r.g.stamp.length c) (.slice A2 r.stamp.length c2)) 32)).cell? ⟨w.heap.size, 0, none⟩ = some (.int .i64 b.next) := HKB.out.cell 0
  have c1 : ((w.alloc (.cells (four b (.slice B b.gs.length cb)) 25)).alloc (.cells (twelve r (.slice A r.g.stamp.length c) (.slice A2 r.stamp.length c2)) 32)).cell? ⟨w.heap.size + 1, 1, none⟩ = some (.int .i64 r.g.id) := HKR.out.cell 1
  have hq : (r.g.id == b.next) = decide (r.g.id = b.next) := by rw [Bool.eq_iff_iff]; simp
  have HQ := Lib.hid hq
  clear hq
  go_enter Try.func67, Try.ntmps67
  go_wp2_with fail
  go_ret
  exact bools (by rw [HE.out, ← HQ.out]) HX.out
set_option maxHeartbeats 8000000 in
theorem fits_5 (B A A2 : Option Addr) (cb c c2 : Nat) (b : Bk) (r : Rc) (w : World) (hb : FitB w (.slice B b.gs.length cb) b) (hr : FitR w (.slice A r.g.stamp.length c) (.slice A2 r.stamp.length c2) r) (hok : BM.okBk b = true) (hmu : BM.mayUse r = true) (hk : r.kind = 5) :
    Calls Try.prog 67 #[.agg (four b (.slice B b.gs.length cb)), .agg (twelve r (.slice A r.g.stamp.length c) (.slice A2 r.stamp.length c2))] w fun e w' => e = .returned (.bool (BM.fits b r)) ∧ Below w.heap.size w w' := by
  have HX := Lib.hid (((Below.refl _ w).alloc (Nat.le_refl _) (.cells (four b (.slice B b.gs.length cb)) 25)).alloc (by simp) (.cells (twelve r (.slice A r.g.stamp.length c) (.slice A2 r.stamp.length c2)) 32))
  have HB := Lib.hid (hb.below HX.out)
  have HR := Lib.hid (hr.below HX.out)
  have HKB := Lib.hid ((Whole.new w 25 (four b (.slice B b.gs.length cb))).alloc (.cells (twelve r (.slice A r.g.stamp.length c) (.slice A2 r.stamp.length c2)) 32))
  have HKR := Lib.hid (show Whole ((w.alloc (.cells (four b (.slice B b.gs.length cb)) 25)).alloc (.cells (twelve r (.slice A r.g.stamp.length c) (.slice A2 r.stamp.length c2)) 32)) (w.heap.size + 1) 32 (twelve r (.slice A r.g.stamp.length c) (.slice A2 r.stamp.length c2)) from by have h := Whole.new (w.alloc (.cells (four b (.slice B b.gs.length cb)) 25)) 32 (twelve r (.slice A r.g.stamp.length c) (.slice A2 r.stamp.length c2)); have e : (w.alloc (.cells (four b (.slice B b.gs.length cb)) 25)).heap.size = w.heap.size + 1 := (by simp); rw [e] at h; exact h)
  have HRISE := Lib.hid (stand_rise (BM.okBk_parts hok).2.2.2.2)
  have HL6 := Lib.hid (show b.gs.length ≤ 1000 by have := (BM.okBk_parts hok).2.2.2.1; omega)
  clear hb hr hok
  have c0 : ((w.alloc (.cells (four b (.slice B b.gs.length cb)) 25)).alloc (.cells (twelve r (.slice A r.g.stamp.length c) (.slice A2 r.stamp.length c2)) 32)).cell? ⟨w.heap.size + 1, 0, none⟩ = some (.int .i64 5) := by rw [← hk]; exact HKR.out.cell 0
  have HNE := Lib.hid (show r.stamp ≠ [] from (BM.stamp_parts (by have h2 := hmu; unfold BM.mayUse at h2; simp [hk] at h2; exact h2.2)).1)
  have HE := Lib.hid (show BM.fits b r = (BM.there r.id b.gs && decide (BM.last r.stamp = b.next)) from by unfold BM.fits; simp [hk])
  clear hk
  have HKBd := Lib.hid (HKB.out.drewN 1)
  have HKRd := Lib.hid (HKR.out.drewN 1)
  have HBd := Lib.hid HB.out.drew
  have HRd := Lib.hid HR.out.drew
  have HXd := Lib.hid HX.out.drew
  have HB9 := Lib.hid (Below.refl ((w.alloc (.cells (four b (.slice B b.gs.length cb)) 25)).alloc (.cells (twelve r (.slice A r.g.stamp.length c) (.slice A2 r.stamp.length c2)) 32)).drew.heap.size ((w.alloc (.cells (four b (.slice B b.gs.length cb)) 25)).alloc (.cells (twelve r (.slice A r.g.stamp.length c) (.slice A2 r.stamp.length c2)) 32)).drew)
  have HS : ((w.alloc (.cells (four b (.slice B b.gs.length cb)) 25)).alloc (.cells (twelve r (.slice A r.g.stamp.length c) (.slice A2 r.stamp.length c2)) 32)).drew.cell? ⟨w.heap.size, 0, none⟩ = some (.int .i64 b.next) ∧ ((w.alloc (.cells (four b (.slice B b.gs.length cb)) 25)).alloc (.cells (twelve r (.slice A r.g.stamp.length c) (.slice A2 r.stamp.length c2)) 32)).drew.cell? ⟨w.heap.size, 1, none⟩ = some (.int .i64 b.boots) ∧ ((w.alloc (.cells (four b (.slice B b.gs.length cb)) 25)).alloc (.cells (twelve r (.slice A r.g.stamp.length c) (.slice A2 r.stamp.length c2)) 32)).drew.cell? ⟨w.heap.size, 2, none⟩ = some (.int .i64 b.longest) ∧ ((w.alloc (.cells (four b (.slice B b.gs.length cb)) 25)).alloc (.cells (twelve r (.slice A r.g.stamp.length c) (.slice A2 r.stamp.length c2)) 32)).drew.cell? ⟨w.heap.size, 3, none⟩ = some (.slice B b.gs.length cb) ∧ ((w.alloc (.cells (four b (.slice B b.gs.length cb)) 25)).alloc (.cells (twelve r (.slice A r.g.stamp.length c) (.slice A2 r.stamp.length c2)) 32)).drew.cell? ⟨w.heap.size + 1, 7, none⟩ = some (.int .i64 r.id) ∧ ((w.alloc (.cells (four b (.slice B b.gs.length cb)) 25)).alloc (.cells (twelve r (.slice A r.g.stamp.length c) (.slice A2 r.stamp.length c2)) 32)).drew.cell? ⟨w.heap.size + 1, 8, none⟩ = some (.slice A2 r.stamp.length c2) := ⟨HKBd.out.cell 0, HKBd.out.cell 1, HKBd.out.cell 2, HKBd.out.cell 3, HKRd.out.cell 7, HKRd.out.cell 8⟩
  have HUP := Lib.hid (fun (w5 : World) (hb : Below ((w.alloc (.cells (four b (.slice B b.gs.length cb)) 25)).alloc (.cells (twelve r (.slice A r.g.stamp.length c) (.slice A2 r.stamp.length c2)) 32)).drew.heap.size ((w.alloc (.cells (four b (.slice B b.gs.length cb)) 25)).alloc (.cells (twelve r (.slice A r.g.stamp.length c) (.slice A2 r.stamp.length c2)) 32)).drew w5) => (show w5.cell? ⟨w.heap.size, 0, none⟩ = some (.int .i64 b.next) ∧ w5.cell? ⟨w.heap.size, 1, none⟩ = some (.int .i64 b.boots) ∧ w5.cell? ⟨w.heap.size, 2, none⟩ = some (.int .i64 b.longest) ∧ w5.cell? ⟨w.heap.size, 3, none⟩ = some (.slice B b.gs.length cb) ∧ w5.cell? ⟨w.heap.size + 1, 7, none⟩ = some (.int .i64 r.id) ∧ w5.cell? ⟨w.heap.size + 1, 8, none⟩ = some (.slice A2 r.stamp.length c2) from ⟨((Mod.of_below hb []).whole HKBd.out (by simp)).cell 0, ((Mod.of_below hb []).whole HKBd.out (by simp)).cell 1, ((Mod.of_below hb []).whole HKBd.out (by simp)).cell 2, ((Mod.of_below hb []).whole HKBd.out (by simp)).cell 3, ((Mod.of_below hb []).whole HKRd.out (by simp)).cell 7, ((Mod.of_below hb []).whole HKRd.out (by simp)).cell 8⟩))
  have QS := Lib.hid (fun w' (hb : Below ((w.alloc (.cells (four b (.slice B b.gs.length cb)) 25)).alloc (.cells (twelve r (.slice A r.g.stamp.length c) (.slice A2 r.stamp.length c2)) 32)).drew.heap.size ((w.alloc (.cells (four b (.slice B b.gs.length cb)) 25)).alloc (.cells (twelve r (.slice A r.g.stamp.length c) (.slice A2 r.stamp.length c2)) 32)).drew w') => b_stands _ b r.id w' (HBd.out.below hb) HRISE.out HR.out.id HL6.out)
  cases hth : BM.there r.id b.gs with
  | true =>
    rw [hth] at HE QS
    clear hth
    have hq : (BM.last r.stamp == b.next) = decide (BM.last r.stamp = b.next) := by rw [Bool.eq_iff_iff]; simp
    have HQ := Lib.hid hq
    clear hq
    go_enter Try.func67, Try.ntmps67
    go_wp2_with fail
    clear c0
    go_region_held3 (fun w2 : World => w2.cell? ⟨w.heap.size, 0, none⟩ = some (.int .i64 b.next) ∧ w2.cell? ⟨w.heap.size, 1, none⟩ = some (.int .i64 b.boots) ∧ w2.cell? ⟨w.heap.size, 2, none⟩ = some (.int .i64 b.longest) ∧ w2.cell? ⟨w.heap.size, 3, none⟩ = some (.slice B b.gs.length cb) ∧ w2.cell? ⟨w.heap.size + 1, 7, none⟩ = some (.int .i64 r.id) ∧ w2.cell? ⟨w.heap.size + 1, 8, none⟩ = some (.slice A2 r.stamp.length c2))
      (first | exact HS | (go_keep; done))
      (first | (go_at_call 96; refine (QS.out _ HB9.out).mono ?_; rintro x w5 ⟨rfl, hb⟩; replace HB9 := Lib.hid (HB9.out.trans (hb.mono HB9.out.size)); clear hb; replace HS := HUP.out _ HB9.out) | (go_at_call 75; refine (b_last _ r.stamp _ (HRd.out.below HB9.out).st HNE.out).mono ?_; rintro x w5 ⟨rfl, rfl⟩))
    all_goals
      go_wp2_with fail
      go_ret
      exact bools (by rw [HE.out, HQ.out]; rfl) (HXd.out.trans (HB9.out.mono HXd.out.size))
  | false =>
    rw [hth] at HE QS
    clear hth
    go_enter Try.func67, Try.ntmps67
    go_wp2_with fail
    clear c0
    refine wp_region_noPanic ?_
    refine wp_region_held_drew (S := fun w2 : World => w2.cell? ⟨w.heap.size, 0, none⟩ = some (.int .i64 b.next) ∧ w2.cell? ⟨w.heap.size, 1, none⟩ = some (.int .i64 b.boots) ∧ w2.cell? ⟨w.heap.size, 2, none⟩ = some (.int .i64 b.longest) ∧ w2.cell? ⟨w.heap.size, 3, none⟩ = some (.slice B b.gs.length cb) ∧ w2.cell? ⟨w.heap.size + 1, 7, none⟩ = some (.int .i64 r.id) ∧ w2.cell? ⟨w.heap.size + 1, 8, none⟩ = some (.slice A2 r.stamp.length c2)) (by kernel_rfl) (HS) (fun hHeld => ?_)
    refine wpAnyH_take (i := 0) (oi := { dst := some 46, op := Op.load 25 (Operand.tmp 2), type := 25, pos := _, after := #[], guard := none }) (v := ?_) rfl (by kernel_rfl) (by kernel_rfl) (by kernel_rfl) (fun _ _ _ h => h) (Or.inl ⟨by rfl, ?_⟩) hHeld ?_
    rotate_left
    · (intro w hSw; (try dsimp only at hSw); first | (go_simp; done) | (go_simp; with_reducible rfl))
    try simp only [Act.put, List.setIfInBounds_toArray, List.set_cons_zero, List.set_cons_succ]
    refine wpAnyH_take (i := 1) (oi := { dst := some 47, op := Op.fieldAddr 32 (Operand.tmp 3) 2, type := 0, pos := _, after := #[], guard := none }) (v := ?_) rfl (by kernel_rfl) (by kernel_rfl) (by kernel_rfl) (fun _ _ _ h => h) (Or.inl ⟨by rfl, ?_⟩) hHeld ?_
    rotate_left
    · (intro w hSw; (try dsimp only at hSw); first | (go_simp; done) | (go_simp; with_reducible rfl))
    try simp only [Act.put, List.setIfInBounds_toArray, List.set_cons_zero, List.set_cons_succ]
    refine wpAnyH_take (i := 2) (oi := { dst := some 48, op := Op.load 3 (Operand.tmp 47), type := 3, pos := _, after := #[{ on := 1, ground := Ground.data }], guard := none }) (v := ?_) rfl (by kernel_rfl) (by kernel_rfl) (by kernel_rfl) (fun _ _ _ h => h) (Or.inl ⟨by rfl, ?_⟩) hHeld ?_
    rotate_left
    · (intro w hSw; (try dsimp only at hSw); first | (go_simp; done) | (go_simp; with_reducible rfl))
    try simp only [Act.put, List.setIfInBounds_toArray, List.set_cons_zero, List.set_cons_succ]
    refine wpAnyH_ready (rs := [3]) (by kernel_rfl) (by simp) (AllReadyH.cons (o := { dst := some 49, op := Op.call { callee := Callee.value (Operand.func 96), args := #[Operand.tmp 46, Operand.tmp 48], argTypes := #[25, 3] }, type := 4, pos := _, after := #[{ on := 0, ground := Ground.data }, { on := 2, ground := Ground.data }], guard := none }) rfl (fun K hK => ?_) AllReadyH.nil)
    go_simp
    refine (QS.out _ HB9.out).mono ?_
    rintro x w5 ⟨rfl, hb⟩
    replace HB9 := Lib.hid (HB9.out.trans (hb.mono HB9.out.size))
    clear hb HS
    have HS := HUP.out _ HB9.out
    go_simp
    refine hK.out _ _ (HS) (fun hHeld => ?_)
    clear hK K
    try simp only [Act.put, List.setIfInBounds_toArray, List.set_cons_zero, List.set_cons_succ]
    refine wpAnyH_take (i := 4) (oi := { dst := some 50, op := Op.move (Operand.tmp 49), type := 4, pos := _, after := #[{ on := 3, ground := Ground.data }, { on := 3, ground := Ground.chain }], guard := none }) (v := ?_) rfl (by kernel_rfl) (by kernel_rfl) (by kernel_rfl) (fun _ _ _ h => h) (Or.inl ⟨by rfl, ?_⟩) hHeld ?_
    rotate_left
    · (intro w hSw; (try dsimp only at hSw); first | (go_simp; done) | (go_simp; with_reducible rfl))
    try simp only [Act.put, List.setIfInBounds_toArray, List.set_cons_zero, List.set_cons_succ]
    refine wpAnyH_take (i := 5) (oi := { dst := some 51, op := Op.fieldAddr 32 (Operand.tmp 3) 3, type := 0, pos := _, after := #[{ on := 4, ground := Ground.guard }], guard := some (4, true) }) (v := undef) rfl (by kernel_rfl) (by kernel_rfl) (by kernel_rfl) (fun _ _ _ h => h) (Or.inr ⟨by rfl, rfl⟩) hHeld ?_
    try simp only [Act.put, List.setIfInBounds_toArray, List.set_cons_zero, List.set_cons_succ]
    refine wpAnyH_take (i := 6) (oi := { dst := some 52, op := Op.load 28 (Operand.tmp 51), type := 28, pos := _, after := #[{ on := 5, ground := Ground.data }, { on := 4, ground := Ground.guard }], guard := some (4, true) }) (v := undef) rfl (by kernel_rfl) (by kernel_rfl) (by kernel_rfl) (fun _ _ _ h => h) (Or.inr ⟨by rfl, rfl⟩) hHeld ?_
    try simp only [Act.put, List.setIfInBounds_toArray, List.set_cons_zero, List.set_cons_succ]
    refine wpAnyH_take (i := 7) (oi := { dst := some 53, op := Op.call { callee := Callee.value (Operand.func 75), args := #[Operand.tmp 52], argTypes := #[28] }, type := 3, pos := _, after := #[{ on := 6, ground := Ground.data }, { on := 4, ground := Ground.chain }, { on := 4, ground := Ground.guard }], guard := some (4, true) }) (v := undef) rfl (by kernel_rfl) (by kernel_rfl) (by kernel_rfl) (fun _ _ _ h => h) (Or.inr ⟨by rfl, rfl⟩) hHeld ?_
    try simp only [Act.put, List.setIfInBounds_toArray, List.set_cons_zero, List.set_cons_succ]
    refine wpAnyH_take (i := 8) (oi := { dst := some 54, op := Op.fieldAddr 25 (Operand.tmp 2) 0, type := 0, pos := _, after := #[{ on := 4, ground := Ground.guard }], guard := some (4, true) }) (v := undef) rfl (by kernel_rfl) (by kernel_rfl) (by kernel_rfl) (fun _ _ _ h => h) (Or.inr ⟨by rfl, rfl⟩) hHeld ?_
    try simp only [Act.put, List.setIfInBounds_toArray, List.set_cons_zero, List.set_cons_succ]
    refine wpAnyH_take (i := 9) (oi := { dst := some 55, op := Op.load 3 (Operand.tmp 54), type := 3, pos := _, after := #[{ on := 8, ground := Ground.data }, { on := 4, ground := Ground.guard }], guard := some (4, true) }) (v := undef) rfl (by kernel_rfl) (by kernel_rfl) (by kernel_rfl) (fun _ _ _ h => h) (Or.inr ⟨by rfl, rfl⟩) hHeld ?_
    try simp only [Act.put, List.setIfInBounds_toArray, List.set_cons_zero, List.set_cons_succ]
    refine wpAnyH_take (i := 10) (oi := { dst := some 56, op := Op.binOp BinOp.eql 3 (Operand.tmp 53) (Operand.tmp 55) 3, type := 4, pos := _, after := #[{ on := 7, ground := Ground.data }, { on := 9, ground := Ground.data }, { on := 4, ground := Ground.guard }], guard := some (4, true) }) (v := undef) rfl (by kernel_rfl) (by kernel_rfl) (by kernel_rfl) (fun _ _ _ h => h) (Or.inr ⟨by rfl, rfl⟩) hHeld ?_
    try simp only [Act.put, List.setIfInBounds_toArray, List.set_cons_zero, List.set_cons_succ]
    refine wpAnyH_take (i := 11) (oi := { dst := some 57, op := Op.pick (Operand.tmp 50) (Operand.tmp 56) (Operand.const (Value.bool false)), type := 4, pos := _, after := #[{ on := 4, ground := Ground.data }, { on := 10, ground := Ground.data }], guard := none }) (v := ?_) rfl (by kernel_rfl) (by kernel_rfl) (by kernel_rfl) (fun _ _ _ h => h) (Or.inl ⟨by rfl, ?_⟩) hHeld ?_
    rotate_left
    · (intro w hSw; (try dsimp only at hSw); first | (go_simp; done) | (go_simp; with_reducible rfl))
    try simp only [Act.put, List.setIfInBounds_toArray, List.set_cons_zero, List.set_cons_succ]
    refine wpAnyH_take (i := 12) (oi := { dst := some 4, op := Op.assign (Operand.tmp 57), type := 4, pos := _, after := #[{ on := 11, ground := Ground.data }, { on := 7, ground := Ground.chain }, { on := 0, ground := Ground.phase }, { on := 1, ground := Ground.phase }, { on := 2, ground := Ground.phase }, { on := 3, ground := Ground.phase }, { on := 4, ground := Ground.phase }, { on := 5, ground := Ground.phase }, { on := 6, ground := Ground.phase }, { on := 7, ground := Ground.phase }, { on := 8, ground := Ground.phase }, { on := 9, ground := Ground.phase }, { on := 10, ground := Ground.phase }, { on := 11, ground := Ground.phase }], guard := none }) (v := ?_) rfl (by kernel_rfl) (by kernel_rfl) (by kernel_rfl) (fun _ _ _ h => h) (Or.inl ⟨by rfl, ?_⟩) hHeld ?_
    rotate_left
    · (intro w hSw; (try dsimp only at hSw); first | (go_simp; done) | (go_simp; with_reducible rfl))
    try simp only [Act.put, List.setIfInBounds_toArray, List.set_cons_zero, List.set_cons_succ]
    refine wpAnyH_done (by kernel_rfl) ?_ _
    refine NoPanic.normal ?_
    go_wp2_with fail
    go_ret
    exact bools HE.out.symm (HXd.out.trans (HB9.out.mono HXd.out.size))
set_option maxHeartbeats 8000000 in
theorem fits_6 (B A A2 : Option Addr) (cb c c2 : Nat) (b : Bk) (r : Rc) (w : World) (hb : FitB w (.slice B b.gs.length cb) b) (hr : FitR w (.slice A r.g.stamp.length c) (.slice A2 r.stamp.length c2) r) (hok : BM.okBk b = true) (hmu : BM.mayUse r = true) (hk : r.kind = 6) :
    Calls Try.prog 67 #[.agg (four b (.slice B b.gs.length cb)), .agg (twelve r (.slice A r.g.stamp.length c) (.slice A2 r.stamp.length c2))] w fun e w' => e = .returned (.bool (BM.fits b r)) ∧ Below w.heap.size w w' := by
  have HX := Lib.hid (((Below.refl _ w).alloc (Nat.le_refl _) (.cells (four b (.slice B b.gs.length cb)) 25)).alloc (by simp) (.cells (twelve r (.slice A r.g.stamp.length c) (.slice A2 r.stamp.length c2)) 32))
  have HB := Lib.hid (hb.below HX.out)
  have HR := Lib.hid (hr.below HX.out)
  have HKB := Lib.hid ((Whole.new w 25 (four b (.slice B b.gs.length cb))).alloc (.cells (twelve r (.slice A r.g.stamp.length c) (.slice A2 r.stamp.length c2)) 32))
  have HKR := Lib.hid (show Whole ((w.alloc (.cells (four b (.slice B b.gs.length cb)) 25)).alloc (.cells (twelve r (.slice A r.g.stamp.length c) (.slice A2 r.stamp.length c2)) 32)) (w.heap.size + 1) 32 (twelve r (.slice A r.g.stamp.length c) (.slice A2 r.stamp.length c2)) from by have h := Whole.new (w.alloc (.cells (four b (.slice B b.gs.length cb)) 25)) 32 (twelve r (.slice A r.g.stamp.length c) (.slice A2 r.stamp.length c2)); have e : (w.alloc (.cells (four b (.slice B b.gs.length cb)) 25)).heap.size = w.heap.size + 1 := (by simp); rw [e] at h; exact h)
  have HRISE := Lib.hid (stand_rise (BM.okBk_parts hok).2.2.2.2)
  have HL6 := Lib.hid (show b.gs.length ≤ 1000 by have := (BM.okBk_parts hok).2.2.2.1; omega)
  clear hb hr hok
  have c0 : ((w.alloc (.cells (four b (.slice B b.gs.length cb)) 25)).alloc (.cells (twelve r (.slice A r.g.stamp.length c) (.slice A2 r.stamp.length c2)) 32)).cell? ⟨w.heap.size + 1, 0, none⟩ = some (.int .i64 6) := by rw [← hk]; exact HKR.out.cell 0
  have HE := Lib.hid (show BM.fits b r = BM.there r.id b.gs from by unfold BM.fits; simp [hk])
  clear hk
  have b0 : ((w.alloc (.cells (four b (.slice B b.gs.length cb)) 25)).alloc (.cells (twelve r (.slice A r.g.stamp.length c) (.slice A2 r.stamp.length c2)) 32)).cell? ⟨w.heap.size, 0, none⟩ = some (.int .i64 b.next) := HKB.out.cell 0
  have b1 : ((w.alloc (.cells (four b (.slice B b.gs.length cb)) 25)).alloc (.cells (twelve r (.slice A r.g.stamp.length c) (.slice A2 r.stamp.length c2)) 32)).cell? ⟨w.heap.size, 1, none⟩ = some (.int .i64 b.boots) := HKB.out.cell 1
  have b2 : ((w.alloc (.cells (four b (.slice B b.gs.length cb)) 25)).alloc (.cells (twelve r (.slice A r.g.stamp.length c) (.slice A2 r.stamp.length c2)) 32)).cell? ⟨w.heap.size, 2, none⟩ = some (.int .i64 b.longest) := HKB.out.cell 2
  have b3 : ((w.alloc (.cells (four b (.slice B b.gs.length cb)) 25)).alloc (.cells (twelve r (.slice A r.g.stamp.length c) (.slice A2 r.stamp.length c2)) 32)).cell? ⟨w.heap.size, 3, none⟩ = some (.slice B b.gs.length cb) := HKB.out.cell 3
  have c7 : ((w.alloc (.cells (four b (.slice B b.gs.length cb)) 25)).alloc (.cells (twelve r (.slice A r.g.stamp.length c) (.slice A2 r.stamp.length c2)) 32)).cell? ⟨w.heap.size + 1, 7, none⟩ = some (.int .i64 r.id) := HKR.out.cell 7
  go_enter Try.func67, Try.ntmps67
  go_wp2_with fail
  refine (b_stands _ b r.id _ HB.out HRISE.out HR.out.id HL6.out).mono ?_
  rintro x w5 ⟨rfl, hb⟩
  have HX5 := Lib.hid (below_on HX.out hb)
  clear hb c0 c7 b0 b1 b2 b3
  go_wp2_with fail
  go_ret
  exact bools HE.out.symm HX5.out
set_option maxHeartbeats 8000000 in
theorem fits_no (B A A2 : Option Addr) (cb c c2 : Nat) (b : Bk) (r : Rc) (w : World) (hb : FitB w (.slice B b.gs.length cb) b) (hr : FitR w (.slice A r.g.stamp.length c) (.slice A2 r.stamp.length c2) r) (hok : BM.okBk b = true) (hmu : BM.mayUse r = true) (h1 : r.kind ≠ 1) (h2 : r.kind ≠ 2) (h3 : r.kind ≠ 3) (h4 : r.kind ≠ 4) (h5 : r.kind ≠ 5) (h6 : r.kind ≠ 6) :
    Calls Try.prog 67 #[.agg (four b (.slice B b.gs.length cb)), .agg (twelve r (.slice A r.g.stamp.length c) (.slice A2 r.stamp.length c2))] w fun e w' => e = .returned (.bool (BM.fits b r)) ∧ Below w.heap.size w w' := by
  have HX := Lib.hid (((Below.refl _ w).alloc (Nat.le_refl _) (.cells (four b (.slice B b.gs.length cb)) 25)).alloc (by simp) (.cells (twelve r (.slice A r.g.stamp.length c) (.slice A2 r.stamp.length c2)) 32))
  have HB := Lib.hid (hb.below HX.out)
  have HR := Lib.hid (hr.below HX.out)
  have HKB := Lib.hid ((Whole.new w 25 (four b (.slice B b.gs.length cb))).alloc (.cells (twelve r (.slice A r.g.stamp.length c) (.slice A2 r.stamp.length c2)) 32))
  have HKR := Lib.hid (show Whole ((w.alloc (.cells (four b (.slice B b.gs.length cb)) 25)).alloc (.cells (twelve r (.slice A r.g.stamp.length c) (.slice A2 r.stamp.length c2)) 32)) (w.heap.size + 1) 32 (twelve r (.slice A r.g.stamp.length c) (.slice A2 r.stamp.length c2)) from by have h := Whole.new (w.alloc (.cells (four b (.slice B b.gs.length cb)) 25)) 32 (twelve r (.slice A r.g.stamp.length c) (.slice A2 r.stamp.length c2)); have e : (w.alloc (.cells (four b (.slice B b.gs.length cb)) 25)).heap.size = w.heap.size + 1 := (by simp); rw [e] at h; exact h)
  have HRISE := Lib.hid (stand_rise (BM.okBk_parts hok).2.2.2.2)
  have HL6 := Lib.hid (show b.gs.length ≤ 1000 by have := (BM.okBk_parts hok).2.2.2.1; omega)
  clear hb hr hok
  have HE := Lib.hid (show BM.fits b r = true from by unfold BM.fits; simp [h1, h2, h3, h4, h5, h6])
  have d1 : (r.kind == 1) = false := by simpa using h1
  have d2 : (r.kind == 2) = false := by simpa using h2
  have d3 : (r.kind == 3) = false := by simpa using h3
  have d4 : (r.kind == 4) = false := by simpa using h4
  have d5 : (r.kind == 5) = false := by simpa using h5
  have d6 : (r.kind == 6) = false := by simpa using h6
  clear h1 h2 h3 h4 h5 h6
  have c0 : ((w.alloc (.cells (four b (.slice B b.gs.length cb)) 25)).alloc (.cells (twelve r (.slice A r.g.stamp.length c) (.slice A2 r.stamp.length c2)) 32)).cell? ⟨w.heap.size + 1, 0, none⟩ = some (.int .i64 r.kind) := HKR.out.cell 0
  go_enter Try.func67, Try.ntmps67
  go_wp2_with fail
  go_ret
  exact bools HE.out.symm HX.out
theorem b_fits (v s u : Value) (b : Bk) (r : Rc) (w : World) (hb : FitB w v b) (hr : FitR w s u r) (hok : BM.okBk b = true) (hmu : BM.mayUse r = true) :
    Calls Try.prog 67 #[.agg (four b v), .agg (twelve r s u)] w fun e w' => e = .returned (.bool (BM.fits b r)) ∧ Below w.heap.size w w' := by
  obtain ⟨B, cb, rfl, _⟩ := hb.gs
  obtain ⟨A, c, hs, _⟩ := hr.g.hd
  obtain ⟨A2, c2, hu, _⟩ := hr.st
  subst hs hu
  by_cases h1 : r.kind = 1
  · exact fits_1 B A A2 cb c c2 b r w hb hr hok hmu h1
  by_cases h2 : r.kind = 2
  · exact fits_2 B A A2 cb c c2 b r w hb hr hok hmu h2
  by_cases h3 : r.kind = 3
  · exact fits_3 B A A2 cb c c2 b r w hb hr hok hmu h3
  by_cases h4 : r.kind = 4
  · exact fits_4 B A A2 cb c c2 b r w hb hr hok hmu h4
  by_cases h5 : r.kind = 5
  · exact fits_5 B A A2 cb c c2 b r w hb hr hok hmu h5
  by_cases h6 : r.kind = 6
  · exact fits_6 B A A2 cb c c2 b r w hb hr hok hmu h6
  exact fits_no B A A2 cb c c2 b r w hb hr hok hmu h1 h2 h3 h4 h5 h6
end Go.Proofs.Ytdegamlnkleddaa
