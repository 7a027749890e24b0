/- Whether two records are one: the package's call and the document's. -/
import Derived.Test.YtboflkadabagfabBkSm1
namespace Go.Proofs.Ytboflkadabagfab
open Go.RowKit
open BM (Gr Rc Bk g0 r0 b0)
set_option linter.unusedVariables false
set_option linter.unusedSimpArgs false
set_option maxRecDepth 100000
theorem rcs {w : World} {g : Nat} {m : Rc} {sv tv : Value} (h : Whole w g 28 (twelve m sv tv)) : w.cell? ⟨g, 0, none⟩ = some (.int .i64 m.kind) ∧ w.cell? ⟨g, 1, none⟩ = some (.int .i64 m.g.id) ∧ w.cell? ⟨g, 2, none⟩ = some (.int .i64 m.g.holder) ∧ w.cell? ⟨g, 3, none⟩ = some (.string m.g.path) ∧ w.cell? ⟨g, 4, none⟩ = some (.int .i64 m.g.mode) ∧ w.cell? ⟨g, 5, none⟩ = some sv ∧ w.cell? ⟨g, 6, none⟩ = some (.int .i64 m.g.term) ∧
    w.cell? ⟨g, 7, none⟩ = some (.int .i64 m.id) ∧ w.cell? ⟨g, 8, none⟩ = some tv ∧ w.cell? ⟨g, 9, none⟩ = some (.int .i64 m.next) ∧ w.cell? ⟨g, 10, none⟩ = some (.int .i64 m.boots) ∧ w.cell? ⟨g, 11, none⟩ = some (.int .i64 m.longest) :=
  ⟨h.cell 0, h.cell 1, h.cell 2, h.cell 3, h.cell 4, h.cell 5, h.cell 6, h.cell 7, h.cell 8, h.cell 9, h.cell 10, h.cell 11⟩
theorem rc_eq {a b : Rc} (e0 : a.kind = b.kind) (e1 : a.g = b.g) (e2 : a.id = b.id) (e3 : a.stamp = b.stamp) (e4 : a.next = b.next) (e5 : a.boots = b.boots) (e6 : a.longest = b.longest) : a = b := by
  cases a; cases b; simp only at e0 e1 e2 e3 e4 e5 e6; subst e0 e1 e2 e3 e4 e5 e6; rfl
set_option maxHeartbeats 4000000 in
theorem b_sameRecord (u u2 v v2 : Value) (a b : Rc) (w : World) (hA : FitR w u u2 a) (hB : FitR w v v2 b) :
    Calls Try.prog 40 #[.agg (twelve a u u2), .agg (twelve b v v2)] w fun e w' => e = .returned (.bool (decide (a = b))) ∧ Below w.heap.size w w' := by
  have HX := Lib.hid (((Below.refl _ w).alloc (Nat.le_refl _) (.cells (twelve a u u2) 28)).alloc (by simp) (.cells (twelve b v v2) 28))
  have HA := Lib.hid (fun w' (hb : Below w.heap.size w w') => hA.below hb)
  have HB := Lib.hid (fun w' (hb : Below w.heap.size w w') => hB.below hb)
  clear hA hB
  have HKA := Lib.hid ((Whole.new w 28 (twelve a u u2)).alloc (.cells (twelve b v v2) 28))
  have HKB := Lib.hid (show Whole ((w.alloc (.cells (twelve a u u2) 28)).alloc (.cells (twelve b v v2) 28)) (w.heap.size + 1) 28 (twelve b v v2) from by have h := Whole.new (w.alloc (.cells (twelve a u u2) 28)) 28 (twelve b v v2); have e : (w.alloc (.cells (twelve a u u2) 28)).heap.size = w.heap.size + 1 := (by simp); rw [e] at h; exact h)
  by_cases e0 : a.kind = b.kind
  rotate_left
  · have hne := e0; clear e0
    obtain ⟨ca0, _, _, _, _, _, _, _, _, _, _, _⟩ := rcs HKA.out
    obtain ⟨cb0, _, _, _, _, _, _, _, _, _, _, _⟩ := rcs HKB.out
    have hd1 : (a.kind == b.kind) = false := by simpa using hne
    have HNE := Lib.hid (show ¬ a = b from fun e => hne (by rw [e]))
    clear hne
    go_enter Try.func40, Try.ntmps40
    go_wp2_with fail
    go_ret
    exact bools (decide_eq_false HNE.out).symm HX.out
  have E0 := Lib.hid e0
  by_cases e1 : a.g = b.g
  rotate_left
  · have hne := e1; clear e1
    obtain ⟨ca0, ca1, ca2, ca3, ca4, ca5, ca6, _, _, _, _, _⟩ := rcs HKA.out
    obtain ⟨cb0, cb1, cb2, cb3, cb4, cb5, cb6, _, _, _, _, _⟩ := rcs HKB.out
    rw [← e0] at cb0
    have HNE := Lib.hid (show ¬ a = b from fun e => hne (by rw [e]))
    have HN2 := Lib.hid hne
    clear hne e0
    go_enter Try.func40, Try.ntmps40
    go_wp2_with fail
    refine (b_sameGrant u v a.g b.g _ (HA.out _ HX.out).g.hd (HB.out _ HX.out).g.hd).mono ?_
    rintro x w2 ⟨rfl, hb⟩
    have HX2 := Lib.hid (below_on HX.out hb)
    have HKA2 := Lib.hid ((Mod.of_below hb []).whole HKA.out (by simp))
    have HKB2 := Lib.hid ((Mod.of_below hb []).whole HKB.out (by simp))
    clear hb ca0 cb0 ca1 cb1 ca2 cb2 ca3 cb3 ca4 cb4 ca5 cb5 ca6 cb6
    obtain ⟨ca0, ca1, ca2, ca3, ca4, ca5, ca6, _, _, _, _, _⟩ := rcs HKA2.out
    obtain ⟨cb0, cb1, cb2, cb3, cb4, cb5, cb6, _, _, _, _, _⟩ := rcs HKB2.out
    rw [← E0.out] at cb0
    rw [decide_eq_false HN2.out]
    go_wp2_with fail
    go_ret
    exact bools (decide_eq_false HNE.out).symm HX2.out
  have E1 := Lib.hid e1
  by_cases e2 : a.id = b.id
  rotate_left
  · have hne := e2; clear e2
    obtain ⟨ca0, ca1, ca2, ca3, ca4, ca5, ca6, ca7, _, _, _, _⟩ := rcs HKA.out
    obtain ⟨cb0, cb1, cb2, cb3, cb4, cb5, cb6, cb7, _, _, _, _⟩ := rcs HKB.out
    rw [← e0] at cb0
    have hd1 : (a.id == b.id) = false := by simpa using hne
    have HNE := Lib.hid (show ¬ a = b from fun e => hne (by rw [e]))
    clear hne e0 e1
    go_enter Try.func40, Try.ntmps40
    go_wp2_with fail
    refine (b_sameGrant u v a.g b.g _ (HA.out _ HX.out).g.hd (HB.out _ HX.out).g.hd).mono ?_
    rintro x w2 ⟨rfl, hb⟩
    have HX2 := Lib.hid (below_on HX.out hb)
    have HKA2 := Lib.hid ((Mod.of_below hb []).whole HKA.out (by simp))
    have HKB2 := Lib.hid ((Mod.of_below hb []).whole HKB.out (by simp))
    clear hb ca0 cb0 ca1 cb1 ca2 cb2 ca3 cb3 ca4 cb4 ca5 cb5 ca6 cb6 ca7 cb7
    obtain ⟨ca0, ca1, ca2, ca3, ca4, ca5, ca6, ca7, _, _, _, _⟩ := rcs HKA2.out
    obtain ⟨cb0, cb1, cb2, cb3, cb4, cb5, cb6, cb7, _, _, _, _⟩ := rcs HKB2.out
    rw [← E0.out] at cb0
    rw [decide_eq_true E1.out]
    go_wp2_with fail
    go_ret
    exact bools (decide_eq_false HNE.out).symm HX2.out
  have E2 := Lib.hid e2
  by_cases e3 : a.stamp = b.stamp
  rotate_left
  · have hne := e3; clear e3
    obtain ⟨ca0, ca1, ca2, ca3, ca4, ca5, ca6, ca7, ca8, _, _, _⟩ := rcs HKA.out
    obtain ⟨cb0, cb1, cb2, cb3, cb4, cb5, cb6, cb7, cb8, _, _, _⟩ := rcs HKB.out
    rw [← e0] at cb0
    rw [← e2] at cb7
    have HNE := Lib.hid (show ¬ a = b from fun e => hne (by rw [e]))
    have HN2 := Lib.hid hne
    clear hne e0 e1 e2
    go_enter Try.func40, Try.ntmps40
    go_wp2_with fail
    refine (b_sameGrant u v a.g b.g _ (HA.out _ HX.out).g.hd (HB.out _ HX.out).g.hd).mono ?_
    rintro x w2 ⟨rfl, hb⟩
    have HX2 := Lib.hid (below_on HX.out hb)
    have HKA2 := Lib.hid ((Mod.of_below hb []).whole HKA.out (by simp))
    have HKB2 := Lib.hid ((Mod.of_below hb []).whole HKB.out (by simp))
    clear hb ca0 cb0 ca1 cb1 ca2 cb2 ca3 cb3 ca4 cb4 ca5 cb5 ca6 cb6 ca7 cb7 ca8 cb8
    obtain ⟨ca0, ca1, ca2, ca3, ca4, ca5, ca6, ca7, ca8, _, _, _⟩ := rcs HKA2.out
    obtain ⟨cb0, cb1, cb2, cb3, cb4, cb5, cb6, cb7, cb8, _, _, _⟩ := rcs HKB2.out
    rw [← E0.out] at cb0
    rw [← E2.out] at cb7
    rw [decide_eq_true E1.out]
    go_wp2_with fail
    refine (equal_hd u2 v2 a.stamp b.stamp _ (HA.out _ HX2.out).st (HB.out _ HX2.out).st).mono ?_
    rintro x w4 ⟨rfl, hb⟩
    have HX4 := Lib.hid (below_on HX2.out hb)
    have HKA4 := Lib.hid ((Mod.of_below hb []).whole HKA2.out (by simp))
    have HKB4 := Lib.hid ((Mod.of_below hb []).whole HKB2.out (by simp))
    clear hb ca0 cb0 ca1 cb1 ca2 cb2 ca3 cb3 ca4 cb4 ca5 cb5 ca6 cb6 ca7 cb7 ca8 cb8
    obtain ⟨ca0, ca1, ca2, ca3, ca4, ca5, ca6, ca7, ca8, _, _, _⟩ := rcs HKA4.out
    obtain ⟨cb0, cb1, cb2, cb3, cb4, cb5, cb6, cb7, cb8, _, _, _⟩ := rcs HKB4.out
    rw [← E0.out] at cb0
    rw [← E2.out] at cb7
    rw [decide_eq_false HN2.out]
    go_wp2_with fail
    go_ret
    exact bools (decide_eq_false HNE.out).symm HX4.out
  have E3 := Lib.hid e3
  by_cases e4 : a.next = b.next
  rotate_left
  · have hne := e4; clear e4
    obtain ⟨ca0, ca1, ca2, ca3, ca4, ca5, ca6, ca7, ca8, ca9, _, _⟩ := rcs HKA.out
    obtain ⟨cb0, cb1, cb2, cb3, cb4, cb5, cb6, cb7, cb8, cb9, _, _⟩ := rcs HKB.out
    rw [← e0] at cb0
    rw [← e2] at cb7
    have hd1 : (a.next == b.next) = false := by simpa using hne
    have HNE := Lib.hid (show ¬ a = b from fun e => hne (by rw [e]))
    clear hne e0 e1 e2 e3
    go_enter Try.func40, Try.ntmps40
    go_wp2_with fail
    refine (b_sameGrant u v a.g b.g _ (HA.out _ HX.out).g.hd (HB.out _ HX.out).g.hd).mono ?_
    rintro x w2 ⟨rfl, hb⟩
    have HX2 := Lib.hid (below_on HX.out hb)
    have HKA2 := Lib.hid ((Mod.of_below hb []).whole HKA.out (by simp))
    have HKB2 := Lib.hid ((Mod.of_below hb []).whole HKB.out (by simp))
    clear hb ca0 cb0 ca1 cb1 ca2 cb2 ca3 cb3 ca4 cb4 ca5 cb5 ca6 cb6 ca7 cb7 ca8 cb8 ca9 cb9
    obtain ⟨ca0, ca1, ca2, ca3, ca4, ca5, ca6, ca7, ca8, ca9, _, _⟩ := rcs HKA2.out
    obtain ⟨cb0, cb1, cb2, cb3, cb4, cb5, cb6, cb7, cb8, cb9, _, _⟩ := rcs HKB2.out
    rw [← E0.out] at cb0
    rw [← E2.out] at cb7
    rw [decide_eq_true E1.out]
    go_wp2_with fail
    refine (equal_hd u2 v2 a.stamp b.stamp _ (HA.out _ HX2.out).st (HB.out _ HX2.out).st).mono ?_
    rintro x w4 ⟨rfl, hb⟩
    have HX4 := Lib.hid (below_on HX2.out hb)
    have HKA4 := Lib.hid ((Mod.of_below hb []).whole HKA2.out (by simp))
    have HKB4 := Lib.hid ((Mod.of_below hb []).whole HKB2.out (by simp))
    clear hb ca0 cb0 ca1 cb1 ca2 cb2 ca3 cb3 ca4 cb4 ca5 cb5 ca6 cb6 ca7 cb7 ca8 cb8 ca9 cb9
    obtain ⟨ca0, ca1, ca2, ca3, ca4, ca5, ca6, ca7, ca8, ca9, _, _⟩ := rcs HKA4.out
    obtain ⟨cb0, cb1, cb2, cb3, cb4, cb5, cb6, cb7, cb8, cb9, _, _⟩ := rcs HKB4.out
    rw [← E0.out] at cb0
    rw [← E2.out] at cb7
    rw [decide_eq_true E3.out]
    go_wp2_with fail
    go_ret
    exact bools (decide_eq_false HNE.out).symm HX4.out
  have E4 := Lib.hid e4
  by_cases e5 : a.boots = b.boots
  rotate_left
  · have hne := e5; clear e5
    obtain ⟨ca0, ca1, ca2, ca3, ca4, ca5, ca6, ca7, ca8, ca9, ca10, _⟩ := rcs HKA.out
    obtain ⟨cb0, cb1, cb2, cb3, cb4, cb5, cb6, cb7, cb8, cb9, cb10, _⟩ := rcs HKB.out
    rw [← e0] at cb0
    rw [← e2] at cb7
    rw [← e4] at cb9
    have hd1 : (a.boots == b.boots) = false := by simpa using hne
    have HNE := Lib.hid (show ¬ a = b from fun e => hne (by rw [e]))
    clear hne e0 e1 e2 e3 e4
    go_enter Try.func40, Try.ntmps40
    go_wp2_with fail
    refine (b_sameGrant u v a.g b.g _ (HA.out _ HX.out).g.hd (HB.out _ HX.out).g.hd).mono ?_
    rintro x w2 ⟨rfl, hb⟩
    have HX2 := Lib.hid (below_on HX.out hb)
    have HKA2 := Lib.hid ((Mod.of_below hb []).whole HKA.out (by simp))
    have HKB2 := Lib.hid ((Mod.of_below hb []).whole HKB.out (by simp))
    clear hb ca0 cb0 ca1 cb1 ca2 cb2 ca3 cb3 ca4 cb4 ca5 cb5 ca6 cb6 ca7 cb7 ca8 cb8 ca9 cb9 ca10 cb10
    obtain ⟨ca0, ca1, ca2, ca3, ca4, ca5, ca6, ca7, ca8, ca9, ca10, _⟩ := rcs HKA2.out
    obtain ⟨cb0, cb1, cb2, cb3, cb4, cb5, cb6, cb7, cb8, cb9, cb10, _⟩ := rcs HKB2.out
    rw [← E0.out] at cb0
    rw [← E2.out] at cb7
    rw [← E4.out] at cb9
    rw [decide_eq_true E1.out]
    go_wp2_with fail
    refine (equal_hd u2 v2 a.stamp b.stamp _ (HA.out _ HX2.out).st (HB.out _ HX2.out).st).mono ?_
    rintro x w4 ⟨rfl, hb⟩
    have HX4 := Lib.hid (below_on HX2.out hb)
    have HKA4 := Lib.hid ((Mod.of_below hb []).whole HKA2.out (by simp))
    have HKB4 := Lib.hid ((Mod.of_below hb []).whole HKB2.out (by simp))
    clear hb ca0 cb0 ca1 cb1 ca2 cb2 ca3 cb3 ca4 cb4 ca5 cb5 ca6 cb6 ca7 cb7 ca8 cb8 ca9 cb9 ca10 cb10
    obtain ⟨ca0, ca1, ca2, ca3, ca4, ca5, ca6, ca7, ca8, ca9, ca10, _⟩ := rcs HKA4.out
    obtain ⟨cb0, cb1, cb2, cb3, cb4, cb5, cb6, cb7, cb8, cb9, cb10, _⟩ := rcs HKB4.out
    rw [← E0.out] at cb0
    rw [← E2.out] at cb7
    rw [← E4.out] at cb9
    rw [decide_eq_true E3.out]
    go_wp2_with fail
    go_ret
    exact bools (decide_eq_false HNE.out).symm HX4.out
  have E5 := Lib.hid e5
  by_cases e6 : a.longest = b.longest
  rotate_left
  · have hne := e6; clear e6
    obtain ⟨ca0, ca1, ca2, ca3, ca4, ca5, ca6, ca7, ca8, ca9, ca10, ca11⟩ := rcs HKA.out
    obtain ⟨cb0, cb1, cb2, cb3, cb4, cb5, cb6, cb7, cb8, cb9, cb10, cb11⟩ := rcs HKB.out
    rw [← e0] at cb0
    rw [← e2] at cb7
    rw [← e4] at cb9
    rw [← e5] at cb10
    have hd1 : (a.longest == b.longest) = false := by simpa using hne
    have HNE := Lib.hid (show ¬ a = b from fun e => hne (by rw [e]))
    clear hne e0 e1 e2 e3 e4 e5
    go_enter Try.func40, Try.ntmps40
    go_wp2_with fail
    refine (b_sameGrant u v a.g b.g _ (HA.out _ HX.out).g.hd (HB.out _ HX.out).g.hd).mono ?_
    rintro x w2 ⟨rfl, hb⟩
    have HX2 := Lib.hid (below_on HX.out hb)
    have HKA2 := Lib.hid ((Mod.of_below hb []).whole HKA.out (by simp))
    have HKB2 := Lib.hid ((Mod.of_below hb []).whole HKB.out (by simp))
    clear hb ca0 cb0 ca1 cb1 ca2 cb2 ca3 cb3 ca4 cb4 ca5 cb5 ca6 cb6 ca7 cb7 ca8 cb8 ca9 cb9 ca10 cb10 ca11 cb11
    obtain ⟨ca0, ca1, ca2, ca3, ca4, ca5, ca6, ca7, ca8, ca9, ca10, ca11⟩ := rcs HKA2.out
    obtain ⟨cb0, cb1, cb2, cb3, cb4, cb5, cb6, cb7, cb8, cb9, cb10, cb11⟩ := rcs HKB2.out
    rw [← E0.out] at cb0
    rw [← E2.out] at cb7
    rw [← E4.out] at cb9
    rw [← E5.out] at cb10
    rw [decide_eq_true E1.out]
    go_wp2_with fail
    refine (equal_hd u2 v2 a.stamp b.stamp _ (HA.out _ HX2.out).st (HB.out _ HX2.out).st).mono ?_
    rintro x w4 ⟨rfl, hb⟩
    have HX4 := Lib.hid (below_on HX2.out hb)
    have HKA4 := Lib.hid ((Mod.of_below hb []).whole HKA2.out (by simp))
    have HKB4 := Lib.hid ((Mod.of_below hb []).whole HKB2.out (by simp))
    clear hb ca0 cb0 ca1 cb1 ca2 cb2 ca3 cb3 ca4 cb4 ca5 cb5 ca6 cb6 ca7 cb7 ca8 cb8 ca9 cb9 ca10 cb10 ca11 cb11
    obtain ⟨ca0, ca1, ca2, ca3, ca4, ca5, ca6, ca7, ca8, ca9, ca10, ca11⟩ := rcs HKA4.out
    obtain ⟨cb0, cb1, cb2, cb3, cb4, cb5, cb6, cb7, cb8, cb9, cb10, cb11⟩ := rcs HKB4.out
    rw [← E0.out] at cb0
    rw [← E2.out] at cb7
    rw [← E4.out] at cb9
    rw [← E5.out] at cb10
    rw [decide_eq_true E3.out]
    go_wp2_with fail
    go_ret
    exact bools (decide_eq_false HNE.out).symm HX4.out
  have E6 := Lib.hid e6
  obtain ⟨ca0, ca1, ca2, ca3, ca4, ca5, ca6, ca7, ca8, ca9, ca10, ca11⟩ := rcs HKA.out
  obtain ⟨cb0, cb1, cb2, cb3, cb4, cb5, cb6, cb7, cb8, cb9, cb10, cb11⟩ := rcs HKB.out
  rw [← e0] at cb0
  rw [← e2] at cb7
  rw [← e4] at cb9
  rw [← e5] at cb10
  rw [← e6] at cb11
  have HEQ := Lib.hid (show a = b from rc_eq e0 e1 e2 e3 e4 e5 e6)
  clear e0 e1 e2 e3 e4 e5 e6
  go_enter Try.func40, Try.ntmps40
  go_wp2_with fail
  refine (b_sameGrant u v a.g b.g _ (HA.out _ HX.out).g.hd (HB.out _ HX.out).g.hd).mono ?_
  rintro x w2 ⟨rfl, hb⟩
  have HX2 := Lib.hid (below_on HX.out hb)
  have HKA2 := Lib.hid ((Mod.of_below hb []).whole HKA.out (by simp))
  have HKB2 := Lib.hid ((Mod.of_below hb []).whole HKB.out (by simp))
  clear hb ca0 cb0 ca1 cb1 ca2 cb2 ca3 cb3 ca4 cb4 ca5 cb5 ca6 cb6 ca7 cb7 ca8 cb8 ca9 cb9 ca10 cb10 ca11 cb11
  obtain ⟨ca0, ca1, ca2, ca3, ca4, ca5, ca6, ca7, ca8, ca9, ca10, ca11⟩ := rcs HKA2.out
  obtain ⟨cb0, cb1, cb2, cb3, cb4, cb5, cb6, cb7, cb8, cb9, cb10, cb11⟩ := rcs HKB2.out
  rw [← E0.out] at cb0
  rw [← E2.out] at cb7
  rw [← E4.out] at cb9
  rw [← E5.out] at cb10
  rw [← E6.out] at cb11
  rw [decide_eq_true E1.out]
  go_wp2_with fail
  refine (equal_hd u2 v2 a.stamp b.stamp _ (HA.out _ HX2.out).st (HB.out _ HX2.out).st).mono ?_
  rintro x w4 ⟨rfl, hb⟩
  have HX4 := Lib.hid (below_on HX2.out hb)
  have HKA4 := Lib.hid ((Mod.of_below hb []).whole HKA2.out (by simp))
  have HKB4 := Lib.hid ((Mod.of_below hb []).whole HKB2.out (by simp))
  clear hb ca0 cb0 ca1 cb1 ca2 cb2 ca3 cb3 ca4 cb4 ca5 cb5 ca6 cb6 ca7 cb7 ca8 cb8 ca9 cb9 ca10 cb10 ca11 cb11
  obtain ⟨ca0, ca1, ca2, ca3, ca4, ca5, ca6, ca7, ca8, ca9, ca10, ca11⟩ := rcs HKA4.out
  obtain ⟨cb0, cb1, cb2, cb3, cb4, cb5, cb6, cb7, cb8, cb9, cb10, cb11⟩ := rcs HKB4.out
  rw [← E0.out] at cb0
  rw [← E2.out] at cb7
  rw [← E4.out] at cb9
  rw [← E5.out] at cb10
  rw [← E6.out] at cb11
  rw [decide_eq_true E3.out]
  go_wp2_with fail
  go_ret
  exact bools (decide_eq_true HEQ.out).symm HX4.out
set_option maxHeartbeats 4000000 in
theorem r_SameRec (u u2 v v2 : Value) (a b : Rc) (w : World) (hA : FitR w u u2 a) (hB : FitR w v v2 b) :
    Calls Try.prog 10 #[.agg (twelve a u u2), .agg (twelve b v v2)] w fun e w' => e = .returned (.bool (decide (a = b))) ∧ Below w.heap.size w w' := by
  have HX := Lib.hid (((Below.refl _ w).alloc (Nat.le_refl _) (.cells (twelve a u u2) 28)).alloc (by simp) (.cells (twelve b v v2) 28))
  have HA := Lib.hid (fun w' (hb : Below w.heap.size w w') => hA.below hb)
  have HB := Lib.hid (fun w' (hb : Below w.heap.size w w') => hB.below hb)
  clear hA hB
  have HKA := Lib.hid ((Whole.new w 28 (twelve a u u2)).alloc (.cells (twelve b v v2) 28))
  have HKB := Lib.hid (show Whole ((w.alloc (.cells (twelve a u u2) 28)).alloc (.cells (twelve b v v2) 28)) (w.heap.size + 1) 28 (twelve b v v2) from by have h := Whole.new (w.alloc (.cells (twelve a u u2) 28)) 28 (twelve b v v2); have e : (w.alloc (.cells (twelve a u u2) 28)).heap.size = w.heap.size + 1 := (by simp); rw [e] at h; exact h)
  by_cases e0 : a.kind = b.kind
  rotate_left
  · have hne := e0; clear e0
    obtain ⟨ca0, _, _, _, _, _, _, _, _, _, _, _⟩ := rcs HKA.out
    obtain ⟨cb0, _, _, _, _, _, _, _, _, _, _, _⟩ := rcs HKB.out
    have hd1 : (a.kind == b.kind) = false := by simpa using hne
    have HNE := Lib.hid (show ¬ a = b from fun e => hne (by rw [e]))
    clear hne
    go_enter Try.func10, Try.ntmps10
    go_wp2_with fail
    go_ret
    exact bools (decide_eq_false HNE.out).symm HX.out
  have E0 := Lib.hid e0
  by_cases e1 : a.g = b.g
  rotate_left
  · have hne := e1; clear e1
    obtain ⟨ca0, ca1, ca2, ca3, ca4, ca5, ca6, _, _, _, _, _⟩ := rcs HKA.out
    obtain ⟨cb0, cb1, cb2, cb3, cb4, cb5, cb6, _, _, _, _, _⟩ := rcs HKB.out
    rw [← e0] at cb0
    have HNE := Lib.hid (show ¬ a = b from fun e => hne (by rw [e]))
    have HN2 := Lib.hid hne
    clear hne e0
    go_enter Try.func10, Try.ntmps10
    go_wp2_with fail
    refine (r_SameGrant u v a.g b.g _ (HA.out _ HX.out).g.hd (HB.out _ HX.out).g.hd).mono ?_
    rintro x w2 ⟨rfl, hb⟩
    have HX2 := Lib.hid (below_on HX.out hb)
    have HKA2 := Lib.hid ((Mod.of_below hb []).whole HKA.out (by simp))
    have HKB2 := Lib.hid ((Mod.of_below hb []).whole HKB.out (by simp))
    clear hb ca0 cb0 ca1 cb1 ca2 cb2 ca3 cb3 ca4 cb4 ca5 cb5 ca6 cb6
    obtain ⟨ca0, ca1, ca2, ca3, ca4, ca5, ca6, _, _, _, _, _⟩ := rcs HKA2.out
    obtain ⟨cb0, cb1, cb2, cb3, cb4, cb5, cb6, _, _, _, _, _⟩ := rcs HKB2.out
    rw [← E0.out] at cb0
    rw [decide_eq_false HN2.out]
    go_wp2_with fail
    go_ret
    exact bools (decide_eq_false HNE.out).symm HX2.out
  have E1 := Lib.hid e1
  by_cases e2 : a.id = b.id
  rotate_left
  · have hne := e2; clear e2
    obtain ⟨ca0, ca1, ca2, ca3, ca4, ca5, ca6, ca7, _, _, _, _⟩ := rcs HKA.out
    obtain ⟨cb0, cb1, cb2, cb3, cb4, cb5, cb6, cb7, _, _, _, _⟩ := rcs HKB.out
    rw [← e0] at cb0
    have hd1 : (a.id == b.id) = false := by simpa using hne
    have HNE := Lib.hid (show ¬ a = b from fun e => hne (by rw [e]))
    clear hne e0 e1
    go_enter Try.func10, Try.ntmps10
    go_wp2_with fail
    refine (r_SameGrant u v a.g b.g _ (HA.out _ HX.out).g.hd (HB.out _ HX.out).g.hd).mono ?_
    rintro x w2 ⟨rfl, hb⟩
    have HX2 := Lib.hid (below_on HX.out hb)
    have HKA2 := Lib.hid ((Mod.of_below hb []).whole HKA.out (by simp))
    have HKB2 := Lib.hid ((Mod.of_below hb []).whole HKB.out (by simp))
    clear hb ca0 cb0 ca1 cb1 ca2 cb2 ca3 cb3 ca4 cb4 ca5 cb5 ca6 cb6 ca7 cb7
    obtain ⟨ca0, ca1, ca2, ca3, ca4, ca5, ca6, ca7, _, _, _, _⟩ := rcs HKA2.out
    obtain ⟨cb0, cb1, cb2, cb3, cb4, cb5, cb6, cb7, _, _, _, _⟩ := rcs HKB2.out
    rw [← E0.out] at cb0
    rw [decide_eq_true E1.out]
    go_wp2_with fail
    go_ret
    exact bools (decide_eq_false HNE.out).symm HX2.out
  have E2 := Lib.hid e2
  by_cases e3 : a.stamp = b.stamp
  rotate_left
  · have hne := e3; clear e3
    obtain ⟨ca0, ca1, ca2, ca3, ca4, ca5, ca6, ca7, ca8, _, _, _⟩ := rcs HKA.out
    obtain ⟨cb0, cb1, cb2, cb3, cb4, cb5, cb6, cb7, cb8, _, _, _⟩ := rcs HKB.out
    rw [← e0] at cb0
    rw [← e2] at cb7
    have HNE := Lib.hid (show ¬ a = b from fun e => hne (by rw [e]))
    have HN2 := Lib.hid hne
    clear hne e0 e1 e2
    go_enter Try.func10, Try.ntmps10
    go_wp2_with fail
    refine (r_SameGrant u v a.g b.g _ (HA.out _ HX.out).g.hd (HB.out _ HX.out).g.hd).mono ?_
    rintro x w2 ⟨rfl, hb⟩
    have HX2 := Lib.hid (below_on HX.out hb)
    have HKA2 := Lib.hid ((Mod.of_below hb []).whole HKA.out (by simp))
    have HKB2 := Lib.hid ((Mod.of_below hb []).whole HKB.out (by simp))
    clear hb ca0 cb0 ca1 cb1 ca2 cb2 ca3 cb3 ca4 cb4 ca5 cb5 ca6 cb6 ca7 cb7 ca8 cb8
    obtain ⟨ca0, ca1, ca2, ca3, ca4, ca5, ca6, ca7, ca8, _, _, _⟩ := rcs HKA2.out
    obtain ⟨cb0, cb1, cb2, cb3, cb4, cb5, cb6, cb7, cb8, _, _, _⟩ := rcs HKB2.out
    rw [← E0.out] at cb0
    rw [← E2.out] at cb7
    rw [decide_eq_true E1.out]
    go_wp2_with fail
    refine (same_hd u2 v2 a.stamp b.stamp _ (HA.out _ HX2.out).st (HB.out _ HX2.out).st).mono ?_
    rintro x w4 ⟨rfl, hb⟩
    have HX4 := Lib.hid (below_on HX2.out hb)
    have HKA4 := Lib.hid ((Mod.of_below hb []).whole HKA2.out (by simp))
    have HKB4 := Lib.hid ((Mod.of_below hb []).whole HKB2.out (by simp))
    clear hb ca0 cb0 ca1 cb1 ca2 cb2 ca3 cb3 ca4 cb4 ca5 cb5 ca6 cb6 ca7 cb7 ca8 cb8
    obtain ⟨ca0, ca1, ca2, ca3, ca4, ca5, ca6, ca7, ca8, _, _, _⟩ := rcs HKA4.out
    obtain ⟨cb0, cb1, cb2, cb3, cb4, cb5, cb6, cb7, cb8, _, _, _⟩ := rcs HKB4.out
    rw [← E0.out] at cb0
    rw [← E2.out] at cb7
    rw [decide_eq_false HN2.out]
    go_wp2_with fail
    go_ret
    exact bools (decide_eq_false HNE.out).symm HX4.out
  have E3 := Lib.hid e3
  by_cases e4 : a.next = b.next
  rotate_left
  · have hne := e4; clear e4
    obtain ⟨ca0, ca1, ca2, ca3, ca4, ca5, ca6, ca7, ca8, ca9, _, _⟩ := rcs HKA.out
    obtain ⟨cb0, cb1, cb2, cb3, cb4, cb5, cb6, cb7, cb8, cb9, _, _⟩ := rcs HKB.out
    rw [← e0] at cb0
    rw [← e2] at cb7
    have hd1 : (a.next == b.next) = false := by simpa using hne
    have HNE := Lib.hid (show ¬ a = b from fun e => hne (by rw [e]))
    clear hne e0 e1 e2 e3
    go_enter Try.func10, Try.ntmps10
    go_wp2_with fail
    refine (r_SameGrant u v a.g b.g _ (HA.out _ HX.out).g.hd (HB.out _ HX.out).g.hd).mono ?_
    rintro x w2 ⟨rfl, hb⟩
    have HX2 := Lib.hid (below_on HX.out hb)
    have HKA2 := Lib.hid ((Mod.of_below hb []).whole HKA.out (by simp))
    have HKB2 := Lib.hid ((Mod.of_below hb []).whole HKB.out (by simp))
    clear hb ca0 cb0 ca1 cb1 ca2 cb2 ca3 cb3 ca4 cb4 ca5 cb5 ca6 cb6 ca7 cb7 ca8 cb8 ca9 cb9
    obtain ⟨ca0, ca1, ca2, ca3, ca4, ca5, ca6, ca7, ca8, ca9, _, _⟩ := rcs HKA2.out
    obtain ⟨cb0, cb1, cb2, cb3, cb4, cb5, cb6, cb7, cb8, cb9, _, _⟩ := rcs HKB2.out
    rw [← E0.out] at cb0
    rw [← E2.out] at cb7
    rw [decide_eq_true E1.out]
    go_wp2_with fail
    refine (same_hd u2 v2 a.stamp b.stamp _ (HA.out _ HX2.out).st (HB.out _ HX2.out).st).mono ?_
    rintro x w4 ⟨rfl, hb⟩
    have HX4 := Lib.hid (below_on HX2.out hb)
    have HKA4 := Lib.hid ((Mod.of_below hb []).whole HKA2.out (by simp))
    have HKB4 := Lib.hid ((Mod.of_below hb []).whole HKB2.out (by simp))
    clear hb ca0 cb0 ca1 cb1 ca2 cb2 ca3 cb3 ca4 cb4 ca5 cb5 ca6 cb6 ca7 cb7 ca8 cb8 ca9 cb9
    obtain ⟨ca0, ca1, ca2, ca3, ca4, ca5, ca6, ca7, ca8, ca9, _, _⟩ := rcs HKA4.out
    obtain ⟨cb0, cb1, cb2, cb3, cb4, cb5, cb6, cb7, cb8, cb9, _, _⟩ := rcs HKB4.out
    rw [← E0.out] at cb0
    rw [← E2.out] at cb7
    rw [decide_eq_true E3.out]
    go_wp2_with fail
    go_ret
    exact bools (decide_eq_false HNE.out).symm HX4.out
  have E4 := Lib.hid e4
  by_cases e5 : a.boots = b.boots
  rotate_left
  · have hne := e5; clear e5
    obtain ⟨ca0, ca1, ca2, ca3, ca4, ca5, ca6, ca7, ca8, ca9, ca10, _⟩ := rcs HKA.out
    obtain ⟨cb0, cb1, cb2, cb3, cb4, cb5, cb6, cb7, cb8, cb9, cb10, _⟩ := rcs HKB.out
    rw [← e0] at cb0
    rw [← e2] at cb7
    rw [← e4] at cb9
    have hd1 : (a.boots == b.boots) = false := by simpa using hne
    have HNE := Lib.hid (show ¬ a = b from fun e => hne (by rw [e]))
    clear hne e0 e1 e2 e3 e4
    go_enter Try.func10, Try.ntmps10
    go_wp2_with fail
    refine (r_SameGrant u v a.g b.g _ (HA.out _ HX.out).g.hd (HB.out _ HX.out).g.hd).mono ?_
    rintro x w2 ⟨rfl, hb⟩
    have HX2 := Lib.hid (below_on HX.out hb)
    have HKA2 := Lib.hid ((Mod.of_below hb []).whole HKA.out (by simp))
    have HKB2 := Lib.hid ((Mod.of_below hb []).whole HKB.out (by simp))
    clear hb ca0 cb0 ca1 cb1 ca2 cb2 ca3 cb3 ca4 cb4 ca5 cb5 ca6 cb6 ca7 cb7 ca8 cb8 ca9 cb9 ca10 cb10
    obtain ⟨ca0, ca1, ca2, ca3, ca4, ca5, ca6, ca7, ca8, ca9, ca10, _⟩ := rcs HKA2.out
    obtain ⟨cb0, cb1, cb2, cb3, cb4, cb5, cb6, cb7, cb8, cb9, cb10, _⟩ := rcs HKB2.out
    rw [← E0.out] at cb0
    rw [← E2.out] at cb7
    rw [← E4.out] at cb9
    rw [decide_eq_true E1.out]
    go_wp2_with fail
    refine (same_hd u2 v2 a.stamp b.stamp _ (HA.out _ HX2.out).st (HB.out _ HX2.out).st).mono ?_
    rintro x w4 ⟨rfl, hb⟩
    have HX4 := Lib.hid (below_on HX2.out hb)
    have HKA4 := Lib.hid ((Mod.of_below hb []).whole HKA2.out (by simp))
    have HKB4 := Lib.hid ((Mod.of_below hb []).whole HKB2.out (by simp))
    clear hb ca0 cb0 ca1 cb1 ca2 cb2 ca3 cb3 ca4 cb4 ca5 cb5 ca6 cb6 ca7 cb7 ca8 cb8 ca9 cb9 ca10 cb10
    obtain ⟨ca0, ca1, ca2, ca3, ca4, ca5, ca6, ca7, ca8, ca9, ca10, _⟩ := rcs HKA4.out
    obtain ⟨cb0, cb1, cb2, cb3, cb4, cb5, cb6, cb7, cb8, cb9, cb10, _⟩ := rcs HKB4.out
    rw [← E0.out] at cb0
    rw [← E2.out] at cb7
    rw [← E4.out] at cb9
    rw [decide_eq_true E3.out]
    go_wp2_with fail
    go_ret
    exact bools (decide_eq_false HNE.out).symm HX4.out
  have E5 := Lib.hid e5
  by_cases e6 : a.longest = b.longest
  rotate_left
  · have hne := e6; clear e6
    obtain ⟨ca0, ca1, ca2, ca3, ca4, ca5, ca6, ca7, ca8, ca9, ca10, ca11⟩ := rcs HKA.out
    obtain ⟨cb0, cb1, cb2, cb3, cb4, cb5, cb6, cb7, cb8, cb9, cb10, cb11⟩ := rcs HKB.out
    rw [← e0] at cb0
    rw [← e2] at cb7
    rw [← e4] at cb9
    rw [← e5] at cb10
    have hd1 : (a.longest == b.longest) = false := by simpa using hne
    have HNE := Lib.hid (show ¬ a = b from fun e => hne (by rw [e]))
    clear hne e0 e1 e2 e3 e4 e5
    go_enter Try.func10, Try.ntmps10
    go_wp2_with fail
    refine (r_SameGrant u v a.g b.g _ (HA.out _ HX.out).g.hd (HB.out _ HX.out).g.hd).mono ?_
    rintro x w2 ⟨rfl, hb⟩
    have HX2 := Lib.hid (below_on HX.out hb)
    have HKA2 := Lib.hid ((Mod.of_below hb []).whole HKA.out (by simp))
    have HKB2 := Lib.hid ((Mod.of_below hb []).whole HKB.out (by simp))
    clear hb ca0 cb0 ca1 cb1 ca2 cb2 ca3 cb3 ca4 cb4 ca5 cb5 ca6 cb6 ca7 cb7 ca8 cb8 ca9 cb9 ca10 cb10 ca11 cb11
    obtain ⟨ca0, ca1, ca2, ca3, ca4, ca5, ca6, ca7, ca8, ca9, ca10, ca11⟩ := rcs HKA2.out
    obtain ⟨cb0, cb1, cb2, cb3, cb4, cb5, cb6, cb7, cb8, cb9, cb10, cb11⟩ := rcs HKB2.out
    rw [← E0.out] at cb0
    rw [← E2.out] at cb7
    rw [← E4.out] at cb9
    rw [← E5.out] at cb10
    rw [decide_eq_true E1.out]
    go_wp2_with fail
    refine (same_hd u2 v2 a.stamp b.stamp _ (HA.out _ HX2.out).st (HB.out _ HX2.out).st).mono ?_
    rintro x w4 ⟨rfl, hb⟩
    have HX4 := Lib.hid (below_on HX2.out hb)
    have HKA4 := Lib.hid ((Mod.of_below hb []).whole HKA2.out (by simp))
    have HKB4 := Lib.hid ((Mod.of_below hb []).whole HKB2.out (by simp))
    clear hb ca0 cb0 ca1 cb1 ca2 cb2 ca3 cb3 ca4 cb4 ca5 cb5 ca6 cb6 ca7 cb7 ca8 cb8 ca9 cb9 ca10 cb10 ca11 cb11
    obtain ⟨ca0, ca1, ca2, ca3, ca4, ca5, ca6, ca7, ca8, ca9, ca10, ca11⟩ := rcs HKA4.out
    obtain ⟨cb0, cb1, cb2, cb3, cb4, cb5, cb6, cb7, cb8, cb9, cb10, cb11⟩ := rcs HKB4.out
    rw [← E0.out] at cb0
    rw [← E2.out] at cb7
    rw [← E4.out] at cb9
    rw [← E5.out] at cb10
    rw [decide_eq_true E3.out]
    go_wp2_with fail
    go_ret
    exact bools (decide_eq_false HNE.out).symm HX4.out
  have E6 := Lib.hid e6
  obtain ⟨ca0, ca1, ca2, ca3, ca4, ca5, ca6, ca7, ca8, ca9, ca10, ca11⟩ := rcs HKA.out
  obtain ⟨cb0, cb1, cb2, cb3, cb4, cb5, cb6, cb7, cb8, cb9, cb10, cb11⟩ := rcs HKB.out
  rw [← e0] at cb0
  rw [← e2] at cb7
  rw [← e4] at cb9
  rw [← e5] at cb10
  rw [← e6] at cb11
  have HEQ := Lib.hid (show a = b from rc_eq e0 e1 e2 e3 e4 e5 e6)
  clear e0 e1 e2 e3 e4 e5 e6
  go_enter Try.func10, Try.ntmps10
  go_wp2_with fail
  refine (r_SameGrant u v a.g b.g _ (HA.out _ HX.out).g.hd (HB.out _ HX.out).g.hd).mono ?_
  rintro x w2 ⟨rfl, hb⟩
  have HX2 := Lib.hid (below_on HX.out hb)
  have HKA2 := Lib.hid ((Mod.of_below hb []).whole HKA.out (by simp))
  have HKB2 := Lib.hid ((Mod.of_below hb []).whole HKB.out (by simp))
  clear hb ca0 cb0 ca1 cb1 ca2 cb2 ca3 cb3 ca4 cb4 ca5 cb5 ca6 cb6 ca7 cb7 ca8 cb8 ca9 cb9 ca10 cb10 ca11 cb11
  obtain ⟨ca0, ca1, ca2, ca3, ca4, ca5, ca6, ca7, ca8, ca9, ca10, ca11⟩ := rcs HKA2.out
  obtain ⟨cb0, cb1, cb2, cb3, cb4, cb5, cb6, cb7, cb8, cb9, cb10, cb11⟩ := rcs HKB2.out
  rw [← E0.out] at cb0
  rw [← E2.out] at cb7
  rw [← E4.out] at cb9
  rw [← E5.out] at cb10
  rw [← E6.out] at cb11
  rw [decide_eq_true E1.out]
  go_wp2_with fail
  refine (same_hd u2 v2 a.stamp b.stamp _ (HA.out _ HX2.out).st (HB.out _ HX2.out).st).mono ?_
  rintro x w4 ⟨rfl, hb⟩
  have HX4 := Lib.hid (below_on HX2.out hb)
  have HKA4 := Lib.hid ((Mod.of_below hb []).whole HKA2.out (by simp))
  have HKB4 := Lib.hid ((Mod.of_below hb []).whole HKB2.out (by simp))
  clear hb ca0 cb0 ca1 cb1 ca2 cb2 ca3 cb3 ca4 cb4 ca5 cb5 ca6 cb6 ca7 cb7 ca8 cb8 ca9 cb9 ca10 cb10 ca11 cb11
  obtain ⟨ca0, ca1, ca2, ca3, ca4, ca5, ca6, ca7, ca8, ca9, ca10, ca11⟩ := rcs HKA4.out
  obtain ⟨cb0, cb1, cb2, cb3, cb4, cb5, cb6, cb7, cb8, cb9, cb10, cb11⟩ := rcs HKB4.out
  rw [← E0.out] at cb0
  rw [← E2.out] at cb7
  rw [← E4.out] at cb9
  rw [← E5.out] at cb10
  rw [← E6.out] at cb11
  rw [decide_eq_true E3.out]
  go_wp2_with fail
  go_ret
  exact bools (decide_eq_true HEQ.out).symm HX4.out
end Go.Proofs.Ytboflkadabagfab
