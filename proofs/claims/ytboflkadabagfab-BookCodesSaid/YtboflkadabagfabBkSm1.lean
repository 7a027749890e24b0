/- Whether two grants are one: the package's call and the document's. -/
import Derived.Test.YtboflkadabagfabBkW1
namespace Go.Proofs.Ytboflkadabagfab
open Go.RowKit
open BM (Gr Rc Bk g0 r0 b0)
set_option linter.unusedVariables false
set_option linter.unusedSimpArgs false
set_option maxRecDepth 100000
theorem gcs1 {w : World} {g : Nat} {x : Gr} {V : Value} (h : Whole w g 26 (six x V)) : w.cell? ⟨g, 0, none⟩ = some (.int .i64 x.id) ∧ w.cell? ⟨g, 1, none⟩ = some (.int .i64 x.holder) ∧ w.cell? ⟨g, 2, none⟩ = some (.string x.path) ∧ w.cell? ⟨g, 3, none⟩ = some (.int .i64 x.mode) ∧ w.cell? ⟨g, 4, none⟩ = some V ∧ w.cell? ⟨g, 5, none⟩ = some (.int .i64 x.term) :=
  ⟨h.cell 0, h.cell 1, h.cell 2, h.cell 3, h.cell 4, h.cell 5⟩
set_option maxHeartbeats 4000000 in
theorem b_sameGrant (u v : Value) (a b : Gr) (w : World) (hA : HdI w u a.stamp) (hB : HdI w v b.stamp) :
    Calls Try.prog 37 #[.agg (six a u), .agg (six b v)] w fun e w' => e = .returned (.bool (decide (a = b))) ∧ Below w.heap.size w w' := by
  have HX := Lib.hid (((Below.refl _ w).alloc (Nat.le_refl _) (.cells (six a u) 26)).alloc (by simp) (.cells (six b v) 26))
  have HA := Lib.hid (fun w' (hb : Below w.heap.size w w') => hA.below hb)
  have HB := Lib.hid (fun w' (hb : Below w.heap.size w w') => hB.below hb)
  clear hA hB
  have HKA := Lib.hid ((Whole.new w 26 (six a u)).alloc (.cells (six b v) 26))
  have HKB := Lib.hid (show Whole ((w.alloc (.cells (six a u) 26)).alloc (.cells (six b v) 26)) (w.heap.size + 1) 26 (six b v) from by have h := Whole.new (w.alloc (.cells (six a u) 26)) 26 (six b v); have e : (w.alloc (.cells (six a u) 26)).heap.size = w.heap.size + 1 := (by simp); rw [e] at h; exact h)
  by_cases e0 : a.id = b.id
  rotate_left
  · have hne := e0; clear e0
    obtain ⟨ca0, _, _, _, _, _⟩ := gcs1 HKA.out
    obtain ⟨cb0, _, _, _, _, _⟩ := gcs1 HKB.out
    have hd1 : (a.id == b.id) = false := by simpa using hne
    have HNE := Lib.hid (show ¬ a = b from fun e => hne (by rw [e]))
    clear hne
    go_enter Try.func37, Try.ntmps37
    go_wp2_with fail
    go_ret
    exact bools (decide_eq_false HNE.out).symm HX.out
  have E0 := Lib.hid e0
  by_cases e1 : a.holder = b.holder
  rotate_left
  · have hne := e1; clear e1
    obtain ⟨ca0, ca1, _, _, _, _⟩ := gcs1 HKA.out
    obtain ⟨cb0, cb1, _, _, _, _⟩ := gcs1 HKB.out
    rw [← e0] at cb0
    have hd1 : (a.holder == b.holder) = false := by simpa using hne
    have HNE := Lib.hid (show ¬ a = b from fun e => hne (by rw [e]))
    clear hne e0
    go_enter Try.func37, Try.ntmps37
    go_wp2_with fail
    go_ret
    exact bools (decide_eq_false HNE.out).symm HX.out
  have E1 := Lib.hid e1
  by_cases e2 : a.path = b.path
  rotate_left
  · have hne := e2; clear e2
    obtain ⟨ca0, ca1, ca2, _, _, _⟩ := gcs1 HKA.out
    obtain ⟨cb0, cb1, cb2, _, _, _⟩ := gcs1 HKB.out
    rw [← e0] at cb0
    rw [← e1] at cb1
    have hd2 : (a.path.toList == b.path.toList) = false := by rw [beq_eq_false_iff_ne]; intro e; apply hne; rw [Lib.toList_data, Lib.toList_data] at e; exact ByteArray.ext (by simpa using congrArg List.toArray e)
    have HNE := Lib.hid (show ¬ a = b from fun e => hne (by rw [e]))
    clear hne e0 e1
    go_enter Try.func37, Try.ntmps37
    go_wp2_with fail
    go_ret
    exact bools (decide_eq_false HNE.out).symm HX.out
  have E2 := Lib.hid e2
  by_cases e3 : a.mode = b.mode
  rotate_left
  · have hne := e3; clear e3
    obtain ⟨ca0, ca1, ca2, ca3, _, _⟩ := gcs1 HKA.out
    obtain ⟨cb0, cb1, cb2, cb3, _, _⟩ := gcs1 HKB.out
    rw [← e0] at cb0
    rw [← e1] at cb1
    rw [← e2] at cb2
    have hd1 : (a.mode == b.mode) = false := by simpa using hne
    have HNE := Lib.hid (show ¬ a = b from fun e => hne (by rw [e]))
    clear hne e0 e1 e2
    go_enter Try.func37, Try.ntmps37
    go_wp2_with fail
    go_ret
    exact bools (decide_eq_false HNE.out).symm HX.out
  have E3 := Lib.hid e3
  by_cases e4 : a.stamp = b.stamp
  rotate_left
  · have hne := e4; clear e4
    obtain ⟨ca0, ca1, ca2, ca3, ca4, _⟩ := gcs1 HKA.out
    obtain ⟨cb0, cb1, cb2, cb3, cb4, _⟩ := gcs1 HKB.out
    rw [← e0] at cb0
    rw [← e1] at cb1
    rw [← e2] at cb2
    rw [← e3] at cb3
    have HNE := Lib.hid (show ¬ a = b from fun e => hne (by rw [e]))
    have HN2 := Lib.hid hne
    clear hne e0 e1 e2 e3
    go_enter Try.func37, Try.ntmps37
    go_wp2_with fail
    refine (equal_hd u v a.stamp b.stamp _ (HA.out _ HX.out) (HB.out _ HX.out)).mono ?_
    rintro x w5 ⟨rfl, hb⟩
    have HX5 := Lib.hid (below_on HX.out hb)
    have HKA5 := Lib.hid ((Mod.of_below hb []).whole HKA.out (by simp))
    have HKB5 := Lib.hid ((Mod.of_below hb []).whole HKB.out (by simp))
    clear hb ca0 cb0 ca1 cb1 ca2 cb2 ca3 cb3 ca4 cb4
    obtain ⟨ca0, ca1, ca2, ca3, ca4, _⟩ := gcs1 HKA5.out
    obtain ⟨cb0, cb1, cb2, cb3, cb4, _⟩ := gcs1 HKB5.out
    rw [← E0.out] at cb0
    rw [← E1.out] at cb1
    rw [← E2.out] at cb2
    rw [← E3.out] at cb3
    rw [decide_eq_false HN2.out]
    go_wp2_with fail
    go_ret
    exact bools (decide_eq_false HNE.out).symm HX5.out
  have E4 := Lib.hid e4
  by_cases e5 : a.term = b.term
  rotate_left
  · have hne := e5; clear e5
    obtain ⟨ca0, ca1, ca2, ca3, ca4, ca5⟩ := gcs1 HKA.out
    obtain ⟨cb0, cb1, cb2, cb3, cb4, cb5⟩ := gcs1 HKB.out
    rw [← e0] at cb0
    rw [← e1] at cb1
    rw [← e2] at cb2
    rw [← e3] at cb3
    have hd1 : (a.term == b.term) = false := by simpa using hne
    have HNE := Lib.hid (show ¬ a = b from fun e => hne (by rw [e]))
    clear hne e0 e1 e2 e3 e4
    go_enter Try.func37, Try.ntmps37
    go_wp2_with fail
    refine (equal_hd u v a.stamp b.stamp _ (HA.out _ HX.out) (HB.out _ HX.out)).mono ?_
    rintro x w5 ⟨rfl, hb⟩
    have HX5 := Lib.hid (below_on HX.out hb)
    have HKA5 := Lib.hid ((Mod.of_below hb []).whole HKA.out (by simp))
    have HKB5 := Lib.hid ((Mod.of_below hb []).whole HKB.out (by simp))
    clear hb ca0 cb0 ca1 cb1 ca2 cb2 ca3 cb3 ca4 cb4 ca5 cb5
    obtain ⟨ca0, ca1, ca2, ca3, ca4, ca5⟩ := gcs1 HKA5.out
    obtain ⟨cb0, cb1, cb2, cb3, cb4, cb5⟩ := gcs1 HKB5.out
    rw [← E0.out] at cb0
    rw [← E1.out] at cb1
    rw [← E2.out] at cb2
    rw [← E3.out] at cb3
    rw [decide_eq_true E4.out]
    go_wp2_with fail
    go_ret
    exact bools (decide_eq_false HNE.out).symm HX5.out
  have E5 := Lib.hid e5
  obtain ⟨ca0, ca1, ca2, ca3, ca4, ca5⟩ := gcs1 HKA.out
  obtain ⟨cb0, cb1, cb2, cb3, cb4, cb5⟩ := gcs1 HKB.out
  rw [← e0] at cb0
  rw [← e1] at cb1
  rw [← e2] at cb2
  rw [← e3] at cb3
  rw [← e5] at cb5
  have HEQ := Lib.hid (show a = b from by cases a; cases b; simp only at e0 e1 e2 e3 e4 e5; subst e0 e1 e2 e3 e4 e5; rfl)
  clear e0 e1 e2 e3 e4 e5
  go_enter Try.func37, Try.ntmps37
  go_wp2_with fail
  refine (equal_hd u v a.stamp b.stamp _ (HA.out _ HX.out) (HB.out _ HX.out)).mono ?_
  rintro x w5 ⟨rfl, hb⟩
  have HX5 := Lib.hid (below_on HX.out hb)
  have HKA5 := Lib.hid ((Mod.of_below hb []).whole HKA.out (by simp))
  have HKB5 := Lib.hid ((Mod.of_below hb []).whole HKB.out (by simp))
  clear hb ca0 cb0 ca1 cb1 ca2 cb2 ca3 cb3 ca4 cb4 ca5 cb5
  obtain ⟨ca0, ca1, ca2, ca3, ca4, ca5⟩ := gcs1 HKA5.out
  obtain ⟨cb0, cb1, cb2, cb3, cb4, cb5⟩ := gcs1 HKB5.out
  rw [← E0.out] at cb0
  rw [← E1.out] at cb1
  rw [← E2.out] at cb2
  rw [← E3.out] at cb3
  rw [← E5.out] at cb5
  rw [decide_eq_true E4.out]
  go_wp2_with fail
  go_ret
  exact bools (decide_eq_true HEQ.out).symm HX5.out
set_option maxHeartbeats 4000000 in
theorem r_SameGrant (u v : Value) (a b : Gr) (w : World) (hA : HdI w u a.stamp) (hB : HdI w v b.stamp) :
    Calls Try.prog 28 #[.agg (six a u), .agg (six b v)] w fun e w' => e = .returned (.bool (decide (a = b))) ∧ Below w.heap.size w w' := by
  have HX := Lib.hid (((Below.refl _ w).alloc (Nat.le_refl _) (.cells (six a u) 26)).alloc (by simp) (.cells (six b v) 26))
  have HA := Lib.hid (fun w' (hb : Below w.heap.size w w') => hA.below hb)
  have HB := Lib.hid (fun w' (hb : Below w.heap.size w w') => hB.below hb)
  clear hA hB
  have HKA := Lib.hid ((Whole.new w 26 (six a u)).alloc (.cells (six b v) 26))
  have HKB := Lib.hid (show Whole ((w.alloc (.cells (six a u) 26)).alloc (.cells (six b v) 26)) (w.heap.size + 1) 26 (six b v) from by have h := Whole.new (w.alloc (.cells (six a u) 26)) 26 (six b v); have e : (w.alloc (.cells (six a u) 26)).heap.size = w.heap.size + 1 := (by simp); rw [e] at h; exact h)
  by_cases e0 : a.id = b.id
  rotate_left
  · have hne := e0; clear e0
    obtain ⟨ca0, _, _, _, _, _⟩ := gcs1 HKA.out
    obtain ⟨cb0, _, _, _, _, _⟩ := gcs1 HKB.out
    have hd1 : (a.id == b.id) = false := by simpa using hne
    have HNE := Lib.hid (show ¬ a = b from fun e => hne (by rw [e]))
    clear hne
    go_enter Try.func28, Try.ntmps28
    go_wp2_with fail
    go_ret
    exact bools (decide_eq_false HNE.out).symm HX.out
  have E0 := Lib.hid e0
  by_cases e1 : a.holder = b.holder
  rotate_left
  · have hne := e1; clear e1
    obtain ⟨ca0, ca1, _, _, _, _⟩ := gcs1 HKA.out
    obtain ⟨cb0, cb1, _, _, _, _⟩ := gcs1 HKB.out
    rw [← e0] at cb0
    have hd1 : (a.holder == b.holder) = false := by simpa using hne
    have HNE := Lib.hid (show ¬ a = b from fun e => hne (by rw [e]))
    clear hne e0
    go_enter Try.func28, Try.ntmps28
    go_wp2_with fail
    go_ret
    exact bools (decide_eq_false HNE.out).symm HX.out
  have E1 := Lib.hid e1
  by_cases e2 : a.path = b.path
  rotate_left
  · have hne := e2; clear e2
    obtain ⟨ca0, ca1, ca2, _, _, _⟩ := gcs1 HKA.out
    obtain ⟨cb0, cb1, cb2, _, _, _⟩ := gcs1 HKB.out
    rw [← e0] at cb0
    rw [← e1] at cb1
    have hd2 : (a.path.toList == b.path.toList) = false := by rw [beq_eq_false_iff_ne]; intro e; apply hne; rw [Lib.toList_data, Lib.toList_data] at e; exact ByteArray.ext (by simpa using congrArg List.toArray e)
    have HNE := Lib.hid (show ¬ a = b from fun e => hne (by rw [e]))
    clear hne e0 e1
    go_enter Try.func28, Try.ntmps28
    go_wp2_with fail
    go_ret
    exact bools (decide_eq_false HNE.out).symm HX.out
  have E2 := Lib.hid e2
  by_cases e3 : a.mode = b.mode
  rotate_left
  · have hne := e3; clear e3
    obtain ⟨ca0, ca1, ca2, ca3, _, _⟩ := gcs1 HKA.out
    obtain ⟨cb0, cb1, cb2, cb3, _, _⟩ := gcs1 HKB.out
    rw [← e0] at cb0
    rw [← e1] at cb1
    rw [← e2] at cb2
    have hd1 : (a.mode == b.mode) = false := by simpa using hne
    have HNE := Lib.hid (show ¬ a = b from fun e => hne (by rw [e]))
    clear hne e0 e1 e2
    go_enter Try.func28, Try.ntmps28
    go_wp2_with fail
    go_ret
    exact bools (decide_eq_false HNE.out).symm HX.out
  have E3 := Lib.hid e3
  by_cases e4 : a.term = b.term
  rotate_left
  · have hne := e4; clear e4
    obtain ⟨ca0, ca1, ca2, ca3, _, ca5⟩ := gcs1 HKA.out
    obtain ⟨cb0, cb1, cb2, cb3, _, cb5⟩ := gcs1 HKB.out
    rw [← e0] at cb0
    rw [← e1] at cb1
    rw [← e2] at cb2
    rw [← e3] at cb3
    have hd1 : (a.term == b.term) = false := by simpa using hne
    have HNE := Lib.hid (show ¬ a = b from fun e => hne (by rw [e]))
    clear hne e0 e1 e2 e3
    go_enter Try.func28, Try.ntmps28
    go_wp2_with fail
    go_ret
    exact bools (decide_eq_false HNE.out).symm HX.out
  have E4 := Lib.hid e4
  by_cases e5 : a.stamp = b.stamp
  rotate_left
  · have hne := e5; clear e5
    obtain ⟨ca0, ca1, ca2, ca3, ca4, ca5⟩ := gcs1 HKA.out
    obtain ⟨cb0, cb1, cb2, cb3, cb4, cb5⟩ := gcs1 HKB.out
    rw [← e0] at cb0
    rw [← e1] at cb1
    rw [← e2] at cb2
    rw [← e3] at cb3
    rw [← e4] at cb5
    have HNE := Lib.hid (show ¬ a = b from fun e => hne (by rw [e]))
    have HN2 := Lib.hid hne
    clear hne e0 e1 e2 e3 e4
    go_enter Try.func28, Try.ntmps28
    go_wp2_with fail
    refine (same_hd u v a.stamp b.stamp _ (HA.out _ HX.out) (HB.out _ HX.out)).mono ?_
    rintro x w6 ⟨rfl, hb⟩
    have HX6 := Lib.hid (below_on HX.out hb)
    have HKA6 := Lib.hid ((Mod.of_below hb []).whole HKA.out (by simp))
    have HKB6 := Lib.hid ((Mod.of_below hb []).whole HKB.out (by simp))
    clear hb ca0 cb0 ca1 cb1 ca2 cb2 ca3 cb3 ca5 cb5 ca4 cb4
    obtain ⟨ca0, ca1, ca2, ca3, ca4, ca5⟩ := gcs1 HKA6.out
    obtain ⟨cb0, cb1, cb2, cb3, cb4, cb5⟩ := gcs1 HKB6.out
    rw [← E0.out] at cb0
    rw [← E1.out] at cb1
    rw [← E2.out] at cb2
    rw [← E3.out] at cb3
    rw [← E4.out] at cb5
    rw [decide_eq_false HN2.out]
    go_wp2_with fail
    go_ret
    exact bools (decide_eq_false HNE.out).symm HX6.out
  have E5 := Lib.hid e5
  obtain ⟨ca0, ca1, ca2, ca3, ca4, ca5⟩ := gcs1 HKA.out
  obtain ⟨cb0, cb1, cb2, cb3, cb4, cb5⟩ := gcs1 HKB.out
  rw [← e0] at cb0
  rw [← e1] at cb1
  rw [← e2] at cb2
  rw [← e3] at cb3
  rw [← e4] at cb5
  have HEQ := Lib.hid (show a = b from by cases a; cases b; simp only at e0 e1 e2 e3 e5 e4; subst e0 e1 e2 e3 e5 e4; rfl)
  clear e0 e1 e2 e3 e4 e5
  go_enter Try.func28, Try.ntmps28
  go_wp2_with fail
  refine (same_hd u v a.stamp b.stamp _ (HA.out _ HX.out) (HB.out _ HX.out)).mono ?_
  rintro x w6 ⟨rfl, hb⟩
  have HX6 := Lib.hid (below_on HX.out hb)
  have HKA6 := Lib.hid ((Mod.of_below hb []).whole HKA.out (by simp))
  have HKB6 := Lib.hid ((Mod.of_below hb []).whole HKB.out (by simp))
  clear hb ca0 cb0 ca1 cb1 ca2 cb2 ca3 cb3 ca5 cb5 ca4 cb4
  obtain ⟨ca0, ca1, ca2, ca3, ca4, ca5⟩ := gcs1 HKA6.out
  obtain ⟨cb0, cb1, cb2, cb3, cb4, cb5⟩ := gcs1 HKB6.out
  rw [← E0.out] at cb0
  rw [← E1.out] at cb1
  rw [← E2.out] at cb2
  rw [← E3.out] at cb3
  rw [← E4.out] at cb5
  rw [decide_eq_true E5.out]
  go_wp2_with fail
  go_ret
  exact bools (decide_eq_true HEQ.out).symm HX6.out
end Go.Proofs.Ytboflkadabagfab
