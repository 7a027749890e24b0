/- Whether two grants are one: the package's call and the document's. -/
import Derived.Test.YtdegamlnkleddaaBkW1
namespace Go.Proofs.Ytdegamlnkleddaa
open Go.RowKit
open BM (Gr Rc Bk g0 r0 b0)
set_option linter.unusedVariables false
set_option linter.unusedSimpArgs false
set_option maxRecDepth 100000
set_option maxHeartbeats 4000000 in
theorem b_sameGrant (u v : Value) (a b : Gr) (w : World) (hA : HdI w u a.stamp) (hB : HdI w v b.stamp) :
    Calls Try.prog 51 #[.agg (six a u), .agg (six b v)] w fun e w' => e = .returned (.bool (decide (a = b))) ∧ Below w.heap.size w w' := by
  have HX := Lib.hid (((Below.refl _ w).alloc (Nat.le_refl _) (.cells (six a u) 30)).alloc (by simp) (.cells (six b v) 30))
  have HA := Lib.hid (fun w' (hb : Below w.heap.size w w') => hA.below hb)
  have HB := Lib.hid (fun w' (hb : Below w.heap.size w w') => hB.below hb)
  clear hA hB
  have HKA := Lib.hid ((Whole.new w 30 (six a u)).alloc (.cells (six b v) 30))
  have HKB := Lib.hid (show Whole ((w.alloc (.cells (six a u) 30)).alloc (.cells (six b v) 30)) (w.heap.size + 1) 30 (six b v) from by have h := Whole.new (w.alloc (.cells (six a u) 30)) 30 (six b v); have e : (w.alloc (.cells (six a u) 30)).heap.size = w.heap.size + 1 := (by simp); rw [e] at h; exact h)
  by_cases e0 : a.id = b.id
  rotate_left
  · have hne := e0; clear e0
    have ca0 : ((w.alloc (.cells (six a u) 30)).alloc (.cells (six b v) 30)).cell? ⟨w.heap.size, 0, none⟩ = some (.int .i64 a.id) := HKA.out.cell 0
    have cb0 : ((w.alloc (.cells (six a u) 30)).alloc (.cells (six b v) 30)).cell? ⟨w.heap.size + 1, 0, none⟩ = some (.int .i64 b.id) := HKB.out.cell 0
    have hd1 : (a.id == b.id) = false := by simpa using hne
    have HNE := Lib.hid (show ¬ a = b from fun e => hne (by rw [e]))
    clear hne
    go_enter Try.func51, Try.ntmps51
    go_wp2_with fail
    go_ret
    exact bools (decide_eq_false HNE.out).symm HX.out
  have E0 := Lib.hid e0
  by_cases e1 : a.holder = b.holder
  rotate_left
  · have hne := e1; clear e1
    have ca0 : ((w.alloc (.cells (six a u) 30)).alloc (.cells (six b v) 30)).cell? ⟨w.heap.size, 0, none⟩ = some (.int .i64 a.id) := HKA.out.cell 0
    have cb0 : ((w.alloc (.cells (six a u) 30)).alloc (.cells (six b v) 30)).cell? ⟨w.heap.size + 1, 0, none⟩ = some (.int .i64 a.id) := by rw [e0]; exact HKB.out.cell 0
    have ca1 : ((w.alloc (.cells (six a u) 30)).alloc (.cells (six b v) 30)).cell? ⟨w.heap.size, 1, none⟩ = some (.int .i64 a.holder) := HKA.out.cell 1
    have cb1 : ((w.alloc (.cells (six a u) 30)).alloc (.cells (six b v) 30)).cell? ⟨w.heap.size + 1, 1, none⟩ = some (.int .i64 b.holder) := HKB.out.cell 1
    have hd1 : (a.holder == b.holder) = false := by simpa using hne
    have HNE := Lib.hid (show ¬ a = b from fun e => hne (by rw [e]))
    clear hne e0
    go_enter Try.func51, Try.ntmps51
    go_wp2_with fail
    go_ret
    exact bools (decide_eq_false HNE.out).symm HX.out
  have E1 := Lib.hid e1
  by_cases e2 : a.path = b.path
  rotate_left
  · have hne := e2; clear e2
    have ca0 : ((w.alloc (.cells (six a u) 30)).alloc (.cells (six b v) 30)).cell? ⟨w.heap.size, 0, none⟩ = some (.int .i64 a.id) := HKA.out.cell 0
    have cb0 : ((w.alloc (.cells (six a u) 30)).alloc (.cells (six b v) 30)).cell? ⟨w.heap.size + 1, 0, none⟩ = some (.int .i64 a.id) := by rw [e0]; exact HKB.out.cell 0
    have ca1 : ((w.alloc (.cells (six a u) 30)).alloc (.cells (six b v) 30)).cell? ⟨w.heap.size, 1, none⟩ = some (.int .i64 a.holder) := HKA.out.cell 1
    have cb1 : ((w.alloc (.cells (six a u) 30)).alloc (.cells (six b v) 30)).cell? ⟨w.heap.size + 1, 1, none⟩ = some (.int .i64 a.holder) := by rw [e1]; exact HKB.out.cell 1
    have ca2 : ((w.alloc (.cells (six a u) 30)).alloc (.cells (six b v) 30)).cell? ⟨w.heap.size, 2, none⟩ = some (.string a.path) := HKA.out.cell 2
    have cb2 : ((w.alloc (.cells (six a u) 30)).alloc (.cells (six b v) 30)).cell? ⟨w.heap.size + 1, 2, none⟩ = some (.string b.path) := HKB.out.cell 2
    have hd2 : (a.path.toList == b.path.toList) = false := by rw [beq_eq_false_iff_ne]; intro e; apply hne; rw [Lib.toList_data, Lib.toList_data] at e; exact ByteArray.ext (by simpa using congrArg List.toArray e)
    have HNE := Lib.hid (show ¬ a = b from fun e => hne (by rw [e]))
    clear hne e0 e1
    go_enter Try.func51, Try.ntmps51
    go_wp2_with fail
    go_ret
    exact bools (decide_eq_false HNE.out).symm HX.out
  have E2 := Lib.hid e2
  by_cases e3 : a.mode = b.mode
  rotate_left
  · have hne := e3; clear e3
    have ca0 : ((w.alloc (.cells (six a u) 30)).alloc (.cells (six b v) 30)).cell? ⟨w.heap.size, 0, none⟩ = some (.int .i64 a.id) := HKA.out.cell 0
    have cb0 : ((w.alloc (.cells (six a u) 30)).alloc (.cells (six b v) 30)).cell? ⟨w.heap.size + 1, 0, none⟩ = some (.int .i64 a.id) := by rw [e0]; exact HKB.out.cell 0
    have ca1 : ((w.alloc (.cells (six a u) 30)).alloc (.cells (six b v) 30)).cell? ⟨w.heap.size, 1, none⟩ = some (.int .i64 a.holder) := HKA.out.cell 1
    have cb1 : ((w.alloc (.cells (six a u) 30)).alloc (.cells (six b v) 30)).cell? ⟨w.heap.size + 1, 1, none⟩ = some (.int .i64 a.holder) := by rw [e1]; exact HKB.out.cell 1
    have ca2 : ((w.alloc (.cells (six a u) 30)).alloc (.cells (six b v) 30)).cell? ⟨w.heap.size, 2, none⟩ = some (.string a.path) := HKA.out.cell 2
    have cb2 : ((w.alloc (.cells (six a u) 30)).alloc (.cells (six b v) 30)).cell? ⟨w.heap.size + 1, 2, none⟩ = some (.string a.path) := by rw [e2]; exact HKB.out.cell 2
    have ca3 : ((w.alloc (.cells (six a u) 30)).alloc (.cells (six b v) 30)).cell? ⟨w.heap.size, 3, none⟩ = some (.int .i64 a.mode) := HKA.out.cell 3
    have cb3 : ((w.alloc (.cells (six a u) 30)).alloc (.cells (six b v) 30)).cell? ⟨w.heap.size + 1, 3, none⟩ = some (.int .i64 b.mode) := HKB.out.cell 3
    have hd1 : (a.mode == b.mode) = false := by simpa using hne
    have HNE := Lib.hid (show ¬ a = b from fun e => hne (by rw [e]))
    clear hne e0 e1 e2
    go_enter Try.func51, Try.ntmps51
    go_wp2_with fail
    go_ret
    exact bools (decide_eq_false HNE.out).symm HX.out
  have E3 := Lib.hid e3
  by_cases e4 : a.stamp = b.stamp
  rotate_left
  · have hne := e4; clear e4
    have ca0 : ((w.alloc (.cells (six a u) 30)).alloc (.cells (six b v) 30)).cell? ⟨w.heap.size, 0, none⟩ = some (.int .i64 a.id) := HKA.out.cell 0
    have cb0 : ((w.alloc (.cells (six a u) 30)).alloc (.cells (six b v) 30)).cell? ⟨w.heap.size + 1, 0, none⟩ = some (.int .i64 a.id) := by rw [e0]; exact HKB.out.cell 0
    have ca1 : ((w.alloc (.cells (six a u) 30)).alloc (.cells (six b v) 30)).cell? ⟨w.heap.size, 1, none⟩ = some (.int .i64 a.holder) := HKA.out.cell 1
    have cb1 : ((w.alloc (.cells (six a u) 30)).alloc (.cells (six b v) 30)).cell? ⟨w.heap.size + 1, 1, none⟩ = some (.int .i64 a.holder) := by rw [e1]; exact HKB.out.cell 1
    have ca2 : ((w.alloc (.cells (six a u) 30)).alloc (.cells (six b v) 30)).cell? ⟨w.heap.size, 2, none⟩ = some (.string a.path) := HKA.out.cell 2
    have cb2 : ((w.alloc (.cells (six a u) 30)).alloc (.cells (six b v) 30)).cell? ⟨w.heap.size + 1, 2, none⟩ = some (.string a.path) := by rw [e2]; exact HKB.out.cell 2
    have ca3 : ((w.alloc (.cells (six a u) 30)).alloc (.cells (six b v) 30)).cell? ⟨w.heap.size, 3, none⟩ = some (.int .i64 a.mode) := HKA.out.cell 3
    have cb3 : ((w.alloc (.cells (six a u) 30)).alloc (.cells (six b v) 30)).cell? ⟨w.heap.size + 1, 3, none⟩ = some (.int .i64 a.mode) := by rw [e3]; exact HKB.out.cell 3
    have ca4 : ((w.alloc (.cells (six a u) 30)).alloc (.cells (six b v) 30)).cell? ⟨w.heap.size, 4, none⟩ = some (u) := HKA.out.cell 4
    have cb4 : ((w.alloc (.cells (six a u) 30)).alloc (.cells (six b v) 30)).cell? ⟨w.heap.size + 1, 4, none⟩ = some (v) := HKB.out.cell 4
    have HNE := Lib.hid (show ¬ a = b from fun e => hne (by rw [e]))
    have HN2 := Lib.hid hne
    clear hne e0 e1 e2 e3
    go_enter Try.func51, Try.ntmps51
    go_wp2_with fail
    refine (equal_hd u v a.stamp b.stamp _ (HA.out _ HX.out) (HB.out _ HX.out)).mono ?_
    rintro x w5 ⟨rfl, hb⟩
    have HX5 := Lib.hid (below_on HX.out hb)
    have HKA5 := Lib.hid ((Mod.of_below hb []).whole HKA.out (by simp))
    have HKB5 := Lib.hid ((Mod.of_below hb []).whole HKB.out (by simp))
    clear hb ca0 cb0 ca1 cb1 ca2 cb2 ca3 cb3 ca4 cb4
    have ca0 : w5.cell? ⟨w.heap.size, 0, none⟩ = some (.int .i64 a.id) := HKA5.out.cell 0
    have cb0 : w5.cell? ⟨w.heap.size + 1, 0, none⟩ = some (.int .i64 a.id) := by rw [E0.out]; exact HKB5.out.cell 0
    have ca1 : w5.cell? ⟨w.heap.size, 1, none⟩ = some (.int .i64 a.holder) := HKA5.out.cell 1
    have cb1 : w5.cell? ⟨w.heap.size + 1, 1, none⟩ = some (.int .i64 a.holder) := by rw [E1.out]; exact HKB5.out.cell 1
    have ca2 : w5.cell? ⟨w.heap.size, 2, none⟩ = some (.string a.path) := HKA5.out.cell 2
    have cb2 : w5.cell? ⟨w.heap.size + 1, 2, none⟩ = some (.string a.path) := by rw [E2.out]; exact HKB5.out.cell 2
    have ca3 : w5.cell? ⟨w.heap.size, 3, none⟩ = some (.int .i64 a.mode) := HKA5.out.cell 3
    have cb3 : w5.cell? ⟨w.heap.size + 1, 3, none⟩ = some (.int .i64 a.mode) := by rw [E3.out]; exact HKB5.out.cell 3
    have ca4 : w5.cell? ⟨w.heap.size, 4, none⟩ = some (u) := HKA5.out.cell 4
    have cb4 : w5.cell? ⟨w.heap.size + 1, 4, none⟩ = some (v) := HKB5.out.cell 4
    rw [decide_eq_false HN2.out]
    go_wp2_with fail
    go_ret
    exact bools (decide_eq_false HNE.out).symm HX5.out
  have E4 := Lib.hid e4
  by_cases e5 : a.term = b.term
  rotate_left
  · have hne := e5; clear e5
    have ca0 : ((w.alloc (.cells (six a u) 30)).alloc (.cells (six b v) 30)).cell? ⟨w.heap.size, 0, none⟩ = some (.int .i64 a.id) := HKA.out.cell 0
    have cb0 : ((w.alloc (.cells (six a u) 30)).alloc (.cells (six b v) 30)).cell? ⟨w.heap.size + 1, 0, none⟩ = some (.int .i64 a.id) := by rw [e0]; exact HKB.out.cell 0
    have ca1 : ((w.alloc (.cells (six a u) 30)).alloc (.cells (six b v) 30)).cell? ⟨w.heap.size, 1, none⟩ = some (.int .i64 a.holder) := HKA.out.cell 1
    have cb1 : ((w.alloc (.cells (six a u) 30)).alloc (.cells (six b v) 30)).cell? ⟨w.heap.size + 1, 1, none⟩ = some (.int .i64 a.holder) := by rw [e1]; exact HKB.out.cell 1
    have ca2 : ((w.alloc (.cells (six a u) 30)).alloc (.cells (six b v) 30)).cell? ⟨w.heap.size, 2, none⟩ = some (.string a.path) := HKA.out.cell 2
    have cb2 : ((w.alloc (.cells (six a u) 30)).alloc (.cells (six b v) 30)).cell? ⟨w.heap.size + 1, 2, none⟩ = some (.string a.path) := by rw [e2]; exact HKB.out.cell 2
    have ca3 : ((w.alloc (.cells (six a u) 30)).alloc (.cells (six b v) 30)).cell? ⟨w.heap.size, 3, none⟩ = some (.int .i64 a.mode) := HKA.out.cell 3
    have cb3 : ((w.alloc (.cells (six a u) 30)).alloc (.cells (six b v) 30)).cell? ⟨w.heap.size + 1, 3, none⟩ = some (.int .i64 a.mode) := by rw [e3]; exact HKB.out.cell 3
    have ca4 : ((w.alloc (.cells (six a u) 30)).alloc (.cells (six b v) 30)).cell? ⟨w.heap.size, 4, none⟩ = some (u) := HKA.out.cell 4
    have cb4 : ((w.alloc (.cells (six a u) 30)).alloc (.cells (six b v) 30)).cell? ⟨w.heap.size + 1, 4, none⟩ = some (v) := HKB.out.cell 4
    have ca5 : ((w.alloc (.cells (six a u) 30)).alloc (.cells (six b v) 30)).cell? ⟨w.heap.size, 5, none⟩ = some (.int .i64 a.term) := HKA.out.cell 5
    have cb5 : ((w.alloc (.cells (six a u) 30)).alloc (.cells (six b v) 30)).cell? ⟨w.heap.size + 1, 5, none⟩ = some (.int .i64 b.term) := HKB.out.cell 5
    have hd1 : (a.term == b.term) = false := by simpa using hne
    have HNE := Lib.hid (show ¬ a = b from fun e => hne (by rw [e]))
    clear hne e0 e1 e2 e3 e4
    go_enter Try.func51, Try.ntmps51
    go_wp2_with fail
    refine (equal_hd u v a.stamp b.stamp _ (HA.out _ HX.out) (HB.out _ HX.out)).mono ?_
    rintro x w5 ⟨rfl, hb⟩
    have HX5 := Lib.hid (below_on HX.out hb)
    have HKA5 := Lib.hid ((Mod.of_below hb []).whole HKA.out (by simp))
    have HKB5 := Lib.hid ((Mod.of_below hb []).whole HKB.out (by simp))
    clear hb ca0 cb0 ca1 cb1 ca2 cb2 ca3 cb3 ca4 cb4 ca5 cb5
    have ca0 : w5.cell? ⟨w.heap.size, 0, none⟩ = some (.int .i64 a.id) := HKA5.out.cell 0
    have cb0 : w5.cell? ⟨w.heap.size + 1, 0, none⟩ = some (.int .i64 a.id) := by rw [E0.out]; exact HKB5.out.cell 0
    have ca1 : w5.cell? ⟨w.heap.size, 1, none⟩ = some (.int .i64 a.holder) := HKA5.out.cell 1
    have cb1 : w5.cell? ⟨w.heap.size + 1, 1, none⟩ = some (.int .i64 a.holder) := by rw [E1.out]; exact HKB5.out.cell 1
    have ca2 : w5.cell? ⟨w.heap.size, 2, none⟩ = some (.string a.path) := HKA5.out.cell 2
    have cb2 : w5.cell? ⟨w.heap.size + 1, 2, none⟩ = some (.string a.path) := by rw [E2.out]; exact HKB5.out.cell 2
    have ca3 : w5.cell? ⟨w.heap.size, 3, none⟩ = some (.int .i64 a.mode) := HKA5.out.cell 3
    have cb3 : w5.cell? ⟨w.heap.size + 1, 3, none⟩ = some (.int .i64 a.mode) := by rw [E3.out]; exact HKB5.out.cell 3
    have ca4 : w5.cell? ⟨w.heap.size, 4, none⟩ = some (u) := HKA5.out.cell 4
    have cb4 : w5.cell? ⟨w.heap.size + 1, 4, none⟩ = some (v) := HKB5.out.cell 4
    have ca5 : w5.cell? ⟨w.heap.size, 5, none⟩ = some (.int .i64 a.term) := HKA5.out.cell 5
    have cb5 : w5.cell? ⟨w.heap.size + 1, 5, none⟩ = some (.int .i64 b.term) := HKB5.out.cell 5
    rw [decide_eq_true E4.out]
    go_wp2_with fail
    go_ret
    exact bools (decide_eq_false HNE.out).symm HX5.out
  have E5 := Lib.hid e5
  have ca0 : ((w.alloc (.cells (six a u) 30)).alloc (.cells (six b v) 30)).cell? ⟨w.heap.size, 0, none⟩ = some (.int .i64 a.id) := HKA.out.cell 0
  have cb0 : ((w.alloc (.cells (six a u) 30)).alloc (.cells (six b v) 30)).cell? ⟨w.heap.size + 1, 0, none⟩ = some (.int .i64 a.id) := by rw [e0]; exact HKB.out.cell 0
  have ca1 : ((w.alloc (.cells (six a u) 30)).alloc (.cells (six b v) 30)).cell? ⟨w.heap.size, 1, none⟩ = some (.int .i64 a.holder) := HKA.out.cell 1
  have cb1 : ((w.alloc (.cells (six a u) 30)).alloc (.cells (six b v) 30)).cell? ⟨w.heap.size + 1, 1, none⟩ = some (.int .i64 a.holder) := by rw [e1]; exact HKB.out.cell 1
  have ca2 : ((w.alloc (.cells (six a u) 30)).alloc (.cells (six b v) 30)).cell? ⟨w.heap.size, 2, none⟩ = some (.string a.path) := HKA.out.cell 2
  have cb2 : ((w.alloc (.cells (six a u) 30)).alloc (.cells (six b v) 30)).cell? ⟨w.heap.size + 1, 2, none⟩ = some (.string a.path) := by rw [e2]; exact HKB.out.cell 2
  have ca3 : ((w.alloc (.cells (six a u) 30)).alloc (.cells (six b v) 30)).cell? ⟨w.heap.size, 3, none⟩ = some (.int .i64 a.mode) := HKA.out.cell 3
  have cb3 : ((w.alloc (.cells (six a u) 30)).alloc (.cells (six b v) 30)).cell? ⟨w.heap.size + 1, 3, none⟩ = some (.int .i64 a.mode) := by rw [e3]; exact HKB.out.cell 3
  have ca4 : ((w.alloc (.cells (six a u) 30)).alloc (.cells (six b v) 30)).cell? ⟨w.heap.size, 4, none⟩ = some (u) := HKA.out.cell 4
  have cb4 : ((w.alloc (.cells (six a u) 30)).alloc (.cells (six b v) 30)).cell? ⟨w.heap.size + 1, 4, none⟩ = some (v) := HKB.out.cell 4
  have ca5 : ((w.alloc (.cells (six a u) 30)).alloc (.cells (six b v) 30)).cell? ⟨w.heap.size, 5, none⟩ = some (.int .i64 a.term) := HKA.out.cell 5
  have cb5 : ((w.alloc (.cells (six a u) 30)).alloc (.cells (six b v) 30)).cell? ⟨w.heap.size + 1, 5, none⟩ = some (.int .i64 a.term) := by rw [e5]; exact HKB.out.cell 5
  have HEQ := Lib.hid (show a = b from by cases a; cases b; simp only at e0 e1 e2 e3 e4 e5; subst e0 e1 e2 e3 e4 e5; rfl)
  clear e0 e1 e2 e3 e4 e5
  go_enter Try.func51, Try.ntmps51
  go_wp2_with fail
  refine (equal_hd u v a.stamp b.stamp _ (HA.out _ HX.out) (HB.out _ HX.out)).mono ?_
  rintro x w5 ⟨rfl, hb⟩
  have HX5 := Lib.hid (below_on HX.out hb)
  have HKA5 := Lib.hid ((Mod.of_below hb []).whole HKA.out (by simp))
  have HKB5 := Lib.hid ((Mod.of_below hb []).whole HKB.out (by simp))
  clear hb ca0 cb0 ca1 cb1 ca2 cb2 ca3 cb3 ca4 cb4 ca5 cb5
  have ca0 : w5.cell? ⟨w.heap.size, 0, none⟩ = some (.int .i64 a.id) := HKA5.out.cell 0
  have cb0 : w5.cell? ⟨w.heap.size + 1, 0, none⟩ = some (.int .i64 a.id) := by rw [E0.out]; exact HKB5.out.cell 0
  have ca1 : w5.cell? ⟨w.heap.size, 1, none⟩ = some (.int .i64 a.holder) := HKA5.out.cell 1
  have cb1 : w5.cell? ⟨w.heap.size + 1, 1, none⟩ = some (.int .i64 a.holder) := by rw [E1.out]; exact HKB5.out.cell 1
  have ca2 : w5.cell? ⟨w.heap.size, 2, none⟩ = some (.string a.path) := HKA5.out.cell 2
  have cb2 : w5.cell? ⟨w.heap.size + 1, 2, none⟩ = some (.string a.path) := by rw [E2.out]; exact HKB5.out.cell 2
  have ca3 : w5.cell? ⟨w.heap.size, 3, none⟩ = some (.int .i64 a.mode) := HKA5.out.cell 3
  have cb3 : w5.cell? ⟨w.heap.size + 1, 3, none⟩ = some (.int .i64 a.mode) := by rw [E3.out]; exact HKB5.out.cell 3
  have ca4 : w5.cell? ⟨w.heap.size, 4, none⟩ = some (u) := HKA5.out.cell 4
  have cb4 : w5.cell? ⟨w.heap.size + 1, 4, none⟩ = some (v) := HKB5.out.cell 4
  have ca5 : w5.cell? ⟨w.heap.size, 5, none⟩ = some (.int .i64 a.term) := HKA5.out.cell 5
  have cb5 : w5.cell? ⟨w.heap.size + 1, 5, none⟩ = some (.int .i64 a.term) := by rw [E5.out]; exact HKB5.out.cell 5
  rw [decide_eq_true E4.out]
  go_wp2_with fail
  go_ret
  exact bools (decide_eq_true HEQ.out).symm HX5.out
set_option maxHeartbeats 4000000 in
theorem r_SameGrant (u v : Value) (a b : Gr) (w : World) (hA : HdI w u a.stamp) (hB : HdI w v b.stamp) :
    Calls Try.prog 42 #[.agg (six a u), .agg (six b v)] w fun e w' => e = .returned (.bool (decide (a = b))) ∧ Below w.heap.size w w' := by
  have HX := Lib.hid (((Below.refl _ w).alloc (Nat.le_refl _) (.cells (six a u) 30)).alloc (by simp) (.cells (six b v) 30))
  have HA := Lib.hid (fun w' (hb : Below w.heap.size w w') => hA.below hb)
  have HB := Lib.hid (fun w' (hb : Below w.heap.size w w') => hB.below hb)
  clear hA hB
  have HKA := Lib.hid ((Whole.new w 30 (six a u)).alloc (.cells (six b v) 30))
  have HKB := Lib.hid (show Whole ((w.alloc (.cells (six a u) 30)).alloc (.cells (six b v) 30)) (w.heap.size + 1) 30 (six b v) from by have h := Whole.new (w.alloc (.cells (six a u) 30)) 30 (six b v); have e : (w.alloc (.cells (six a u) 30)).heap.size = w.heap.size + 1 := (by simp); rw [e] at h; exact h)
  by_cases e0 : a.id = b.id
  rotate_left
  · have hne := e0; clear e0
    have ca0 : ((w.alloc (.cells (six a u) 30)).alloc (.cells (six b v) 30)).cell? ⟨w.heap.size, 0, none⟩ = some (.int .i64 a.id) := HKA.out.cell 0
    have cb0 : ((w.alloc (.cells (six a u) 30)).alloc (.cells (six b v) 30)).cell? ⟨w.heap.size + 1, 0, none⟩ = some (.int .i64 b.id) := HKB.out.cell 0
    have hd1 : (a.id == b.id) = false := by simpa using hne
    have HNE := Lib.hid (show ¬ a = b from fun e => hne (by rw [e]))
    clear hne
    go_enter Try.func42, Try.ntmps42
    go_wp2_with fail
    go_ret
    exact bools (decide_eq_false HNE.out).symm HX.out
  have E0 := Lib.hid e0
  by_cases e1 : a.holder = b.holder
  rotate_left
  · have hne := e1; clear e1
    have ca0 : ((w.alloc (.cells (six a u) 30)).alloc (.cells (six b v) 30)).cell? ⟨w.heap.size, 0, none⟩ = some (.int .i64 a.id) := HKA.out.cell 0
    have cb0 : ((w.alloc (.cells (six a u) 30)).alloc (.cells (six b v) 30)).cell? ⟨w.heap.size + 1, 0, none⟩ = some (.int .i64 a.id) := by rw [e0]; exact HKB.out.cell 0
    have ca1 : ((w.alloc (.cells (six a u) 30)).alloc (.cells (six b v) 30)).cell? ⟨w.heap.size, 1, none⟩ = some (.int .i64 a.holder) := HKA.out.cell 1
    have cb1 : ((w.alloc (.cells (six a u) 30)).alloc (.cells (six b v) 30)).cell? ⟨w.heap.size + 1, 1, none⟩ = some (.int .i64 b.holder) := HKB.out.cell 1
    have hd1 : (a.holder == b.holder) = false := by simpa using hne
    have HNE := Lib.hid (show ¬ a = b from fun e => hne (by rw [e]))
    clear hne e0
    go_enter Try.func42, Try.ntmps42
    go_wp2_with fail
    go_ret
    exact bools (decide_eq_false HNE.out).symm HX.out
  have E1 := Lib.hid e1
  by_cases e2 : a.path = b.path
  rotate_left
  · have hne := e2; clear e2
    have ca0 : ((w.alloc (.cells (six a u) 30)).alloc (.cells (six b v) 30)).cell? ⟨w.heap.size, 0, none⟩ = some (.int .i64 a.id) := HKA.out.cell 0
    have cb0 : ((w.alloc (.cells (six a u) 30)).alloc (.cells (six b v) 30)).cell? ⟨w.heap.size + 1, 0, none⟩ = some (.int .i64 a.id) := by rw [e0]; exact HKB.out.cell 0
    have ca1 : ((w.alloc (.cells (six a u) 30)).alloc (.cells (six b v) 30)).cell? ⟨w.heap.size, 1, none⟩ = some (.int .i64 a.holder) := HKA.out.cell 1
    have cb1 : ((w.alloc (.cells (six a u) 30)).alloc (.cells (six b v) 30)).cell? ⟨w.heap.size + 1, 1, none⟩ = some (.int .i64 a.holder) := by rw [e1]; exact HKB.out.cell 1
    have ca2 : ((w.alloc (.cells (six a u) 30)).alloc (.cells (six b v) 30)).cell? ⟨w.heap.size, 2, none⟩ = some (.string a.path) := HKA.out.cell 2
    have cb2 : ((w.alloc (.cells (six a u) 30)).alloc (.cells (six b v) 30)).cell? ⟨w.heap.size + 1, 2, none⟩ = some (.string b.path) := HKB.out.cell 2
    have hd2 : (a.path.toList == b.path.toList) = false := by rw [beq_eq_false_iff_ne]; intro e; apply hne; rw [Lib.toList_data, Lib.toList_data] at e; exact ByteArray.ext (by simpa using congrArg List.toArray e)
    have HNE := Lib.hid (show ¬ a = b from fun e => hne (by rw [e]))
    clear hne e0 e1
    go_enter Try.func42, Try.ntmps42
    go_wp2_with fail
    go_ret
    exact bools (decide_eq_false HNE.out).symm HX.out
  have E2 := Lib.hid e2
  by_cases e3 : a.mode = b.mode
  rotate_left
  · have hne := e3; clear e3
    have ca0 : ((w.alloc (.cells (six a u) 30)).alloc (.cells (six b v) 30)).cell? ⟨w.heap.size, 0, none⟩ = some (.int .i64 a.id) := HKA.out.cell 0
    have cb0 : ((w.alloc (.cells (six a u) 30)).alloc (.cells (six b v) 30)).cell? ⟨w.heap.size + 1, 0, none⟩ = some (.int .i64 a.id) := by rw [e0]; exact HKB.out.cell 0
    have ca1 : ((w.alloc (.cells (six a u) 30)).alloc (.cells (six b v) 30)).cell? ⟨w.heap.size, 1, none⟩ = some (.int .i64 a.holder) := HKA.out.cell 1
    have cb1 : ((w.alloc (.cells (six a u) 30)).alloc (.cells (six b v) 30)).cell? ⟨w.heap.size + 1, 1, none⟩ = some (.int .i64 a.holder) := by rw [e1]; exact HKB.out.cell 1
    have ca2 : ((w.alloc (.cells (six a u) 30)).alloc (.cells (six b v) 30)).cell? ⟨w.heap.size, 2, none⟩ = some (.string a.path) := HKA.out.cell 2
    have cb2 : ((w.alloc (.cells (six a u) 30)).alloc (.cells (six b v) 30)).cell? ⟨w.heap.size + 1, 2, none⟩ = some (.string a.path) := by rw [e2]; exact HKB.out.cell 2
    have ca3 : ((w.alloc (.cells (six a u) 30)).alloc (.cells (six b v) 30)).cell? ⟨w.heap.size, 3, none⟩ = some (.int .i64 a.mode) := HKA.out.cell 3
    have cb3 : ((w.alloc (.cells (six a u) 30)).alloc (.cells (six b v) 30)).cell? ⟨w.heap.size + 1, 3, none⟩ = some (.int .i64 b.mode) := HKB.out.cell 3
    have hd1 : (a.mode == b.mode) = false := by simpa using hne
    have HNE := Lib.hid (show ¬ a = b from fun e => hne (by rw [e]))
    clear hne e0 e1 e2
    go_enter Try.func42, Try.ntmps42
    go_wp2_with fail
    go_ret
    exact bools (decide_eq_false HNE.out).symm HX.out
  have E3 := Lib.hid e3
  by_cases e4 : a.term = b.term
  rotate_left
  · have hne := e4; clear e4
    have ca0 : ((w.alloc (.cells (six a u) 30)).alloc (.cells (six b v) 30)).cell? ⟨w.heap.size, 0, none⟩ = some (.int .i64 a.id) := HKA.out.cell 0
    have cb0 : ((w.alloc (.cells (six a u) 30)).alloc (.cells (six b v) 30)).cell? ⟨w.heap.size + 1, 0, none⟩ = some (.int .i64 a.id) := by rw [e0]; exact HKB.out.cell 0
    have ca1 : ((w.alloc (.cells (six a u) 30)).alloc (.cells (six b v) 30)).cell? ⟨w.heap.size, 1, none⟩ = some (.int .i64 a.holder) := HKA.out.cell 1
    have cb1 : ((w.alloc (.cells (six a u) 30)).alloc (.cells (six b v) 30)).cell? ⟨w.heap.size + 1, 1, none⟩ = some (.int .i64 a.holder) := by rw [e1]; exact HKB.out.cell 1
    have ca2 : ((w.alloc (.cells (six a u) 30)).alloc (.cells (six b v) 30)).cell? ⟨w.heap.size, 2, none⟩ = some (.string a.path) := HKA.out.cell 2
    have cb2 : ((w.alloc (.cells (six a u) 30)).alloc (.cells (six b v) 30)).cell? ⟨w.heap.size + 1, 2, none⟩ = some (.string a.path) := by rw [e2]; exact HKB.out.cell 2
    have ca3 : ((w.alloc (.cells (six a u) 30)).alloc (.cells (six b v) 30)).cell? ⟨w.heap.size, 3, none⟩ = some (.int .i64 a.mode) := HKA.out.cell 3
    have cb3 : ((w.alloc (.cells (six a u) 30)).alloc (.cells (six b v) 30)).cell? ⟨w.heap.size + 1, 3, none⟩ = some (.int .i64 a.mode) := by rw [e3]; exact HKB.out.cell 3
    have ca5 : ((w.alloc (.cells (six a u) 30)).alloc (.cells (six b v) 30)).cell? ⟨w.heap.size, 5, none⟩ = some (.int .i64 a.term) := HKA.out.cell 5
    have cb5 : ((w.alloc (.cells (six a u) 30)).alloc (.cells (six b v) 30)).cell? ⟨w.heap.size + 1, 5, none⟩ = some (.int .i64 b.term) := HKB.out.cell 5
    have hd1 : (a.term == b.term) = false := by simpa using hne
    have HNE := Lib.hid (show ¬ a = b from fun e => hne (by rw [e]))
    clear hne e0 e1 e2 e3
    go_enter Try.func42, Try.ntmps42
    go_wp2_with fail
    go_ret
    exact bools (decide_eq_false HNE.out).symm HX.out
  have E4 := Lib.hid e4
  by_cases e5 : a.stamp = b.stamp
  rotate_left
  · have hne := e5; clear e5
    have ca0 : ((w.alloc (.cells (six a u) 30)).alloc (.cells (six b v) 30)).cell? ⟨w.heap.size, 0, none⟩ = some (.int .i64 a.id) := HKA.out.cell 0
    have cb0 : ((w.alloc (.cells (six a u) 30)).alloc (.cells (six b v) 30)).cell? ⟨w.heap.size + 1, 0, none⟩ = some (.int .i64 a.id) := by rw [e0]; exact HKB.out.cell 0
    have ca1 : ((w.alloc (.cells (six a u) 30)).alloc (.cells (six b v) 30)).cell? ⟨w.heap.size, 1, none⟩ = some (.int .i64 a.holder) := HKA.out.cell 1
    have cb1 : ((w.alloc (.cells (six a u) 30)).alloc (.cells (six b v) 30)).cell? ⟨w.heap.size + 1, 1, none⟩ = some (.int .i64 a.holder) := by rw [e1]; exact HKB.out.cell 1
    have ca2 : ((w.alloc (.cells (six a u) 30)).alloc (.cells (six b v) 30)).cell? ⟨w.heap.size, 2, none⟩ = some (.string a.path) := HKA.out.cell 2
    have cb2 : ((w.alloc (.cells (six a u) 30)).alloc (.cells (six b v) 30)).cell? ⟨w.heap.size + 1, 2, none⟩ = some (.string a.path) := by rw [e2]; exact HKB.out.cell 2
    have ca3 : ((w.alloc (.cells (six a u) 30)).alloc (.cells (six b v) 30)).cell? ⟨w.heap.size, 3, none⟩ = some (.int .i64 a.mode) := HKA.out.cell 3
    have cb3 : ((w.alloc (.cells (six a u) 30)).alloc (.cells (six b v) 30)).cell? ⟨w.heap.size + 1, 3, none⟩ = some (.int .i64 a.mode) := by rw [e3]; exact HKB.out.cell 3
    have ca5 : ((w.alloc (.cells (six a u) 30)).alloc (.cells (six b v) 30)).cell? ⟨w.heap.size, 5, none⟩ = some (.int .i64 a.term) := HKA.out.cell 5
    have cb5 : ((w.alloc (.cells (six a u) 30)).alloc (.cells (six b v) 30)).cell? ⟨w.heap.size + 1, 5, none⟩ = some (.int .i64 a.term) := by rw [e4]; exact HKB.out.cell 5
    have ca4 : ((w.alloc (.cells (six a u) 30)).alloc (.cells (six b v) 30)).cell? ⟨w.heap.size, 4, none⟩ = some (u) := HKA.out.cell 4
    have cb4 : ((w.alloc (.cells (six a u) 30)).alloc (.cells (six b v) 30)).cell? ⟨w.heap.size + 1, 4, none⟩ = some (v) := HKB.out.cell 4
    have HNE := Lib.hid (show ¬ a = b from fun e => hne (by rw [e]))
    have HN2 := Lib.hid hne
    clear hne e0 e1 e2 e3 e4
    go_enter Try.func42, Try.ntmps42
    go_wp2_with fail
    refine (same_hd u v a.stamp b.stamp _ (HA.out _ HX.out) (HB.out _ HX.out)).mono ?_
    rintro x w6 ⟨rfl, hb⟩
    have HX6 := Lib.hid (below_on HX.out hb)
    have HKA6 := Lib.hid ((Mod.of_below hb []).whole HKA.out (by simp))
    have HKB6 := Lib.hid ((Mod.of_below hb []).whole HKB.out (by simp))
    clear hb ca0 cb0 ca1 cb1 ca2 cb2 ca3 cb3 ca5 cb5 ca4 cb4
    have ca0 : w6.cell? ⟨w.heap.size, 0, none⟩ = some (.int .i64 a.id) := HKA6.out.cell 0
    have cb0 : w6.cell? ⟨w.heap.size + 1, 0, none⟩ = some (.int .i64 a.id) := by rw [E0.out]; exact HKB6.out.cell 0
    have ca1 : w6.cell? ⟨w.heap.size, 1, none⟩ = some (.int .i64 a.holder) := HKA6.out.cell 1
    have cb1 : w6.cell? ⟨w.heap.size + 1, 1, none⟩ = some (.int .i64 a.holder) := by rw [E1.out]; exact HKB6.out.cell 1
    have ca2 : w6.cell? ⟨w.heap.size, 2, none⟩ = some (.string a.path) := HKA6.out.cell 2
    have cb2 : w6.cell? ⟨w.heap.size + 1, 2, none⟩ = some (.string a.path) := by rw [E2.out]; exact HKB6.out.cell 2
    have ca3 : w6.cell? ⟨w.heap.size, 3, none⟩ = some (.int .i64 a.mode) := HKA6.out.cell 3
    have cb3 : w6.cell? ⟨w.heap.size + 1, 3, none⟩ = some (.int .i64 a.mode) := by rw [E3.out]; exact HKB6.out.cell 3
    have ca5 : w6.cell? ⟨w.heap.size, 5, none⟩ = some (.int .i64 a.term) := HKA6.out.cell 5
    have cb5 : w6.cell? ⟨w.heap.size + 1, 5, none⟩ = some (.int .i64 a.term) := by rw [E4.out]; exact HKB6.out.cell 5
    have ca4 : w6.cell? ⟨w.heap.size, 4, none⟩ = some (u) := HKA6.out.cell 4
    have cb4 : w6.cell? ⟨w.heap.size + 1, 4, none⟩ = some (v) := HKB6.out.cell 4
    rw [decide_eq_false HN2.out]
    go_wp2_with fail
    go_ret
    exact bools (decide_eq_false HNE.out).symm HX6.out
  have E5 := Lib.hid e5
  have ca0 : ((w.alloc (.cells (six a u) 30)).alloc (.cells (six b v) 30)).cell? ⟨w.heap.size, 0, none⟩ = some (.int .i64 a.id) := HKA.out.cell 0
  have cb0 : ((w.alloc (.cells (six a u) 30)).alloc (.cells (six b v) 30)).cell? ⟨w.heap.size + 1, 0, none⟩ = some (.int .i64 a.id) := by rw [e0]; exact HKB.out.cell 0
  have ca1 : ((w.alloc (.cells (six a u) 30)).alloc (.cells (six b v) 30)).cell? ⟨w.heap.size, 1, none⟩ = some (.int .i64 a.holder) := HKA.out.cell 1
  have cb1 : ((w.alloc (.cells (six a u) 30)).alloc (.cells (six b v) 30)).cell? ⟨w.heap.size + 1, 1, none⟩ = some (.int .i64 a.holder) := by rw [e1]; exact HKB.out.cell 1
  have ca2 : ((w.alloc (.cells (six a u) 30)).alloc (.cells (six b v) 30)).cell? ⟨w.heap.size, 2, none⟩ = some (.string a.path) := HKA.out.cell 2
  have cb2 : ((w.alloc (.cells (six a u) 30)).alloc (.cells (six b v) 30)).cell? ⟨w.heap.size + 1, 2, none⟩ = some (.string a.path) := by rw [e2]; exact HKB.out.cell 2
  have ca3 : ((w.alloc (.cells (six a u) 30)).alloc (.cells (six b v) 30)).cell? ⟨w.heap.size, 3, none⟩ = some (.int .i64 a.mode) := HKA.out.cell 3
  have cb3 : ((w.alloc (.cells (six a u) 30)).alloc (.cells (six b v) 30)).cell? ⟨w.heap.size + 1, 3, none⟩ = some (.int .i64 a.mode) := by rw [e3]; exact HKB.out.cell 3
  have ca5 : ((w.alloc (.cells (six a u) 30)).alloc (.cells (six b v) 30)).cell? ⟨w.heap.size, 5, none⟩ = some (.int .i64 a.term) := HKA.out.cell 5
  have cb5 : ((w.alloc (.cells (six a u) 30)).alloc (.cells (six b v) 30)).cell? ⟨w.heap.size + 1, 5, none⟩ = some (.int .i64 a.term) := by rw [e4]; exact HKB.out.cell 5
  have ca4 : ((w.alloc (.cells (six a u) 30)).alloc (.cells (six b v) 30)).cell? ⟨w.heap.size, 4, none⟩ = some (u) := HKA.out.cell 4
  have cb4 : ((w.alloc (.cells (six a u) 30)).alloc (.cells (six b v) 30)).cell? ⟨w.heap.size + 1, 4, none⟩ = some (v) := HKB.out.cell 4
  have HEQ := Lib.hid (show a = b from by cases a; cases b; simp only at e0 e1 e2 e3 e5 e4; subst e0 e1 e2 e3 e5 e4; rfl)
  clear e0 e1 e2 e3 e4 e5
  go_enter Try.func42, Try.ntmps42
  go_wp2_with fail
  refine (same_hd u v a.stamp b.stamp _ (HA.out _ HX.out) (HB.out _ HX.out)).mono ?_
  rintro x w6 ⟨rfl, hb⟩
  have HX6 := Lib.hid (below_on HX.out hb)
  have HKA6 := Lib.hid ((Mod.of_below hb []).whole HKA.out (by simp))
  have HKB6 := Lib.hid ((Mod.of_below hb []).whole HKB.out (by simp))
  clear hb ca0 cb0 ca1 cb1 ca2 cb2 ca3 cb3 ca5 cb5 ca4 cb4
  have ca0 : w6.cell? ⟨w.heap.size, 0, none⟩ = some (.int .i64 a.id) := HKA6.out.cell 0
  have cb0 : w6.cell? ⟨w.heap.size + 1, 0, none⟩ = some (.int .i64 a.id) := by rw [E0.out]; exact HKB6.out.cell 0
  have ca1 : w6.cell? ⟨w.heap.size, 1, none⟩ = some (.int .i64 a.holder) := HKA6.out.cell 1
  have cb1 : w6.cell? ⟨w.heap.size + 1, 1, none⟩ = some (.int .i64 a.holder) := by rw [E1.out]; exact HKB6.out.cell 1
  have ca2 : w6.cell? ⟨w.heap.size, 2, none⟩ = some (.string a.path) := HKA6.out.cell 2
  have cb2 : w6.cell? ⟨w.heap.size + 1, 2, none⟩ = some (.string a.path) := by rw [E2.out]; exact HKB6.out.cell 2
  have ca3 : w6.cell? ⟨w.heap.size, 3, none⟩ = some (.int .i64 a.mode) := HKA6.out.cell 3
  have cb3 : w6.cell? ⟨w.heap.size + 1, 3, none⟩ = some (.int .i64 a.mode) := by rw [E3.out]; exact HKB6.out.cell 3
  have ca5 : w6.cell? ⟨w.heap.size, 5, none⟩ = some (.int .i64 a.term) := HKA6.out.cell 5
  have cb5 : w6.cell? ⟨w.heap.size + 1, 5, none⟩ = some (.int .i64 a.term) := by rw [E4.out]; exact HKB6.out.cell 5
  have ca4 : w6.cell? ⟨w.heap.size, 4, none⟩ = some (u) := HKA6.out.cell 4
  have cb4 : w6.cell? ⟨w.heap.size + 1, 4, none⟩ = some (v) := HKB6.out.cell 4
  rw [decide_eq_true E5.out]
  go_wp2_with fail
  go_ret
  exact bools (decide_eq_true HEQ.out).symm HX6.out
end Go.Proofs.Ytdegamlnkleddaa
