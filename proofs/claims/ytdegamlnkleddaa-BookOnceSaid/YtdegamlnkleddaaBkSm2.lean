/- Whether two records are one: the package's call and the document's. -/
import Derived.Test.YtdegamlnkleddaaBkSm1
namespace Go.Proofs.Ytdegamlnkleddaa
open Go.RowKit
open BM (Gr Rc Bk g0 r0 b0)
set_option linter.unusedVariables false
set_option linter.unusedSimpArgs false
set_option maxRecDepth 100000
theorem rc_eq {a b : Rc} (e0 : a.kind = b.kind) (e1 : a.g = b.g) (e2 : a.id = b.id) (e3 : a.stamp = b.stamp) (e4 : a.next = b.next) (e5 : a.boots = b.boots) (e6 : a.longest = b.longest) : a = b := by
  cases a; cases b; simp only at e0 e1 e2 e3 e4 e5 e6; subst e0 e1 e2 e3 e4 e5 e6; rfl
set_option maxHeartbeats 4000000 in
theorem b_sameRecord (u u2 v v2 : Value) (a b : Rc) (w : World) (hA : FitR w u u2 a) (hB : FitR w v v2 b) :
    Calls Try.prog 64 #[.agg (twelve a u u2), .agg (twelve b v v2)] w fun e w' => e = .returned (.bool (decide (a = b))) ∧ Below w.heap.size w w' := by
  have HX := Lib.hid (((Below.refl _ w).alloc (Nat.le_refl _) (.cells (twelve a u u2) 32)).alloc (by simp) (.cells (twelve b v v2) 32))
  have HA := Lib.hid (fun w' (hb : Below w.heap.size w w') => hA.below hb)
  have HB := Lib.hid (fun w' (hb : Below w.heap.size w w') => hB.below hb)
  clear hA hB
  have HKA := Lib.hid ((Whole.new w 32 (twelve a u u2)).alloc (.cells (twelve b v v2) 32))
  have HKB := Lib.hid (show Whole ((w.alloc (.cells (twelve a u u2) 32)).alloc (.cells (twelve b v v2) 32)) (w.heap.size + 1) 32 (twelve b v v2) from by have h := Whole.new (w.alloc (.cells (twelve a u u2) 32)) 32 (twelve b v v2); have e : (w.alloc (.cells (twelve a u u2) 32)).heap.size = w.heap.size + 1 := (by simp); rw [e] at h; exact h)
  by_cases e0 : a.kind = b.kind
  rotate_left
  · have hne := e0; clear e0
    have ca0 : ((w.alloc (.cells (twelve a u u2) 32)).alloc (.cells (twelve b v v2) 32)).cell? ⟨w.heap.size, 0, none⟩ = some (.int .i64 a.kind) := HKA.out.cell 0
    have cb0 : ((w.alloc (.cells (twelve a u u2) 32)).alloc (.cells (twelve b v v2) 32)).cell? ⟨w.heap.size + 1, 0, none⟩ = some (.int .i64 b.kind) := HKB.out.cell 0
    have hd1 : (a.kind == b.kind) = false := by simpa using hne
    have HNE := Lib.hid (show ¬ a = b from fun e => hne (by rw [e]))
    clear hne
    go_enter Try.func64, Try.ntmps64
    go_wp2_with fail
    go_ret
    exact bools (decide_eq_false HNE.out).symm HX.out
  have E0 := Lib.hid e0
  by_cases e1 : a.g = b.g
  rotate_left
  · have hne := e1; clear e1
    have ca0 : ((w.alloc (.cells (twelve a u u2) 32)).alloc (.cells (twelve b v v2) 32)).cell? ⟨w.heap.size, 0, none⟩ = some (.int .i64 a.kind) := HKA.out.cell 0
    have cb0 : ((w.alloc (.cells (twelve a u u2) 32)).alloc (.cells (twelve b v v2) 32)).cell? ⟨w.heap.size + 1, 0, none⟩ = some (.int .i64 a.kind) := by rw [e0]; exact HKB.out.cell 0
    have ca1 : ((w.alloc (.cells (twelve a u u2) 32)).alloc (.cells (twelve b v v2) 32)).cell? ⟨w.heap.size, 1, none⟩ = some (.int .i64 a.g.id) := HKA.out.cell 1
    have cb1 : ((w.alloc (.cells (twelve a u u2) 32)).alloc (.cells (twelve b v v2) 32)).cell? ⟨w.heap.size + 1, 1, none⟩ = some (.int .i64 b.g.id) := HKB.out.cell 1
    have ca2 : ((w.alloc (.cells (twelve a u u2) 32)).alloc (.cells (twelve b v v2) 32)).cell? ⟨w.heap.size, 2, none⟩ = some (.int .i64 a.g.holder) := HKA.out.cell 2
    have cb2 : ((w.alloc (.cells (twelve a u u2) 32)).alloc (.cells (twelve b v v2) 32)).cell? ⟨w.heap.size + 1, 2, none⟩ = some (.int .i64 b.g.holder) := HKB.out.cell 2
    have ca3 : ((w.alloc (.cells (twelve a u u2) 32)).alloc (.cells (twelve b v v2) 32)).cell? ⟨w.heap.size, 3, none⟩ = some (.string a.g.path) := HKA.out.cell 3
    have cb3 : ((w.alloc (.cells (twelve a u u2) 32)).alloc (.cells (twelve b v v2) 32)).cell? ⟨w.heap.size + 1, 3, none⟩ = some (.string b.g.path) := HKB.out.cell 3
    have ca4 : ((w.alloc (.cells (twelve a u u2) 32)).alloc (.cells (twelve b v v2) 32)).cell? ⟨w.heap.size, 4, none⟩ = some (.int .i64 a.g.mode) := HKA.out.cell 4
    have cb4 : ((w.alloc (.cells (twelve a u u2) 32)).alloc (.cells (twelve b v v2) 32)).cell? ⟨w.heap.size + 1, 4, none⟩ = some (.int .i64 b.g.mode) := HKB.out.cell 4
    have ca5 : ((w.alloc (.cells (twelve a u u2) 32)).alloc (.cells (twelve b v v2) 32)).cell? ⟨w.heap.size, 5, none⟩ = some (u) := HKA.out.cell 5
    have cb5 : ((w.alloc (.cells (twelve a u u2) 32)).alloc (.cells (twelve b v v2) 32)).cell? ⟨w.heap.size + 1, 5, none⟩ = some (v) := HKB.out.cell 5
    have ca6 : ((w.alloc (.cells (twelve a u u2) 32)).alloc (.cells (twelve b v v2) 32)).cell? ⟨w.heap.size, 6, none⟩ = some (.int .i64 a.g.term) := HKA.out.cell 6
    have cb6 : ((w.alloc (.cells (twelve a u u2) 32)).alloc (.cells (twelve b v v2) 32)).cell? ⟨w.heap.size + 1, 6, none⟩ = some (.int .i64 b.g.term) := HKB.out.cell 6
    have HNE := Lib.hid (show ¬ a = b from fun e => hne (by rw [e]))
    have HN2 := Lib.hid hne
    clear hne e0
    go_enter Try.func64, Try.ntmps64
    go_wp2_with fail
    refine (b_sameGrant u v a.g b.g _ (HA.out _ HX.out).g.hd (HB.out _ HX.out).g.hd).mono ?_
    rintro x w2 ⟨rfl, hb⟩
    have HX2 := Lib.hid (below_on HX.out hb)
    have HKA2 := Lib.hid ((Mod.of_below hb []).whole HKA.out (by simp))
    have HKB2 := Lib.hid ((Mod.of_below hb []).whole HKB.out (by simp))
    clear hb ca0 cb0 ca1 cb1 ca2 cb2 ca3 cb3 ca4 cb4 ca5 cb5 ca6 cb6
    have ca0 : w2.cell? ⟨w.heap.size, 0, none⟩ = some (.int .i64 a.kind) := HKA2.out.cell 0
    have cb0 : w2.cell? ⟨w.heap.size + 1, 0, none⟩ = some (.int .i64 a.kind) := by rw [E0.out]; exact HKB2.out.cell 0
    have ca1 : w2.cell? ⟨w.heap.size, 1, none⟩ = some (.int .i64 a.g.id) := HKA2.out.cell 1
    have cb1 : w2.cell? ⟨w.heap.size + 1, 1, none⟩ = some (.int .i64 b.g.id) := HKB2.out.cell 1
    have ca2 : w2.cell? ⟨w.heap.size, 2, none⟩ = some (.int .i64 a.g.holder) := HKA2.out.cell 2
    have cb2 : w2.cell? ⟨w.heap.size + 1, 2, none⟩ = some (.int .i64 b.g.holder) := HKB2.out.cell 2
    have ca3 : w2.cell? ⟨w.heap.size, 3, none⟩ = some (.string a.g.path) := HKA2.out.cell 3
    have cb3 : w2.cell? ⟨w.heap.size + 1, 3, none⟩ = some (.string b.g.path) := HKB2.out.cell 3
    have ca4 : w2.cell? ⟨w.heap.size, 4, none⟩ = some (.int .i64 a.g.mode) := HKA2.out.cell 4
    have cb4 : w2.cell? ⟨w.heap.size + 1, 4, none⟩ = some (.int .i64 b.g.mode) := HKB2.out.cell 4
    have ca5 : w2.cell? ⟨w.heap.size, 5, none⟩ = some (u) := HKA2.out.cell 5
    have cb5 : w2.cell? ⟨w.heap.size + 1, 5, none⟩ = some (v) := HKB2.out.cell 5
    have ca6 : w2.cell? ⟨w.heap.size, 6, none⟩ = some (.int .i64 a.g.term) := HKA2.out.cell 6
    have cb6 : w2.cell? ⟨w.heap.size + 1, 6, none⟩ = some (.int .i64 b.g.term) := HKB2.out.cell 6
    rw [decide_eq_false HN2.out]
    go_wp2_with fail
    go_ret
    exact bools (decide_eq_false HNE.out).symm HX2.out
  have E1 := Lib.hid e1
  by_cases e2 : a.id = b.id
  rotate_left
  · have hne := e2; clear e2
    have ca0 : ((w.alloc (.cells (twelve a u u2) 32)).alloc (.cells (twelve b v v2) 32)).cell? ⟨w.heap.size, 0, none⟩ = some (.int .i64 a.kind) := HKA.out.cell 0
    have cb0 : ((w.alloc (.cells (twelve a u u2) 32)).alloc (.cells (twelve b v v2) 32)).cell? ⟨w.heap.size + 1, 0, none⟩ = some (.int .i64 a.kind) := by rw [e0]; exact HKB.out.cell 0
    have ca1 : ((w.alloc (.cells (twelve a u u2) 32)).alloc (.cells (twelve b v v2) 32)).cell? ⟨w.heap.size, 1, none⟩ = some (.int .i64 a.g.id) := HKA.out.cell 1
    have cb1 : ((w.alloc (.cells (twelve a u u2) 32)).alloc (.cells (twelve b v v2) 32)).cell? ⟨w.heap.size + 1, 1, none⟩ = some (.int .i64 b.g.id) := HKB.out.cell 1
    have ca2 : ((w.alloc (.cells (twelve a u u2) 32)).alloc (.cells (twelve b v v2) 32)).cell? ⟨w.heap.size, 2, none⟩ = some (.int .i64 a.g.holder) := HKA.out.cell 2
    have cb2 : ((w.alloc (.cells (twelve a u u2) 32)).alloc (.cells (twelve b v v2) 32)).cell? ⟨w.heap.size + 1, 2, none⟩ = some (.int .i64 b.g.holder) := HKB.out.cell 2
    have ca3 : ((w.alloc (.cells (twelve a u u2) 32)).alloc (.cells (twelve b v v2) 32)).cell? ⟨w.heap.size, 3, none⟩ = some (.string a.g.path) := HKA.out.cell 3
    have cb3 : ((w.alloc (.cells (twelve a u u2) 32)).alloc (.cells (twelve b v v2) 32)).cell? ⟨w.heap.size + 1, 3, none⟩ = some (.string b.g.path) := HKB.out.cell 3
    have ca4 : ((w.alloc (.cells (twelve a u u2) 32)).alloc (.cells (twelve b v v2) 32)).cell? ⟨w.heap.size, 4, none⟩ = some (.int .i64 a.g.mode) := HKA.out.cell 4
    have cb4 : ((w.alloc (.cells (twelve a u u2) 32)).alloc (.cells (twelve b v v2) 32)).cell? ⟨w.heap.size + 1, 4, none⟩ = some (.int .i64 b.g.mode) := HKB.out.cell 4
    have ca5 : ((w.alloc (.cells (twelve a u u2) 32)).alloc (.cells (twelve b v v2) 32)).cell? ⟨w.heap.size, 5, none⟩ = some (u) := HKA.out.cell 5
    have cb5 : ((w.alloc (.cells (twelve a u u2) 32)).alloc (.cells (twelve b v v2) 32)).cell? ⟨w.heap.size + 1, 5, none⟩ = some (v) := HKB.out.cell 5
    have ca6 : ((w.alloc (.cells (twelve a u u2) 32)).alloc (.cells (twelve b v v2) 32)).cell? ⟨w.heap.size, 6, none⟩ = some (.int .i64 a.g.term) := HKA.out.cell 6
    have cb6 : ((w.alloc (.cells (twelve a u u2) 32)).alloc (.cells (twelve b v v2) 32)).cell? ⟨w.heap.size + 1, 6, none⟩ = some (.int .i64 b.g.term) := HKB.out.cell 6
    have ca7 : ((w.alloc (.cells (twelve a u u2) 32)).alloc (.cells (twelve b v v2) 32)).cell? ⟨w.heap.size, 7, none⟩ = some (.int .i64 a.id) := HKA.out.cell 7
    have cb7 : ((w.alloc (.cells (twelve a u u2) 32)).alloc (.cells (twelve b v v2) 32)).cell? ⟨w.heap.size + 1, 7, none⟩ = some (.int .i64 b.id) := HKB.out.cell 7
    have hd1 : (a.id == b.id) = false := by simpa using hne
    have HNE := Lib.hid (show ¬ a = b from fun e => hne (by rw [e]))
    clear hne e0 e1
    go_enter Try.func64, Try.ntmps64
    go_wp2_with fail
    refine (b_sameGrant u v a.g b.g _ (HA.out _ HX.out).g.hd (HB.out _ HX.out).g.hd).mono ?_
    rintro x w2 ⟨rfl, hb⟩
    have HX2 := Lib.hid (below_on HX.out hb)
    have HKA2 := Lib.hid ((Mod.of_below hb []).whole HKA.out (by simp))
    have HKB2 := Lib.hid ((Mod.of_below hb []).whole HKB.out (by simp))
    clear hb ca0 cb0 ca1 cb1 ca2 cb2 ca3 cb3 ca4 cb4 ca5 cb5 ca6 cb6 ca7 cb7
    have ca0 : w2.cell? ⟨w.heap.size, 0, none⟩ = some (.int .i64 a.kind) := HKA2.out.cell 0
    have cb0 : w2.cell? ⟨w.heap.size + 1, 0, none⟩ = some (.int .i64 a.kind) := by rw [E0.out]; exact HKB2.out.cell 0
    have ca1 : w2.cell? ⟨w.heap.size, 1, none⟩ = some (.int .i64 a.g.id) := HKA2.out.cell 1
    have cb1 : w2.cell? ⟨w.heap.size + 1, 1, none⟩ = some (.int .i64 b.g.id) := HKB2.out.cell 1
    have ca2 : w2.cell? ⟨w.heap.size, 2, none⟩ = some (.int .i64 a.g.holder) := HKA2.out.cell 2
    have cb2 : w2.cell? ⟨w.heap.size + 1, 2, none⟩ = some (.int .i64 b.g.holder) := HKB2.out.cell 2
    have ca3 : w2.cell? ⟨w.heap.size, 3, none⟩ = some (.string a.g.path) := HKA2.out.cell 3
    have cb3 : w2.cell? ⟨w.heap.size + 1, 3, none⟩ = some (.string b.g.path) := HKB2.out.cell 3
    have ca4 : w2.cell? ⟨w.heap.size, 4, none⟩ = some (.int .i64 a.g.mode) := HKA2.out.cell 4
    have cb4 : w2.cell? ⟨w.heap.size + 1, 4, none⟩ = some (.int .i64 b.g.mode) := HKB2.out.cell 4
    have ca5 : w2.cell? ⟨w.heap.size, 5, none⟩ = some (u) := HKA2.out.cell 5
    have cb5 : w2.cell? ⟨w.heap.size + 1, 5, none⟩ = some (v) := HKB2.out.cell 5
    have ca6 : w2.cell? ⟨w.heap.size, 6, none⟩ = some (.int .i64 a.g.term) := HKA2.out.cell 6
    have cb6 : w2.cell? ⟨w.heap.size + 1, 6, none⟩ = some (.int .i64 b.g.term) := HKB2.out.cell 6
    have ca7 : w2.cell? ⟨w.heap.size, 7, none⟩ = some (.int .i64 a.id) := HKA2.out.cell 7
    have cb7 : w2.cell? ⟨w.heap.size + 1, 7, none⟩ = some (.int .i64 b.id) := HKB2.out.cell 7
    rw [decide_eq_true E1.out]
    go_wp2_with fail
    go_ret
    exact bools (decide_eq_false HNE.out).symm HX2.out
  have E2 := Lib.hid e2
  by_cases e3 : a.stamp = b.stamp
  rotate_left
  · have hne := e3; clear e3
    have ca0 : ((w.alloc (.cells (twelve a u u2) 32)).alloc (.cells (twelve b v v2) 32)).cell? ⟨w.heap.size, 0, none⟩ = some (.int .i64 a.kind) := HKA.out.cell 0
    have cb0 : ((w.alloc (.cells (twelve a u u2) 32)).alloc (.cells (twelve b v v2) 32)).cell? ⟨w.heap.size + 1, 0, none⟩ = some (.int .i64 a.kind) := by rw [e0]; exact HKB.out.cell 0
    have ca1 : ((w.alloc (.cells (twelve a u u2) 32)).alloc (.cells (twelve b v v2) 32)).cell? ⟨w.heap.size, 1, none⟩ = some (.int .i64 a.g.id) := HKA.out.cell 1
    have cb1 : ((w.alloc (.cells (twelve a u u2) 32)).alloc (.cells (twelve b v v2) 32)).cell? ⟨w.heap.size + 1, 1, none⟩ = some (.int .i64 b.g.id) := HKB.out.cell 1
    have ca2 : ((w.alloc (.cells (twelve a u u2) 32)).alloc (.cells (twelve b v v2) 32)).cell? ⟨w.heap.size, 2, none⟩ = some (.int .i64 a.g.holder) := HKA.out.cell 2
    have cb2 : ((w.alloc (.cells (twelve a u u2) 32)).alloc (.cells (twelve b v v2) 32)).cell? ⟨w.heap.size + 1, 2, none⟩ = some (.int .i64 b.g.holder) := HKB.out.cell 2
    have ca3 : ((w.alloc (.cells (twelve a u u2) 32)).alloc (.cells (twelve b v v2) 32)).cell? ⟨w.heap.size, 3, none⟩ = some (.string a.g.path) := HKA.out.cell 3
    have cb3 : ((w.alloc (.cells (twelve a u u2) 32)).alloc (.cells (twelve b v v2) 32)).cell? ⟨w.heap.size + 1, 3, none⟩ = some (.string b.g.path) := HKB.out.cell 3
    have ca4 : ((w.alloc (.cells (twelve a u u2) 32)).alloc (.cells (twelve b v v2) 32)).cell? ⟨w.heap.size, 4, none⟩ = some (.int .i64 a.g.mode) := HKA.out.cell 4
    have cb4 : ((w.alloc (.cells (twelve a u u2) 32)).alloc (.cells (twelve b v v2) 32)).cell? ⟨w.heap.size + 1, 4, none⟩ = some (.int .i64 b.g.mode) := HKB.out.cell 4
    have ca5 : ((w.alloc (.cells (twelve a u u2) 32)).alloc (.cells (twelve b v v2) 32)).cell? ⟨w.heap.size, 5, none⟩ = some (u) := HKA.out.cell 5
    have cb5 : ((w.alloc (.cells (twelve a u u2) 32)).alloc (.cells (twelve b v v2) 32)).cell? ⟨w.heap.size + 1, 5, none⟩ = some (v) := HKB.out.cell 5
    have ca6 : ((w.alloc (.cells (twelve a u u2) 32)).alloc (.cells (twelve b v v2) 32)).cell? ⟨w.heap.size, 6, none⟩ = some (.int .i64 a.g.term) := HKA.out.cell 6
    have cb6 : ((w.alloc (.cells (twelve a u u2) 32)).alloc (.cells (twelve b v v2) 32)).cell? ⟨w.heap.size + 1, 6, none⟩ = some (.int .i64 b.g.term) := HKB.out.cell 6
    have ca7 : ((w.alloc (.cells (twelve a u u2) 32)).alloc (.cells (twelve b v v2) 32)).cell? ⟨w.heap.size, 7, none⟩ = some (.int .i64 a.id) := HKA.out.cell 7
    have cb7 : ((w.alloc (.cells (twelve a u u2) 32)).alloc (.cells (twelve b v v2) 32)).cell? ⟨w.heap.size + 1, 7, none⟩ = some (.int .i64 a.id) := by rw [e2]; exact HKB.out.cell 7
    have ca8 : ((w.alloc (.cells (twelve a u u2) 32)).alloc (.cells (twelve b v v2) 32)).cell? ⟨w.heap.size, 8, none⟩ = some (u2) := HKA.out.cell 8
    have cb8 : ((w.alloc (.cells (twelve a u u2) 32)).alloc (.cells (twelve b v v2) 32)).cell? ⟨w.heap.size + 1, 8, none⟩ = some (v2) := HKB.out.cell 8
    have HNE := Lib.hid (show ¬ a = b from fun e => hne (by rw [e]))
    have HN2 := Lib.hid hne
    clear hne e0 e1 e2
    go_enter Try.func64, Try.ntmps64
    go_wp2_with fail
    refine (b_sameGrant u v a.g b.g _ (HA.out _ HX.out).g.hd (HB.out _ HX.out).g.hd).mono ?_
    rintro x w2 ⟨rfl, hb⟩
    have HX2 := Lib.hid (below_on HX.out hb)
    have HKA2 := Lib.hid ((Mod.of_below hb []).whole HKA.out (by simp))
    have HKB2 := Lib.hid ((Mod.of_below hb []).whole HKB.out (by simp))
    clear hb ca0 cb0 ca1 cb1 ca2 cb2 ca3 cb3 ca4 cb4 ca5 cb5 ca6 cb6 ca7 cb7 ca8 cb8
    have ca0 : w2.cell? ⟨w.heap.size, 0, none⟩ = some (.int .i64 a.kind) := HKA2.out.cell 0
    have cb0 : w2.cell? ⟨w.heap.size + 1, 0, none⟩ = some (.int .i64 a.kind) := by rw [E0.out]; exact HKB2.out.cell 0
    have ca1 : w2.cell? ⟨w.heap.size, 1, none⟩ = some (.int .i64 a.g.id) := HKA2.out.cell 1
    have cb1 : w2.cell? ⟨w.heap.size + 1, 1, none⟩ = some (.int .i64 b.g.id) := HKB2.out.cell 1
    have ca2 : w2.cell? ⟨w.heap.size, 2, none⟩ = some (.int .i64 a.g.holder) := HKA2.out.cell 2
    have cb2 : w2.cell? ⟨w.heap.size + 1, 2, none⟩ = some (.int .i64 b.g.holder) := HKB2.out.cell 2
    have ca3 : w2.cell? ⟨w.heap.size, 3, none⟩ = some (.string a.g.path) := HKA2.out.cell 3
    have cb3 : w2.cell? ⟨w.heap.size + 1, 3, none⟩ = some (.string b.g.path) := HKB2.out.cell 3
    have ca4 : w2.cell? ⟨w.heap.size, 4, none⟩ = some (.int .i64 a.g.mode) := HKA2.out.cell 4
    have cb4 : w2.cell? ⟨w.heap.size + 1, 4, none⟩ = some (.int .i64 b.g.mode) := HKB2.out.cell 4
    have ca5 : w2.cell? ⟨w.heap.size, 5, none⟩ = some (u) := HKA2.out.cell 5
    have cb5 : w2.cell? ⟨w.heap.size + 1, 5, none⟩ = some (v) := HKB2.out.cell 5
    have ca6 : w2.cell? ⟨w.heap.size, 6, none⟩ = some (.int .i64 a.g.term) := HKA2.out.cell 6
    have cb6 : w2.cell? ⟨w.heap.size + 1, 6, none⟩ = some (.int .i64 b.g.term) := HKB2.out.cell 6
    have ca7 : w2.cell? ⟨w.heap.size, 7, none⟩ = some (.int .i64 a.id) := HKA2.out.cell 7
    have cb7 : w2.cell? ⟨w.heap.size + 1, 7, none⟩ = some (.int .i64 a.id) := by rw [E2.out]; exact HKB2.out.cell 7
    have ca8 : w2.cell? ⟨w.heap.size, 8, none⟩ = some (u2) := HKA2.out.cell 8
    have cb8 : w2.cell? ⟨w.heap.size + 1, 8, none⟩ = some (v2) := HKB2.out.cell 8
    rw [decide_eq_true E1.out]
    go_wp2_with fail
    refine (equal_hd u2 v2 a.stamp b.stamp _ (HA.out _ HX2.out).st (HB.out _ HX2.out).st).mono ?_
    rintro x w4 ⟨rfl, hb⟩
    have HX4 := Lib.hid (below_on HX2.out hb)
    have HKA4 := Lib.hid ((Mod.of_below hb []).whole HKA2.out (by simp))
    have HKB4 := Lib.hid ((Mod.of_below hb []).whole HKB2.out (by simp))
    clear hb ca0 cb0 ca1 cb1 ca2 cb2 ca3 cb3 ca4 cb4 ca5 cb5 ca6 cb6 ca7 cb7 ca8 cb8
    have ca0 : w4.cell? ⟨w.heap.size, 0, none⟩ = some (.int .i64 a.kind) := HKA4.out.cell 0
    have cb0 : w4.cell? ⟨w.heap.size + 1, 0, none⟩ = some (.int .i64 a.kind) := by rw [E0.out]; exact HKB4.out.cell 0
    have ca1 : w4.cell? ⟨w.heap.size, 1, none⟩ = some (.int .i64 a.g.id) := HKA4.out.cell 1
    have cb1 : w4.cell? ⟨w.heap.size + 1, 1, none⟩ = some (.int .i64 b.g.id) := HKB4.out.cell 1
    have ca2 : w4.cell? ⟨w.heap.size, 2, none⟩ = some (.int .i64 a.g.holder) := HKA4.out.cell 2
    have cb2 : w4.cell? ⟨w.heap.size + 1, 2, none⟩ = some (.int .i64 b.g.holder) := HKB4.out.cell 2
    have ca3 : w4.cell? ⟨w.heap.size, 3, none⟩ = some (.string a.g.path) := HKA4.out.cell 3
    have cb3 : w4.cell? ⟨w.heap.size + 1, 3, none⟩ = some (.string b.g.path) := HKB4.out.cell 3
    have ca4 : w4.cell? ⟨w.heap.size, 4, none⟩ = some (.int .i64 a.g.mode) := HKA4.out.cell 4
    have cb4 : w4.cell? ⟨w.heap.size + 1, 4, none⟩ = some (.int .i64 b.g.mode) := HKB4.out.cell 4
    have ca5 : w4.cell? ⟨w.heap.size, 5, none⟩ = some (u) := HKA4.out.cell 5
    have cb5 : w4.cell? ⟨w.heap.size + 1, 5, none⟩ = some (v) := HKB4.out.cell 5
    have ca6 : w4.cell? ⟨w.heap.size, 6, none⟩ = some (.int .i64 a.g.term) := HKA4.out.cell 6
    have cb6 : w4.cell? ⟨w.heap.size + 1, 6, none⟩ = some (.int .i64 b.g.term) := HKB4.out.cell 6
    have ca7 : w4.cell? ⟨w.heap.size, 7, none⟩ = some (.int .i64 a.id) := HKA4.out.cell 7
    have cb7 : w4.cell? ⟨w.heap.size + 1, 7, none⟩ = some (.int .i64 a.id) := by rw [E2.out]; exact HKB4.out.cell 7
    have ca8 : w4.cell? ⟨w.heap.size, 8, none⟩ = some (u2) := HKA4.out.cell 8
    have cb8 : w4.cell? ⟨w.heap.size + 1, 8, none⟩ = some (v2) := HKB4.out.cell 8
    rw [decide_eq_false HN2.out]
    go_wp2_with fail
    go_ret
    exact bools (decide_eq_false HNE.out).symm HX4.out
  have E3 := Lib.hid e3
  by_cases e4 : a.next = b.next
  rotate_left
  · have hne := e4; clear e4
    have ca0 : ((w.alloc (.cells (twelve a u u2) 32)).alloc (.cells (twelve b v v2) 32)).cell? ⟨w.heap.size, 0, none⟩ = some (.int .i64 a.kind) := HKA.out.cell 0
    have cb0 : ((w.alloc (.cells (twelve a u u2) 32)).alloc (.cells (twelve b v v2) 32)).cell? ⟨w.heap.size + 1, 0, none⟩ = some (.int .i64 a.kind) := by rw [e0]; exact HKB.out.cell 0
    have ca1 : ((w.alloc (.cells (twelve a u u2) 32)).alloc (.cells (twelve b v v2) 32)).cell? ⟨w.heap.size, 1, none⟩ = some (.int .i64 a.g.id) := HKA.out.cell 1
    have cb1 : ((w.alloc (.cells (twelve a u u2) 32)).alloc (.cells (twelve b v v2) 32)).cell? ⟨w.heap.size + 1, 1, none⟩ = some (.int .i64 b.g.id) := HKB.out.cell 1
    have ca2 : ((w.alloc (.cells (twelve a u u2) 32)).alloc (.cells (twelve b v v2) 32)).cell? ⟨w.heap.size, 2, none⟩ = some (.int .i64 a.g.holder) := HKA.out.cell 2
    have cb2 : ((w.alloc (.cells (twelve a u u2) 32)).alloc (.cells (twelve b v v2) 32)).cell? ⟨w.heap.size + 1, 2, none⟩ = some (.int .i64 b.g.holder) := HKB.out.cell 2
    have ca3 : ((w.alloc (.cells (twelve a u u2) 32)).alloc (.cells (twelve b v v2) 32)).cell? ⟨w.heap.size, 3, none⟩ = some (.string a.g.path) := HKA.out.cell 3
    have cb3 : ((w.alloc (.cells (twelve a u u2) 32)).alloc (.cells (twelve b v v2) 32)).cell? ⟨w.heap.size + 1, 3, none⟩ = some (.string b.g.path) := HKB.out.cell 3
    have ca4 : ((w.alloc (.cells (twelve a u u2) 32)).alloc (.cells (twelve b v v2) 32)).cell? ⟨w.heap.size, 4, none⟩ = some (.int .i64 a.g.mode) := HKA.out.cell 4
    have cb4 : ((w.alloc (.cells (twelve a u u2) 32)).alloc (.cells (twelve b v v2) 32)).cell? ⟨w.heap.size + 1, 4, none⟩ = some (.int .i64 b.g.mode) := HKB.out.cell 4
    have ca5 : ((w.alloc (.cells (twelve a u u2) 32)).alloc (.cells (twelve b v v2) 32)).cell? ⟨w.heap.size, 5, none⟩ = some (u) := HKA.out.cell 5
    have cb5 : ((w.alloc (.cells (twelve a u u2) 32)).alloc (.cells (twelve b v v2) 32)).cell? ⟨w.heap.size + 1, 5, none⟩ = some (v) := HKB.out.cell 5
    have ca6 : ((w.alloc (.cells (twelve a u u2) 32)).alloc (.cells (twelve b v v2) 32)).cell? ⟨w.heap.size, 6, none⟩ = some (.int .i64 a.g.term) := HKA.out.cell 6
    have cb6 : ((w.alloc (.cells (twelve a u u2) 32)).alloc (.cells (twelve b v v2) 32)).cell? ⟨w.heap.size + 1, 6, none⟩ = some (.int .i64 b.g.term) := HKB.out.cell 6
    have ca7 : ((w.alloc (.cells (twelve a u u2) 32)).alloc (.cells (twelve b v v2) 32)).cell? ⟨w.heap.size, 7, none⟩ = some (.int .i64 a.id) := HKA.out.cell 7
    have cb7 : ((w.alloc (.cells (twelve a u u2) 32)).alloc (.cells (twelve b v v2) 32)).cell? ⟨w.heap.size + 1, 7, none⟩ = some (.int .i64 a.id) := by rw [e2]; exact HKB.out.cell 7
    have ca8 : ((w.alloc (.cells (twelve a u u2) 32)).alloc (.cells (twelve b v v2) 32)).cell? ⟨w.heap.size, 8, none⟩ = some (u2) := HKA.out.cell 8
    have cb8 : ((w.alloc (.cells (twelve a u u2) 32)).alloc (.cells (twelve b v v2) 32)).cell? ⟨w.heap.size + 1, 8, none⟩ = some (v2) := HKB.out.cell 8
    have ca9 : ((w.alloc (.cells (twelve a u u2) 32)).alloc (.cells (twelve b v v2) 32)).cell? ⟨w.heap.size, 9, none⟩ = some (.int .i64 a.next) := HKA.out.cell 9
    have cb9 : ((w.alloc (.cells (twelve a u u2) 32)).alloc (.cells (twelve b v v2) 32)).cell? ⟨w.heap.size + 1, 9, none⟩ = some (.int .i64 b.next) := HKB.out.cell 9
    have hd1 : (a.next == b.next) = false := by simpa using hne
    have HNE := Lib.hid (show ¬ a = b from fun e => hne (by rw [e]))
    clear hne e0 e1 e2 e3
    go_enter Try.func64, Try.ntmps64
    go_wp2_with fail
    refine (b_sameGrant u v a.g b.g _ (HA.out _ HX.out).g.hd (HB.out _ HX.out).g.hd).mono ?_
    rintro x w2 ⟨rfl, hb⟩
    have HX2 := Lib.hid (below_on HX.out hb)
    have HKA2 := Lib.hid ((Mod.of_below hb []).whole HKA.out (by simp))
    have HKB2 := Lib.hid ((Mod.of_below hb []).whole HKB.out (by simp))
    clear hb ca0 cb0 ca1 cb1 ca2 cb2 ca3 cb3 ca4 cb4 ca5 cb5 ca6 cb6 ca7 cb7 ca8 cb8 ca9 cb9
    have ca0 : w2.cell? ⟨w.heap.size, 0, none⟩ = some (.int .i64 a.kind) := HKA2.out.cell 0
    have cb0 : w2.cell? ⟨w.heap.size + 1, 0, none⟩ = some (.int .i64 a.kind) := by rw [E0.out]; exact HKB2.out.cell 0
    have ca1 : w2.cell? ⟨w.heap.size, 1, none⟩ = some (.int .i64 a.g.id) := HKA2.out.cell 1
    have cb1 : w2.cell? ⟨w.heap.size + 1, 1, none⟩ = some (.int .i64 b.g.id) := HKB2.out.cell 1
    have ca2 : w2.cell? ⟨w.heap.size, 2, none⟩ = some (.int .i64 a.g.holder) := HKA2.out.cell 2
    have cb2 : w2.cell? ⟨w.heap.size + 1, 2, none⟩ = some (.int .i64 b.g.holder) := HKB2.out.cell 2
    have ca3 : w2.cell? ⟨w.heap.size, 3, none⟩ = some (.string a.g.path) := HKA2.out.cell 3
    have cb3 : w2.cell? ⟨w.heap.size + 1, 3, none⟩ = some (.string b.g.path) := HKB2.out.cell 3
    have ca4 : w2.cell? ⟨w.heap.size, 4, none⟩ = some (.int .i64 a.g.mode) := HKA2.out.cell 4
    have cb4 : w2.cell? ⟨w.heap.size + 1, 4, none⟩ = some (.int .i64 b.g.mode) := HKB2.out.cell 4
    have ca5 : w2.cell? ⟨w.heap.size, 5, none⟩ = some (u) := HKA2.out.cell 5
    have cb5 : w2.cell? ⟨w.heap.size + 1, 5, none⟩ = some (v) := HKB2.out.cell 5
    have ca6 : w2.cell? ⟨w.heap.size, 6, none⟩ = some (.int .i64 a.g.term) := HKA2.out.cell 6
    have cb6 : w2.cell? ⟨w.heap.size + 1, 6, none⟩ = some (.int .i64 b.g.term) := HKB2.out.cell 6
    have ca7 : w2.cell? ⟨w.heap.size, 7, none⟩ = some (.int .i64 a.id) := HKA2.out.cell 7
    have cb7 : w2.cell? ⟨w.heap.size + 1, 7, none⟩ = some (.int .i64 a.id) := by rw [E2.out]; exact HKB2.out.cell 7
    have ca8 : w2.cell? ⟨w.heap.size, 8, none⟩ = some (u2) := HKA2.out.cell 8
    have cb8 : w2.cell? ⟨w.heap.size + 1, 8, none⟩ = some (v2) := HKB2.out.cell 8
    have ca9 : w2.cell? ⟨w.heap.size, 9, none⟩ = some (.int .i64 a.next) := HKA2.out.cell 9
    have cb9 : w2.cell? ⟨w.heap.size + 1, 9, none⟩ = some (.int .i64 b.next) := HKB2.out.cell 9
    rw [decide_eq_true E1.out]
    go_wp2_with fail
    refine (equal_hd u2 v2 a.stamp b.stamp _ (HA.out _ HX2.out).st (HB.out _ HX2.out).st).mono ?_
    rintro x w4 ⟨rfl, hb⟩
    have HX4 := Lib.hid (below_on HX2.out hb)
    have HKA4 := Lib.hid ((Mod.of_below hb []).whole HKA2.out (by simp))
    have HKB4 := Lib.hid ((Mod.of_below hb []).whole HKB2.out (by simp))
    clear hb ca0 cb0 ca1 cb1 ca2 cb2 ca3 cb3 ca4 cb4 ca5 cb5 ca6 cb6 ca7 cb7 ca8 cb8 ca9 cb9
    have ca0 : w4.cell? ⟨w.heap.size, 0, none⟩ = some (.int .i64 a.kind) := HKA4.out.cell 0
    have cb0 : w4.cell? ⟨w.heap.size + 1, 0, none⟩ = some (.int .i64 a.kind) := by rw [E0.out]; exact HKB4.out.cell 0
    have ca1 : w4.cell? ⟨w.heap.size, 1, none⟩ = some (.int .i64 a.g.id) := HKA4.out.cell 1
    have cb1 : w4.cell? ⟨w.heap.size + 1, 1, none⟩ = some (.int .i64 b.g.id) := HKB4.out.cell 1
    have ca2 : w4.cell? ⟨w.heap.size, 2, none⟩ = some (.int .i64 a.g.holder) := HKA4.out.cell 2
    have cb2 : w4.cell? ⟨w.heap.size + 1, 2, none⟩ = some (.int .i64 b.g.holder) := HKB4.out.cell 2
    have ca3 : w4.cell? ⟨w.heap.size, 3, none⟩ = some (.string a.g.path) := HKA4.out.cell 3
    have cb3 : w4.cell? ⟨w.heap.size + 1, 3, none⟩ = some (.string b.g.path) := HKB4.out.cell 3
    have ca4 : w4.cell? ⟨w.heap.size, 4, none⟩ = some (.int .i64 a.g.mode) := HKA4.out.cell 4
    have cb4 : w4.cell? ⟨w.heap.size + 1, 4, none⟩ = some (.int .i64 b.g.mode) := HKB4.out.cell 4
    have ca5 : w4.cell? ⟨w.heap.size, 5, none⟩ = some (u) := HKA4.out.cell 5
    have cb5 : w4.cell? ⟨w.heap.size + 1, 5, none⟩ = some (v) := HKB4.out.cell 5
    have ca6 : w4.cell? ⟨w.heap.size, 6, none⟩ = some (.int .i64 a.g.term) := HKA4.out.cell 6
    have cb6 : w4.cell? ⟨w.heap.size + 1, 6, none⟩ = some (.int .i64 b.g.term) := HKB4.out.cell 6
    have ca7 : w4.cell? ⟨w.heap.size, 7, none⟩ = some (.int .i64 a.id) := HKA4.out.cell 7
    have cb7 : w4.cell? ⟨w.heap.size + 1, 7, none⟩ = some (.int .i64 a.id) := by rw [E2.out]; exact HKB4.out.cell 7
    have ca8 : w4.cell? ⟨w.heap.size, 8, none⟩ = some (u2) := HKA4.out.cell 8
    have cb8 : w4.cell? ⟨w.heap.size + 1, 8, none⟩ = some (v2) := HKB4.out.cell 8
    have ca9 : w4.cell? ⟨w.heap.size, 9, none⟩ = some (.int .i64 a.next) := HKA4.out.cell 9
    have cb9 : w4.cell? ⟨w.heap.size + 1, 9, none⟩ = some (.int .i64 b.next) := HKB4.out.cell 9
    rw [decide_eq_true E3.out]
    go_wp2_with fail
    go_ret
    exact bools (decide_eq_false HNE.out).symm HX4.out
  have E4 := Lib.hid e4
  by_cases e5 : a.boots = b.boots
  rotate_left
  · have hne := e5; clear e5
    have ca0 : ((w.alloc (.cells (twelve a u u2) 32)).alloc (.cells (twelve b v v2) 32)).cell? ⟨w.heap.size, 0, none⟩ = some (.int .i64 a.kind) := HKA.out.cell 0
    have cb0 : ((w.alloc (.cells (twelve a u u2) 32)).alloc (.cells (twelve b v v2) 32)).cell? ⟨w.heap.size + 1, 0, none⟩ = some (.int .i64 a.kind) := by rw [e0]; exact HKB.out.cell 0
    have ca1 : ((w.alloc (.cells (twelve a u u2) 32)).alloc (.cells (twelve b v v2) 32)).cell? ⟨w.heap.size, 1, none⟩ = some (.int .i64 a.g.id) := HKA.out.cell 1
    have cb1 : ((w.alloc (.cells (twelve a u u2) 32)).alloc (.cells (twelve b v v2) 32)).cell? ⟨w.heap.size + 1, 1, none⟩ = some (.int .i64 b.g.id) := HKB.out.cell 1
    have ca2 : ((w.alloc (.cells (twelve a u u2) 32)).alloc (.cells (twelve b v v2) 32)).cell? ⟨w.heap.size, 2, none⟩ = some (.int .i64 a.g.holder) := HKA.out.cell 2
    have cb2 : ((w.alloc (.cells (twelve a u u2) 32)).alloc (.cells (twelve b v v2) 32)).cell? ⟨w.heap.size + 1, 2, none⟩ = some (.int .i64 b.g.holder) := HKB.out.cell 2
    have ca3 : ((w.alloc (.cells (twelve a u u2) 32)).alloc (.cells (twelve b v v2) 32)).cell? ⟨w.heap.size, 3, none⟩ = some (.string a.g.path) := HKA.out.cell 3
    have cb3 : ((w.alloc (.cells (twelve a u u2) 32)).alloc (.cells (twelve b v v2) 32)).cell? ⟨w.heap.size + 1, 3, none⟩ = some (.string b.g.path) := HKB.out.cell 3
    have ca4 : ((w.alloc (.cells (twelve a u u2) 32)).alloc (.cells (twelve b v v2) 32)).cell? ⟨w.heap.size, 4, none⟩ = some (.int .i64 a.g.mode) := HKA.out.cell 4
    have cb4 : ((w.alloc (.cells (twelve a u u2) 32)).alloc (.cells (twelve b v v2) 32)).cell? ⟨w.heap.size + 1, 4, none⟩ = some (.int .i64 b.g.mode) := HKB.out.cell 4
    have ca5 : ((w.alloc (.cells (twelve a u u2) 32)).alloc (.cells (twelve b v v2) 32)).cell? ⟨w.heap.size, 5, none⟩ = some (u) := HKA.out.cell 5
    have cb5 : ((w.alloc (.cells (twelve a u u2) 32)).alloc (.cells (twelve b v v2) 32)).cell? ⟨w.heap.size + 1, 5, none⟩ = some (v) := HKB.out.cell 5
    have ca6 : ((w.alloc (.cells (twelve a u u2) 32)).alloc (.cells (twelve b v v2) 32)).cell? ⟨w.heap.size, 6, none⟩ = some (.int .i64 a.g.term) := HKA.out.cell 6
    have cb6 : ((w.alloc (.cells (twelve a u u2) 32)).alloc (.cells (twelve b v v2) 32)).cell? ⟨w.heap.size + 1, 6, none⟩ = some (.int .i64 b.g.term) := HKB.out.cell 6
    have ca7 : ((w.alloc (.cells (twelve a u u2) 32)).alloc (.cells (twelve b v v2) 32)).cell? ⟨w.heap.size, 7, none⟩ = some (.int .i64 a.id) := HKA.out.cell 7
    have cb7 : ((w.alloc (.cells (twelve a u u2) 32)).alloc (.cells (twelve b v v2) 32)).cell? ⟨w.heap.size + 1, 7, none⟩ = some (.int .i64 a.id) := by rw [e2]; exact HKB.out.cell 7
    have ca8 : ((w.alloc (.cells (twelve a u u2) 32)).alloc (.cells (twelve b v v2) 32)).cell? ⟨w.heap.size, 8, none⟩ = some (u2) := HKA.out.cell 8
    have cb8 : ((w.alloc (.cells (twelve a u u2) 32)).alloc (.cells (twelve b v v2) 32)).cell? ⟨w.heap.size + 1, 8, none⟩ = some (v2) := HKB.out.cell 8
    have ca9 : ((w.alloc (.cells (twelve a u u2) 32)).alloc (.cells (twelve b v v2) 32)).cell? ⟨w.heap.size, 9, none⟩ = some (.int .i64 a.next) := HKA.out.cell 9
    have cb9 : ((w.alloc (.cells (twelve a u u2) 32)).alloc (.cells (twelve b v v2) 32)).cell? ⟨w.heap.size + 1, 9, none⟩ = some (.int .i64 a.next) := by rw [e4]; exact HKB.out.cell 9
    have ca10 : ((w.alloc (.cells (twelve a u u2) 32)).alloc (.cells (twelve b v v2) 32)).cell? ⟨w.heap.size, 10, none⟩ = some (.int .i64 a.boots) := HKA.out.cell 10
    have cb10 : ((w.alloc (.cells (twelve a u u2) 32)).alloc (.cells (twelve b v v2) 32)).cell? ⟨w.heap.size + 1, 10, none⟩ = some (.int .i64 b.boots) := HKB.out.cell 10
    have hd1 : (a.boots == b.boots) = false := by simpa using hne
    have HNE := Lib.hid (show ¬ a = b from fun e => hne (by rw [e]))
    clear hne e0 e1 e2 e3 e4
    go_enter Try.func64, Try.ntmps64
    go_wp2_with fail
    refine (b_sameGrant u v a.g b.g _ (HA.out _ HX.out).g.hd (HB.out _ HX.out).g.hd).mono ?_
    rintro x w2 ⟨rfl, hb⟩
    have HX2 := Lib.hid (below_on HX.out hb)
    have HKA2 := Lib.hid ((Mod.of_below hb []).whole HKA.out (by simp))
    have HKB2 := Lib.hid ((Mod.of_below hb []).whole HKB.out (by simp))
    clear hb ca0 cb0 ca1 cb1 ca2 cb2 ca3 cb3 ca4 cb4 ca5 cb5 ca6 cb6 ca7 cb7 ca8 cb8 ca9 cb9 ca10 cb10
    have ca0 : w2.cell? ⟨w.heap.size, 0, none⟩ = some (.int .i64 a.kind) := HKA2.out.cell 0
    have cb0 : w2.cell? ⟨w.heap.size + 1, 0, none⟩ = some (.int .i64 a.kind) := by rw [E0.out]; exact HKB2.out.cell 0
    have ca1 : w2.cell? ⟨w.heap.size, 1, none⟩ = some (.int .i64 a.g.id) := HKA2.out.cell 1
    have cb1 : w2.cell? ⟨w.heap.size + 1, 1, none⟩ = some (.int .i64 b.g.id) := HKB2.out.cell 1
    have ca2 : w2.cell? ⟨w.heap.size, 2, none⟩ = some (.int .i64 a.g.holder) := HKA2.out.cell 2
    have cb2 : w2.cell? ⟨w.heap.size + 1, 2, none⟩ = some (.int .i64 b.g.holder) := HKB2.out.cell 2
    have ca3 : w2.cell? ⟨w.heap.size, 3, none⟩ = some (.string a.g.path) := HKA2.out.cell 3
    have cb3 : w2.cell? ⟨w.heap.size + 1, 3, none⟩ = some (.string b.g.path) := HKB2.out.cell 3
    have ca4 : w2.cell? ⟨w.heap.size, 4, none⟩ = some (.int .i64 a.g.mode) := HKA2.out.cell 4
    have cb4 : w2.cell? ⟨w.heap.size + 1, 4, none⟩ = some (.int .i64 b.g.mode) := HKB2.out.cell 4
    have ca5 : w2.cell? ⟨w.heap.size, 5, none⟩ = some (u) := HKA2.out.cell 5
    have cb5 : w2.cell? ⟨w.heap.size + 1, 5, none⟩ = some (v) := HKB2.out.cell 5
    have ca6 : w2.cell? ⟨w.heap.size, 6, none⟩ = some (.int .i64 a.g.term) := HKA2.out.cell 6
    have cb6 : w2.cell? ⟨w.heap.size + 1, 6, none⟩ = some (.int .i64 b.g.term) := HKB2.out.cell 6
    have ca7 : w2.cell? ⟨w.heap.size, 7, none⟩ = some (.int .i64 a.id) := HKA2.out.cell 7
    have cb7 : w2.cell? ⟨w.heap.size + 1, 7, none⟩ = some (.int .i64 a.id) := by rw [E2.out]; exact HKB2.out.cell 7
    have ca8 : w2.cell? ⟨w.heap.size, 8, none⟩ = some (u2) := HKA2.out.cell 8
    have cb8 : w2.cell? ⟨w.heap.size + 1, 8, none⟩ = some (v2) := HKB2.out.cell 8
    have ca9 : w2.cell? ⟨w.heap.size, 9, none⟩ = some (.int .i64 a.next) := HKA2.out.cell 9
    have cb9 : w2.cell? ⟨w.heap.size + 1, 9, none⟩ = some (.int .i64 a.next) := by rw [E4.out]; exact HKB2.out.cell 9
    have ca10 : w2.cell? ⟨w.heap.size, 10, none⟩ = some (.int .i64 a.boots) := HKA2.out.cell 10
    have cb10 : w2.cell? ⟨w.heap.size + 1, 10, none⟩ = some (.int .i64 b.boots) := HKB2.out.cell 10
    rw [decide_eq_true E1.out]
    go_wp2_with fail
    refine (equal_hd u2 v2 a.stamp b.stamp _ (HA.out _ HX2.out).st (HB.out _ HX2.out).st).mono ?_
    rintro x w4 ⟨rfl, hb⟩
    have HX4 := Lib.hid (below_on HX2.out hb)
    have HKA4 := Lib.hid ((Mod.of_below hb []).whole HKA2.out (by simp))
    have HKB4 := Lib.hid ((Mod.of_below hb []).whole HKB2.out (by simp))
    clear hb ca0 cb0 ca1 cb1 ca2 cb2 ca3 cb3 ca4 cb4 ca5 cb5 ca6 cb6 ca7 cb7 ca8 cb8 ca9 cb9 ca10 cb10
    have ca0 : w4.cell? ⟨w.heap.size, 0, none⟩ = some (.int .i64 a.kind) := HKA4.out.cell 0
    have cb0 : w4.cell? ⟨w.heap.size + 1, 0, none⟩ = some (.int .i64 a.kind) := by rw [E0.out]; exact HKB4.out.cell 0
    have ca1 : w4.cell? ⟨w.heap.size, 1, none⟩ = some (.int .i64 a.g.id) := HKA4.out.cell 1
    have cb1 : w4.cell? ⟨w.heap.size + 1, 1, none⟩ = some (.int .i64 b.g.id) := HKB4.out.cell 1
    have ca2 : w4.cell? ⟨w.heap.size, 2, none⟩ = some (.int .i64 a.g.holder) := HKA4.out.cell 2
    have cb2 : w4.cell? ⟨w.heap.size + 1, 2, none⟩ = some (.int .i64 b.g.holder) := HKB4.out.cell 2
    have ca3 : w4.cell? ⟨w.heap.size, 3, none⟩ = some (.string a.g.path) := HKA4.out.cell 3
    have cb3 : w4.cell? ⟨w.heap.size + 1, 3, none⟩ = some (.string b.g.path) := HKB4.out.cell 3
    have ca4 : w4.cell? ⟨w.heap.size, 4, none⟩ = some (.int .i64 a.g.mode) := HKA4.out.cell 4
    have cb4 : w4.cell? ⟨w.heap.size + 1, 4, none⟩ = some (.int .i64 b.g.mode) := HKB4.out.cell 4
    have ca5 : w4.cell? ⟨w.heap.size, 5, none⟩ = some (u) := HKA4.out.cell 5
    have cb5 : w4.cell? ⟨w.heap.size + 1, 5, none⟩ = some (v) := HKB4.out.cell 5
    have ca6 : w4.cell? ⟨w.heap.size, 6, none⟩ = some (.int .i64 a.g.term) := HKA4.out.cell 6
    have cb6 : w4.cell? ⟨w.heap.size + 1, 6, none⟩ = some (.int .i64 b.g.term) := HKB4.out.cell 6
    have ca7 : w4.cell? ⟨w.heap.size, 7, none⟩ = some (.int .i64 a.id) := HKA4.out.cell 7
    have cb7 : w4.cell? ⟨w.heap.size + 1, 7, none⟩ = some (.int .i64 a.id) := by rw [E2.out]; exact HKB4.out.cell 7
    have ca8 : w4.cell? ⟨w.heap.size, 8, none⟩ = some (u2) := HKA4.out.cell 8
    have cb8 : w4.cell? ⟨w.heap.size + 1, 8, none⟩ = some (v2) := HKB4.out.cell 8
    have ca9 : w4.cell? ⟨w.heap.size, 9, none⟩ = some (.int .i64 a.next) := HKA4.out.cell 9
    have cb9 : w4.cell? ⟨w.heap.size + 1, 9, none⟩ = some (.int .i64 a.next) := by rw [E4.out]; exact HKB4.out.cell 9
    have ca10 : w4.cell? ⟨w.heap.size, 10, none⟩ = some (.int .i64 a.boots) := HKA4.out.cell 10
    have cb10 : w4.cell? ⟨w.heap.size + 1, 10, none⟩ = some (.int .i64 b.boots) := HKB4.out.cell 10
    rw [decide_eq_true E3.out]
    go_wp2_with fail
    go_ret
    exact bools (decide_eq_false HNE.out).symm HX4.out
  have E5 := Lib.hid e5
  by_cases e6 : a.longest = b.longest
  rotate_left
  · have hne := e6; clear e6
    have ca0 : ((w.alloc (.cells (twelve a u u2) 32)).alloc (.cells (twelve b v v2) 32)).cell? ⟨w.heap.size, 0, none⟩ = some (.int .i64 a.kind) := HKA.out.cell 0
    have cb0 : ((w.alloc (.cells (twelve a u u2) 32)).alloc (.cells (twelve b v v2) 32)).cell? ⟨w.heap.size + 1, 0, none⟩ = some (.int .i64 a.kind) := by rw [e0]; exact HKB.out.cell 0
    have ca1 : ((w.alloc (.cells (twelve a u u2) 32)).alloc (.cells (twelve b v v2) 32)).cell? ⟨w.heap.size, 1, none⟩ = some (.int .i64 a.g.id) := HKA.out.cell 1
    have cb1 : ((w.alloc (.cells (twelve a u u2) 32)).alloc (.cells (twelve b v v2) 32)).cell? ⟨w.heap.size + 1, 1, none⟩ = some (.int .i64 b.g.id) := HKB.out.cell 1
    have ca2 : ((w.alloc (.cells (twelve a u u2) 32)).alloc (.cells (twelve b v v2) 32)).cell? ⟨w.heap.size, 2, none⟩ = some (.int .i64 a.g.holder) := HKA.out.cell 2
    have cb2 : ((w.alloc (.cells (twelve a u u2) 32)).alloc (.cells (twelve b v v2) 32)).cell? ⟨w.heap.size + 1, 2, none⟩ = some (.int .i64 b.g.holder) := HKB.out.cell 2
    have ca3 : ((w.alloc (.cells (twelve a u u2) 32)).alloc (.cells (twelve b v v2) 32)).cell? ⟨w.heap.size, 3, none⟩ = some (.string a.g.path) := HKA.out.cell 3
    have cb3 : ((w.alloc (.cells (twelve a u u2) 32)).alloc (.cells (twelve b v v2) 32)).cell? ⟨w.heap.size + 1, 3, none⟩ = some (.string b.g.path) := HKB.out.cell 3
    have ca4 : ((w.alloc (.cells (twelve a u u2) 32)).alloc (.cells (twelve b v v2) 32)).cell? ⟨w.heap.size, 4, none⟩ = some (.int .i64 a.g.mode) := HKA.out.cell 4
    have cb4 : ((w.alloc (.cells (twelve a u u2) 32)).alloc (.cells (twelve b v v2) 32)).cell? ⟨w.heap.size + 1, 4, none⟩ = some (.int .i64 b.g.mode) := HKB.out.cell 4
    have ca5 : ((w.alloc (.cells (twelve a u u2) 32)).alloc (.cells (twelve b v v2) 32)).cell? ⟨w.heap.size, 5, none⟩ = some (u) := HKA.out.cell 5
    have cb5 : ((w.alloc (.cells (twelve a u u2) 32)).alloc (.cells (twelve b v v2) 32)).cell? ⟨w.heap.size + 1, 5, none⟩ = some (v) := HKB.out.cell 5
    have ca6 : ((w.alloc (.cells (twelve a u u2) 32)).alloc (.cells (twelve b v v2) 32)).cell? ⟨w.heap.size, 6, none⟩ = some (.int .i64 a.g.term) := HKA.out.cell 6
    have cb6 : ((w.alloc (.cells (twelve a u u2) 32)).alloc (.cells (twelve b v v2) 32)).cell? ⟨w.heap.size + 1, 6, none⟩ = some (.int .i64 b.g.term) := HKB.out.cell 6
    have ca7 : ((w.alloc (.cells (twelve a u u2) 32)).alloc (.cells (twelve b v v2) 32)).cell? ⟨w.heap.size, 7, none⟩ = some (.int .i64 a.id) := HKA.out.cell 7
    have cb7 : ((w.alloc (.cells (twelve a u u2) 32)).alloc (.cells (twelve b v v2) 32)).cell? ⟨w.heap.size + 1, 7, none⟩ = some (.int .i64 a.id) := by rw [e2]; exact HKB.out.cell 7
    have ca8 : ((w.alloc (.cells (twelve a u u2) 32)).alloc (.cells (twelve b v v2) 32)).cell? ⟨w.heap.size, 8, none⟩ = some (u2) := HKA.out.cell 8
    have cb8 : ((w.alloc (.cells (twelve a u u2) 32)).alloc (.cells (twelve b v v2) 32)).cell? ⟨w.heap.size + 1, 8, none⟩ = some (v2) := HKB.out.cell 8
    have ca9 : ((w.alloc (.cells (twelve a u u2) 32)).alloc (.cells (twelve b v v2) 32)).cell? ⟨w.heap.size, 9, none⟩ = some (.int .i64 a.next) := HKA.out.cell 9
    have cb9 : ((w.alloc (.cells (twelve a u u2) 32)).alloc (.cells (twelve b v v2) 32)).cell? ⟨w.heap.size + 1, 9, none⟩ = some (.int .i64 a.next) := by rw [e4]; exact HKB.out.cell 9
    have ca10 : ((w.alloc (.cells (twelve a u u2) 32)).alloc (.cells (twelve b v v2) 32)).cell? ⟨w.heap.size, 10, none⟩ = some (.int .i64 a.boots) := HKA.out.cell 10
    have cb10 : ((w.alloc (.cells (twelve a u u2) 32)).alloc (.cells (twelve b v v2) 32)).cell? ⟨w.heap.size + 1, 10, none⟩ = some (.int .i64 a.boots) := by rw [e5]; exact HKB.out.cell 10
    have ca11 : ((w.alloc (.cells (twelve a u u2) 32)).alloc (.cells (twelve b v v2) 32)).cell? ⟨w.heap.size, 11, none⟩ = some (.int .i64 a.longest) := HKA.out.cell 11
    have cb11 : ((w.alloc (.cells (twelve a u u2) 32)).alloc (.cells (twelve b v v2) 32)).cell? ⟨w.heap.size + 1, 11, none⟩ = some (.int .i64 b.longest) := HKB.out.cell 11
    have hd1 : (a.longest == b.longest) = false := by simpa using hne
    have HNE := Lib.hid (show ¬ a = b from fun e => hne (by rw [e]))
    clear hne e0 e1 e2 e3 e4 e5
    go_enter Try.func64, Try.ntmps64
    go_wp2_with fail
    refine (b_sameGrant u v a.g b.g _ (HA.out _ HX.out).g.hd (HB.out _ HX.out).g.hd).mono ?_
    rintro x w2 ⟨rfl, hb⟩
    have HX2 := Lib.hid (below_on HX.out hb)
    have HKA2 := Lib.hid ((Mod.of_below hb []).whole HKA.out (by simp))
    have HKB2 := Lib.hid ((Mod.of_below hb []).whole HKB.out (by simp))
    clear hb ca0 cb0 ca1 cb1 ca2 cb2 ca3 cb3 ca4 cb4 ca5 cb5 ca6 cb6 ca7 cb7 ca8 cb8 ca9 cb9 ca10 cb10 ca11 cb11
    have ca0 : w2.cell? ⟨w.heap.size, 0, none⟩ = some (.int .i64 a.kind) := HKA2.out.cell 0
    have cb0 : w2.cell? ⟨w.heap.size + 1, 0, none⟩ = some (.int .i64 a.kind) := by rw [E0.out]; exact HKB2.out.cell 0
    have ca1 : w2.cell? ⟨w.heap.size, 1, none⟩ = some (.int .i64 a.g.id) := HKA2.out.cell 1
    have cb1 : w2.cell? ⟨w.heap.size + 1, 1, none⟩ = some (.int .i64 b.g.id) := HKB2.out.cell 1
    have ca2 : w2.cell? ⟨w.heap.size, 2, none⟩ = some (.int .i64 a.g.holder) := HKA2.out.cell 2
    have cb2 : w2.cell? ⟨w.heap.size + 1, 2, none⟩ = some (.int .i64 b.g.holder) := HKB2.out.cell 2
    have ca3 : w2.cell? ⟨w.heap.size, 3, none⟩ = some (.string a.g.path) := HKA2.out.cell 3
    have cb3 : w2.cell? ⟨w.heap.size + 1, 3, none⟩ = some (.string b.g.path) := HKB2.out.cell 3
    have ca4 : w2.cell? ⟨w.heap.size, 4, none⟩ = some (.int .i64 a.g.mode) := HKA2.out.cell 4
    have cb4 : w2.cell? ⟨w.heap.size + 1, 4, none⟩ = some (.int .i64 b.g.mode) := HKB2.out.cell 4
    have ca5 : w2.cell? ⟨w.heap.size, 5, none⟩ = some (u) := HKA2.out.cell 5
    have cb5 : w2.cell? ⟨w.heap.size + 1, 5, none⟩ = some (v) := HKB2.out.cell 5
    have ca6 : w2.cell? ⟨w.heap.size, 6, none⟩ = some (.int .i64 a.g.term) := HKA2.out.cell 6
    have cb6 : w2.cell? ⟨w.heap.size + 1, 6, none⟩ = some (.int .i64 b.g.term) := HKB2.out.cell 6
    have ca7 : w2.cell? ⟨w.heap.size, 7, none⟩ = some (.int .i64 a.id) := HKA2.out.cell 7
    have cb7 : w2.cell? ⟨w.heap.size + 1, 7, none⟩ = some (.int .i64 a.id) := by rw [E2.out]; exact HKB2.out.cell 7
    have ca8 : w2.cell? ⟨w.heap.size, 8, none⟩ = some (u2) := HKA2.out.cell 8
    have cb8 : w2.cell? ⟨w.heap.size + 1, 8, none⟩ = some (v2) := HKB2.out.cell 8
    have ca9 : w2.cell? ⟨w.heap.size, 9, none⟩ = some (.int .i64 a.next) := HKA2.out.cell 9
    have cb9 : w2.cell? ⟨w.heap.size + 1, 9, none⟩ = some (.int .i64 a.next) := by rw [E4.out]; exact HKB2.out.cell 9
    have ca10 : w2.cell? ⟨w.heap.size, 10, none⟩ = some (.int .i64 a.boots) := HKA2.out.cell 10
    have cb10 : w2.cell? ⟨w.heap.size + 1, 10, none⟩ = some (.int .i64 a.boots) := by rw [E5.out]; exact HKB2.out.cell 10
    have ca11 : w2.cell? ⟨w.heap.size, 11, none⟩ = some (.int .i64 a.longest) := HKA2.out.cell 11
    have cb11 : w2.cell? ⟨w.heap.size + 1, 11, none⟩ = some (.int .i64 b.longest) := HKB2.out.cell 11
    rw [decide_eq_true E1.out]
    go_wp2_with fail
    refine (equal_hd u2 v2 a.stamp b.stamp _ (HA.out _ HX2.out).st (HB.out _ HX2.out).st).mono ?_
    rintro x w4 ⟨rfl, hb⟩
    have HX4 := Lib.hid (below_on HX2.out hb)
    have HKA4 := Lib.hid ((Mod.of_below hb []).whole HKA2.out (by simp))
    have HKB4 := Lib.hid ((Mod.of_below hb []).whole HKB2.out (by simp))
    clear hb ca0 cb0 ca1 cb1 ca2 cb2 ca3 cb3 ca4 cb4 ca5 cb5 ca6 cb6 ca7 cb7 ca8 cb8 ca9 cb9 ca10 cb10 ca11 cb11
    have ca0 : w4.cell? ⟨w.heap.size, 0, none⟩ = some (.int .i64 a.kind) := HKA4.out.cell 0
    have cb0 : w4.cell? ⟨w.heap.size + 1, 0, none⟩ = some (.int .i64 a.kind) := by rw [E0.out]; exact HKB4.out.cell 0
    have ca1 : w4.cell? ⟨w.heap.size, 1, none⟩ = some (.int .i64 a.g.id) := HKA4.out.cell 1
    have cb1 : w4.cell? ⟨w.heap.size + 1, 1, none⟩ = some (.int .i64 b.g.id) := HKB4.out.cell 1
    have ca2 : w4.cell? ⟨w.heap.size, 2, none⟩ = some (.int .i64 a.g.holder) := HKA4.out.cell 2
    have cb2 : w4.cell? ⟨w.heap.size + 1, 2, none⟩ = some (.int .i64 b.g.holder) := HKB4.out.cell 2
    have ca3 : w4.cell? ⟨w.heap.size, 3, none⟩ = some (.string a.g.path) := HKA4.out.cell 3
    have cb3 : w4.cell? ⟨w.heap.size + 1, 3, none⟩ = some (.string b.g.path) := HKB4.out.cell 3
    have ca4 : w4.cell? ⟨w.heap.size, 4, none⟩ = some (.int .i64 a.g.mode) := HKA4.out.cell 4
    have cb4 : w4.cell? ⟨w.heap.size + 1, 4, none⟩ = some (.int .i64 b.g.mode) := HKB4.out.cell 4
    have ca5 : w4.cell? ⟨w.heap.size, 5, none⟩ = some (u) := HKA4.out.cell 5
    have cb5 : w4.cell? ⟨w.heap.size + 1, 5, none⟩ = some (v) := HKB4.out.cell 5
    have ca6 : w4.cell? ⟨w.heap.size, 6, none⟩ = some (.int .i64 a.g.term) := HKA4.out.cell 6
    have cb6 : w4.cell? ⟨w.heap.size + 1, 6, none⟩ = some (.int .i64 b.g.term) := HKB4.out.cell 6
    have ca7 : w4.cell? ⟨w.heap.size, 7, none⟩ = some (.int .i64 a.id) := HKA4.out.cell 7
    have cb7 : w4.cell? ⟨w.heap.size + 1, 7, none⟩ = some (.int .i64 a.id) := by rw [E2.out]; exact HKB4.out.cell 7
    have ca8 : w4.cell? ⟨w.heap.size, 8, none⟩ = some (u2) := HKA4.out.cell 8
    have cb8 : w4.cell? ⟨w.heap.size + 1, 8, none⟩ = some (v2) := HKB4.out.cell 8
    have ca9 : w4.cell? ⟨w.heap.size, 9, none⟩ = some (.int .i64 a.next) := HKA4.out.cell 9
    have cb9 : w4.cell? ⟨w.heap.size + 1, 9, none⟩ = some (.int .i64 a.next) := by rw [E4.out]; exact HKB4.out.cell 9
    have ca10 : w4.cell? ⟨w.heap.size, 10, none⟩ = some (.int .i64 a.boots) := HKA4.out.cell 10
    have cb10 : w4.cell? ⟨w.heap.size + 1, 10, none⟩ = some (.int .i64 a.boots) := by rw [E5.out]; exact HKB4.out.cell 10
    have ca11 : w4.cell? ⟨w.heap.size, 11, none⟩ = some (.int .i64 a.longest) := HKA4.out.cell 11
    have cb11 : w4.cell? ⟨w.heap.size + 1, 11, none⟩ = some (.int .i64 b.longest) := HKB4.out.cell 11
    rw [decide_eq_true E3.out]
    go_wp2_with fail
    go_ret
    exact bools (decide_eq_false HNE.out).symm HX4.out
  have E6 := Lib.hid e6
  have ca0 : ((w.alloc (.cells (twelve a u u2) 32)).alloc (.cells (twelve b v v2) 32)).cell? ⟨w.heap.size, 0, none⟩ = some (.int .i64 a.kind) := HKA.out.cell 0
  have cb0 : ((w.alloc (.cells (twelve a u u2) 32)).alloc (.cells (twelve b v v2) 32)).cell? ⟨w.heap.size + 1, 0, none⟩ = some (.int .i64 a.kind) := by rw [e0]; exact HKB.out.cell 0
  have ca1 : ((w.alloc (.cells (twelve a u u2) 32)).alloc (.cells (twelve b v v2) 32)).cell? ⟨w.heap.size, 1, none⟩ = some (.int .i64 a.g.id) := HKA.out.cell 1
  have cb1 : ((w.alloc (.cells (twelve a u u2) 32)).alloc (.cells (twelve b v v2) 32)).cell? ⟨w.heap.size + 1, 1, none⟩ = some (.int .i64 b.g.id) := HKB.out.cell 1
  have ca2 : ((w.alloc (.cells (twelve a u u2) 32)).alloc (.cells (twelve b v v2) 32)).cell? ⟨w.heap.size, 2, none⟩ = some (.int .i64 a.g.holder) := HKA.out.cell 2
  have cb2 : ((w.alloc (.cells (twelve a u u2) 32)).alloc (.cells (twelve b v v2) 32)).cell? ⟨w.heap.size + 1, 2, none⟩ = some (.int .i64 b.g.holder) := HKB.out.cell 2
  have ca3 : ((w.alloc (.cells (twelve a u u2) 32)).alloc (.cells (twelve b v v2) 32)).cell? ⟨w.heap.size, 3, none⟩ = some (.string a.g.path) := HKA.out.cell 3
  have cb3 : ((w.alloc (.cells (twelve a u u2) 32)).alloc (.cells (twelve b v v2) 32)).cell? ⟨w.heap.size + 1, 3, none⟩ = some (.string b.g.path) := HKB.out.cell 3
  have ca4 : ((w.alloc (.cells (twelve a u u2) 32)).alloc (.cells (twelve b v v2) 32)).cell? ⟨w.heap.size, 4, none⟩ = some (.int .i64 a.g.mode) := HKA.out.cell 4
  have cb4 : ((w.alloc (.cells (twelve a u u2) 32)).alloc (.cells (twelve b v v2) 32)).cell? ⟨w.heap.size + 1, 4, none⟩ = some (.int .i64 b.g.mode) := HKB.out.cell 4
  have ca5 : ((w.alloc (.cells (twelve a u u2) 32)).alloc (.cells (twelve b v v2) 32)).cell? ⟨w.heap.size, 5, none⟩ = some (u) := HKA.out.cell 5
  have cb5 : ((w.alloc (.cells (twelve a u u2) 32)).alloc (.cells (twelve b v v2) 32)).cell? ⟨w.heap.size + 1, 5, none⟩ = some (v) := HKB.out.cell 5
  have ca6 : ((w.alloc (.cells (twelve a u u2) 32)).alloc (.cells (twelve b v v2) 32)).cell? ⟨w.heap.size, 6, none⟩ = some (.int .i64 a.g.term) := HKA.out.cell 6
  have cb6 : ((w.alloc (.cells (twelve a u u2) 32)).alloc (.cells (twelve b v v2) 32)).cell? ⟨w.heap.size + 1, 6, none⟩ = some (.int .i64 b.g.term) := HKB.out.cell 6
  have ca7 : ((w.alloc (.cells (twelve a u u2) 32)).alloc (.cells (twelve b v v2) 32)).cell? ⟨w.heap.size, 7, none⟩ = some (.int .i64 a.id) := HKA.out.cell 7
  have cb7 : ((w.alloc (.cells (twelve a u u2) 32)).alloc (.cells (twelve b v v2) 32)).cell? ⟨w.heap.size + 1, 7, none⟩ = some (.int .i64 a.id) := by rw [e2]; exact HKB.out.cell 7
  have ca8 : ((w.alloc (.cells (twelve a u u2) 32)).alloc (.cells (twelve b v v2) 32)).cell? ⟨w.heap.size, 8, none⟩ = some (u2) := HKA.out.cell 8
  have cb8 : ((w.alloc (.cells (twelve a u u2) 32)).alloc (.cells (twelve b v v2) 32)).cell? ⟨w.heap.size + 1, 8, none⟩ = some (v2) := HKB.out.cell 8
  have ca9 : ((w.alloc (.cells (twelve a u u2) 32)).alloc (.cells (twelve b v v2) 32)).cell? ⟨w.heap.size, 9, none⟩ = some (.int .i64 a.next) := HKA.out.cell 9
  have cb9 : ((w.alloc (.cells (twelve a u u2) 32)).alloc (.cells (twelve b v v2) 32)).cell? ⟨w.heap.size + 1, 9, none⟩ = some (.int .i64 a.next) := by rw [e4]; exact HKB.out.cell 9
  have ca10 : ((w.alloc (.cells (twelve a u u2) 32)).alloc (.cells (twelve b v v2) 32)).cell? ⟨w.heap.size, 10, none⟩ = some (.int .i64 a.boots) := HKA.out.cell 10
  have cb10 : ((w.alloc (.cells (twelve a u u2) 32)).alloc (.cells (twelve b v v2) 32)).cell? ⟨w.heap.size + 1, 10, none⟩ = some (.int .i64 a.boots) := by rw [e5]; exact HKB.out.cell 10
  have ca11 : ((w.alloc (.cells (twelve a u u2) 32)).alloc (.cells (twelve b v v2) 32)).cell? ⟨w.heap.size, 11, none⟩ = some (.int .i64 a.longest) := HKA.out.cell 11
  have cb11 : ((w.alloc (.cells (twelve a u u2) 32)).alloc (.cells (twelve b v v2) 32)).cell? ⟨w.heap.size + 1, 11, none⟩ = some (.int .i64 a.longest) := by rw [e6]; exact HKB.out.cell 11
  have HEQ := Lib.hid (show a = b from rc_eq e0 e1 e2 e3 e4 e5 e6)
  clear e0 e1 e2 e3 e4 e5 e6
  go_enter Try.func64, Try.ntmps64
  go_wp2_with fail
  refine (b_sameGrant u v a.g b.g _ (HA.out _ HX.out).g.hd (HB.out _ HX.out).g.hd).mono ?_
  rintro x w2 ⟨rfl, hb⟩
  have HX2 := Lib.hid (below_on HX.out hb)
  have HKA2 := Lib.hid ((Mod.of_below hb []).whole HKA.out (by simp))
  have HKB2 := Lib.hid ((Mod.of_below hb []).whole HKB.out (by simp))
  clear hb ca0 cb0 ca1 cb1 ca2 cb2 ca3 cb3 ca4 cb4 ca5 cb5 ca6 cb6 ca7 cb7 ca8 cb8 ca9 cb9 ca10 cb10 ca11 cb11
  have ca0 : w2.cell? ⟨w.heap.size, 0, none⟩ = some (.int .i64 a.kind) := HKA2.out.cell 0
  have cb0 : w2.cell? ⟨w.heap.size + 1, 0, none⟩ = some (.int .i64 a.kind) := by rw [E0.out]; exact HKB2.out.cell 0
  have ca1 : w2.cell? ⟨w.heap.size, 1, none⟩ = some (.int .i64 a.g.id) := HKA2.out.cell 1
  have cb1 : w2.cell? ⟨w.heap.size + 1, 1, none⟩ = some (.int .i64 b.g.id) := HKB2.out.cell 1
  have ca2 : w2.cell? ⟨w.heap.size, 2, none⟩ = some (.int .i64 a.g.holder) := HKA2.out.cell 2
  have cb2 : w2.cell? ⟨w.heap.size + 1, 2, none⟩ = some (.int .i64 b.g.holder) := HKB2.out.cell 2
  have ca3 : w2.cell? ⟨w.heap.size, 3, none⟩ = some (.string a.g.path) := HKA2.out.cell 3
  have cb3 : w2.cell? ⟨w.heap.size + 1, 3, none⟩ = some (.string b.g.path) := HKB2.out.cell 3
  have ca4 : w2.cell? ⟨w.heap.size, 4, none⟩ = some (.int .i64 a.g.mode) := HKA2.out.cell 4
  have cb4 : w2.cell? ⟨w.heap.size + 1, 4, none⟩ = some (.int .i64 b.g.mode) := HKB2.out.cell 4
  have ca5 : w2.cell? ⟨w.heap.size, 5, none⟩ = some (u) := HKA2.out.cell 5
  have cb5 : w2.cell? ⟨w.heap.size + 1, 5, none⟩ = some (v) := HKB2.out.cell 5
  have ca6 : w2.cell? ⟨w.heap.size, 6, none⟩ = some (.int .i64 a.g.term) := HKA2.out.cell 6
  have cb6 : w2.cell? ⟨w.heap.size + 1, 6, none⟩ = some (.int .i64 b.g.term) := HKB2.out.cell 6
  have ca7 : w2.cell? ⟨w.heap.size, 7, none⟩ = some (.int .i64 a.id) := HKA2.out.cell 7
  have cb7 : w2.cell? ⟨w.heap.size + 1, 7, none⟩ = some (.int .i64 a.id) := by rw [E2.out]; exact HKB2.out.cell 7
  have ca8 : w2.cell? ⟨w.heap.size, 8, none⟩ = some (u2) := HKA2.out.cell 8
  have cb8 : w2.cell? ⟨w.heap.size + 1, 8, none⟩ = some (v2) := HKB2.out.cell 8
  have ca9 : w2.cell? ⟨w.heap.size, 9, none⟩ = some (.int .i64 a.next) := HKA2.out.cell 9
  have cb9 : w2.cell? ⟨w.heap.size + 1, 9, none⟩ = some (.int .i64 a.next) := by rw [E4.out]; exact HKB2.out.cell 9
  have ca10 : w2.cell? ⟨w.heap.size, 10, none⟩ = some (.int .i64 a.boots) := HKA2.out.cell 10
  have cb10 : w2.cell? ⟨w.heap.size + 1, 10, none⟩ = some (.int .i64 a.boots) := by rw [E5.out]; exact HKB2.out.cell 10
  have ca11 : w2.cell? ⟨w.heap.size, 11, none⟩ = some (.int .i64 a.longest) := HKA2.out.cell 11
  have cb11 : w2.cell? ⟨w.heap.size + 1, 11, none⟩ = some (.int .i64 a.longest) := by rw [E6.out]; exact HKB2.out.cell 11
  rw [decide_eq_true E1.out]
  go_wp2_with fail
  refine (equal_hd u2 v2 a.stamp b.stamp _ (HA.out _ HX2.out).st (HB.out _ HX2.out).st).mono ?_
  rintro x w4 ⟨rfl, hb⟩
  have HX4 := Lib.hid (below_on HX2.out hb)
  have HKA4 := Lib.hid ((Mod.of_below hb []).whole HKA2.out (by simp))
  have HKB4 := Lib.hid ((Mod.of_below hb []).whole HKB2.out (by simp))
  clear hb ca0 cb0 ca1 cb1 ca2 cb2 ca3 cb3 ca4 cb4 ca5 cb5 ca6 cb6 ca7 cb7 ca8 cb8 ca9 cb9 ca10 cb10 ca11 cb11
  have ca0 : w4.cell? ⟨w.heap.size, 0, none⟩ = some (.int .i64 a.kind) := HKA4.out.cell 0
  have cb0 : w4.cell? ⟨w.heap.size + 1, 0, none⟩ = some (.int .i64 a.kind) := by rw [E0.out]; exact HKB4.out.cell 0
  have ca1 : w4.cell? ⟨w.heap.size, 1, none⟩ = some (.int .i64 a.g.id) := HKA4.out.cell 1
  have cb1 : w4.cell? ⟨w.heap.size + 1, 1, none⟩ = some (.int .i64 b.g.id) := HKB4.out.cell 1
  have ca2 : w4.cell? ⟨w.heap.size, 2, none⟩ = some (.int .i64 a.g.holder) := HKA4.out.cell 2
  have cb2 : w4.cell? ⟨w.heap.size + 1, 2, none⟩ = some (.int .i64 b.g.holder) := HKB4.out.cell 2
  have ca3 : w4.cell? ⟨w.heap.size, 3, none⟩ = some (.string a.g.path) := HKA4.out.cell 3
  have cb3 : w4.cell? ⟨w.heap.size + 1, 3, none⟩ = some (.string b.g.path) := HKB4.out.cell 3
  have ca4 : w4.cell? ⟨w.heap.size, 4, none⟩ = some (.int .i64 a.g.mode) := HKA4.out.cell 4
  have cb4 : w4.cell? ⟨w.heap.size + 1, 4, none⟩ = some (.int .i64 b.g.mode) := HKB4.out.cell 4
  have ca5 : w4.cell? ⟨w.heap.size, 5, none⟩ = some (u) := HKA4.out.cell 5
  have cb5 : w4.cell? ⟨w.heap.size + 1, 5, none⟩ = some (v) := HKB4.out.cell 5
  have ca6 : w4.cell? ⟨w.heap.size, 6, none⟩ = some (.int .i64 a.g.term) := HKA4.out.cell 6
  have cb6 : w4.cell? ⟨w.heap.size + 1, 6, none⟩ = some (.int .i64 b.g.term) := HKB4.out.cell 6
  have ca7 : w4.cell? ⟨w.heap.size, 7, none⟩ = some (.int .i64 a.id) := HKA4.out.cell 7
  have cb7 : w4.cell? ⟨w.heap.size + 1, 7, none⟩ = some (.int .i64 a.id) := by rw [E2.out]; exact HKB4.out.cell 7
  have ca8 : w4.cell? ⟨w.heap.size, 8, none⟩ = some (u2) := HKA4.out.cell 8
  have cb8 : w4.cell? ⟨w.heap.size + 1, 8, none⟩ = some (v2) := HKB4.out.cell 8
  have ca9 : w4.cell? ⟨w.heap.size, 9, none⟩ = some (.int .i64 a.next) := HKA4.out.cell 9
  have cb9 : w4.cell? ⟨w.heap.size + 1, 9, none⟩ = some (.int .i64 a.next) := by rw [E4.out]; exact HKB4.out.cell 9
  have ca10 : w4.cell? ⟨w.heap.size, 10, none⟩ = some (.int .i64 a.boots) := HKA4.out.cell 10
  have cb10 : w4.cell? ⟨w.heap.size + 1, 10, none⟩ = some (.int .i64 a.boots) := by rw [E5.out]; exact HKB4.out.cell 10
  have ca11 : w4.cell? ⟨w.heap.size, 11, none⟩ = some (.int .i64 a.longest) := HKA4.out.cell 11
  have cb11 : w4.cell? ⟨w.heap.size + 1, 11, none⟩ = some (.int .i64 a.longest) := by rw [E6.out]; exact HKB4.out.cell 11
  rw [decide_eq_true E3.out]
  go_wp2_with fail
  go_ret
  exact bools (decide_eq_true HEQ.out).symm HX4.out
set_option maxHeartbeats 4000000 in
theorem r_SameRec (u u2 v v2 : Value) (a b : Rc) (w : World) (hA : FitR w u u2 a) (hB : FitR w v v2 b) :
    Calls Try.prog 27 #[.agg (twelve a u u2), .agg (twelve b v v2)] w fun e w' => e = .returned (.bool (decide (a = b))) ∧ Below w.heap.size w w' := by
  have HX := Lib.hid (((Below.refl _ w).alloc (Nat.le_refl _) (.cells (twelve a u u2) 32)).alloc (by simp) (.cells (twelve b v v2) 32))
  have HA := Lib.hid (fun w' (hb : Below w.heap.size w w') => hA.below hb)
  have HB := Lib.hid (fun w' (hb : Below w.heap.size w w') => hB.below hb)
  clear hA hB
  have HKA := Lib.hid ((Whole.new w 32 (twelve a u u2)).alloc (.cells (twelve b v v2) 32))
  have HKB := Lib.hid (show Whole ((w.alloc (.cells (twelve a u u2) 32)).alloc (.cells (twelve b v v2) 32)) (w.heap.size + 1) 32 (twelve b v v2) from by have h := Whole.new (w.alloc (.cells (twelve a u u2) 32)) 32 (twelve b v v2); have e : (w.alloc (.cells (twelve a u u2) 32)).heap.size = w.heap.size + 1 := (by simp); rw [e] at h; exact h)
  by_cases e0 : a.kind = b.kind
  rotate_left
  · have hne := e0; clear e0
    have ca0 : ((w.alloc (.cells (twelve a u u2) 32)).alloc (.cells (twelve b v v2) 32)).cell? ⟨w.heap.size, 0, none⟩ = some (.int .i64 a.kind) := HKA.out.cell 0
    have cb0 : ((w.alloc (.cells (twelve a u u2) 32)).alloc (.cells (twelve b v v2) 32)).cell? ⟨w.heap.size + 1, 0, none⟩ = some (.int .i64 b.kind) := HKB.out.cell 0
    have hd1 : (a.kind == b.kind) = false := by simpa using hne
    have HNE := Lib.hid (show ¬ a = b from fun e => hne (by rw [e]))
    clear hne
    go_enter Try.func27, Try.ntmps27
    go_wp2_with fail
    go_ret
    exact bools (decide_eq_false HNE.out).symm HX.out
  have E0 := Lib.hid e0
  by_cases e1 : a.g = b.g
  rotate_left
  · have hne := e1; clear e1
    have ca0 : ((w.alloc (.cells (twelve a u u2) 32)).alloc (.cells (twelve b v v2) 32)).cell? ⟨w.heap.size, 0, none⟩ = some (.int .i64 a.kind) := HKA.out.cell 0
    have cb0 : ((w.alloc (.cells (twelve a u u2) 32)).alloc (.cells (twelve b v v2) 32)).cell? ⟨w.heap.size + 1, 0, none⟩ = some (.int .i64 a.kind) := by rw [e0]; exact HKB.out.cell 0
    have ca1 : ((w.alloc (.cells (twelve a u u2) 32)).alloc (.cells (twelve b v v2) 32)).cell? ⟨w.heap.size, 1, none⟩ = some (.int .i64 a.g.id) := HKA.out.cell 1
    have cb1 : ((w.alloc (.cells (twelve a u u2) 32)).alloc (.cells (twelve b v v2) 32)).cell? ⟨w.heap.size + 1, 1, none⟩ = some (.int .i64 b.g.id) := HKB.out.cell 1
    have ca2 : ((w.alloc (.cells (twelve a u u2) 32)).alloc (.cells (twelve b v v2) 32)).cell? ⟨w.heap.size, 2, none⟩ = some (.int .i64 a.g.holder) := HKA.out.cell 2
    have cb2 : ((w.alloc (.cells (twelve a u u2) 32)).alloc (.cells (twelve b v v2) 32)).cell? ⟨w.heap.size + 1, 2, none⟩ = some (.int .i64 b.g.holder) := HKB.out.cell 2
    have ca3 : ((w.alloc (.cells (twelve a u u2) 32)).alloc (.cells (twelve b v v2) 32)).cell? ⟨w.heap.size, 3, none⟩ = some (.string a.g.path) := HKA.out.cell 3
    have cb3 : ((w.alloc (.cells (twelve a u u2) 32)).alloc (.cells (twelve b v v2) 32)).cell? ⟨w.heap.size + 1, 3, none⟩ = some (.string b.g.path) := HKB.out.cell 3
    have ca4 : ((w.alloc (.cells (twelve a u u2) 32)).alloc (.cells (twelve b v v2) 32)).cell? ⟨w.heap.size, 4, none⟩ = some (.int .i64 a.g.mode) := HKA.out.cell 4
    have cb4 : ((w.alloc (.cells (twelve a u u2) 32)).alloc (.cells (twelve b v v2) 32)).cell? ⟨w.heap.size + 1, 4, none⟩ = some (.int .i64 b.g.mode) := HKB.out.cell 4
    have ca5 : ((w.alloc (.cells (twelve a u u2) 32)).alloc (.cells (twelve b v v2) 32)).cell? ⟨w.heap.size, 5, none⟩ = some (u) := HKA.out.cell 5
    have cb5 : ((w.alloc (.cells (twelve a u u2) 32)).alloc (.cells (twelve b v v2) 32)).cell? ⟨w.heap.size + 1, 5, none⟩ = some (v) := HKB.out.cell 5
    have ca6 : ((w.alloc (.cells (twelve a u u2) 32)).alloc (.cells (twelve b v v2) 32)).cell? ⟨w.heap.size, 6, none⟩ = some (.int .i64 a.g.term) := HKA.out.cell 6
    have cb6 : ((w.alloc (.cells (twelve a u u2) 32)).alloc (.cells (twelve b v v2) 32)).cell? ⟨w.heap.size + 1, 6, none⟩ = some (.int .i64 b.g.term) := HKB.out.cell 6
    have HNE := Lib.hid (show ¬ a = b from fun e => hne (by rw [e]))
    have HN2 := Lib.hid hne
    clear hne e0
    go_enter Try.func27, Try.ntmps27
    go_wp2_with fail
    refine (r_SameGrant u v a.g b.g _ (HA.out _ HX.out).g.hd (HB.out _ HX.out).g.hd).mono ?_
    rintro x w2 ⟨rfl, hb⟩
    have HX2 := Lib.hid (below_on HX.out hb)
    have HKA2 := Lib.hid ((Mod.of_below hb []).whole HKA.out (by simp))
    have HKB2 := Lib.hid ((Mod.of_below hb []).whole HKB.out (by simp))
    clear hb ca0 cb0 ca1 cb1 ca2 cb2 ca3 cb3 ca4 cb4 ca5 cb5 ca6 cb6
    have ca0 : w2.cell? ⟨w.heap.size, 0, none⟩ = some (.int .i64 a.kind) := HKA2.out.cell 0
    have cb0 : w2.cell? ⟨w.heap.size + 1, 0, none⟩ = some (.int .i64 a.kind) := by rw [E0.out]; exact HKB2.out.cell 0
    have ca1 : w2.cell? ⟨w.heap.size, 1, none⟩ = some (.int .i64 a.g.id) := HKA2.out.cell 1
    have cb1 : w2.cell? ⟨w.heap.size + 1, 1, none⟩ = some (.int .i64 b.g.id) := HKB2.out.cell 1
    have ca2 : w2.cell? ⟨w.heap.size, 2, none⟩ = some (.int .i64 a.g.holder) := HKA2.out.cell 2
    have cb2 : w2.cell? ⟨w.heap.size + 1, 2, none⟩ = some (.int .i64 b.g.holder) := HKB2.out.cell 2
    have ca3 : w2.cell? ⟨w.heap.size, 3, none⟩ = some (.string a.g.path) := HKA2.out.cell 3
    have cb3 : w2.cell? ⟨w.heap.size + 1, 3, none⟩ = some (.string b.g.path) := HKB2.out.cell 3
    have ca4 : w2.cell? ⟨w.heap.size, 4, none⟩ = some (.int .i64 a.g.mode) := HKA2.out.cell 4
    have cb4 : w2.cell? ⟨w.heap.size + 1, 4, none⟩ = some (.int .i64 b.g.mode) := HKB2.out.cell 4
    have ca5 : w2.cell? ⟨w.heap.size, 5, none⟩ = some (u) := HKA2.out.cell 5
    have cb5 : w2.cell? ⟨w.heap.size + 1, 5, none⟩ = some (v) := HKB2.out.cell 5
    have ca6 : w2.cell? ⟨w.heap.size, 6, none⟩ = some (.int .i64 a.g.term) := HKA2.out.cell 6
    have cb6 : w2.cell? ⟨w.heap.size + 1, 6, none⟩ = some (.int .i64 b.g.term) := HKB2.out.cell 6
    rw [decide_eq_false HN2.out]
    go_wp2_with fail
    go_ret
    exact bools (decide_eq_false HNE.out).symm HX2.out
  have E1 := Lib.hid e1
  by_cases e2 : a.id = b.id
  rotate_left
  · have hne := e2; clear e2
    have ca0 : ((w.alloc (.cells (twelve a u u2) 32)).alloc (.cells (twelve b v v2) 32)).cell? ⟨w.heap.size, 0, none⟩ = some (.int .i64 a.kind) := HKA.out.cell 0
    have cb0 : ((w.alloc (.cells (twelve a u u2) 32)).alloc (.cells (twelve b v v2) 32)).cell? ⟨w.heap.size + 1, 0, none⟩ = some (.int .i64 a.kind) := by rw [e0]; exact HKB.out.cell 0
    have ca1 : ((w.alloc (.cells (twelve a u u2) 32)).alloc (.cells (twelve b v v2) 32)).cell? ⟨w.heap.size, 1, none⟩ = some (.int .i64 a.g.id) := HKA.out.cell 1
    have cb1 : ((w.alloc (.cells (twelve a u u2) 32)).alloc (.cells (twelve b v v2) 32)).cell? ⟨w.heap.size + 1, 1, none⟩ = some (.int .i64 b.g.id) := HKB.out.cell 1
    have ca2 : ((w.alloc (.cells (twelve a u u2) 32)).alloc (.cells (twelve b v v2) 32)).cell? ⟨w.heap.size, 2, none⟩ = some (.int .i64 a.g.holder) := HKA.out.cell 2
    have cb2 : ((w.alloc (.cells (twelve a u u2) 32)).alloc (.cells (twelve b v v2) 32)).cell? ⟨w.heap.size + 1, 2, none⟩ = some (.int .i64 b.g.holder) := HKB.out.cell 2
    have ca3 : ((w.alloc (.cells (twelve a u u2) 32)).alloc (.cells (twelve b v v2) 32)).cell? ⟨w.heap.size, 3, none⟩ = some (.string a.g.path) := HKA.out.cell 3
    have cb3 : ((w.alloc (.cells (twelve a u u2) 32)).alloc (.cells (twelve b v v2) 32)).cell? ⟨w.heap.size + 1, 3, none⟩ = some (.string b.g.path) := HKB.out.cell 3
    have ca4 : ((w.alloc (.cells (twelve a u u2) 32)).alloc (.cells (twelve b v v2) 32)).cell? ⟨w.heap.size, 4, none⟩ = some (.int .i64 a.g.mode) := HKA.out.cell 4
    have cb4 : ((w.alloc (.cells (twelve a u u2) 32)).alloc (.cells (twelve b v v2) 32)).cell? ⟨w.heap.size + 1, 4, none⟩ = some (.int .i64 b.g.mode) := HKB.out.cell 4
    have ca5 : ((w.alloc (.cells (twelve a u u2) 32)).alloc (.cells (twelve b v v2) 32)).cell? ⟨w.heap.size, 5, none⟩ = some (u) := HKA.out.cell 5
    have cb5 : ((w.alloc (.cells (twelve a u u2) 32)).alloc (.cells (twelve b v v2) 32)).cell? ⟨w.heap.size + 1, 5, none⟩ = some (v) := HKB.out.cell 5
    have ca6 : ((w.alloc (.cells (twelve a u u2) 32)).alloc (.cells (twelve b v v2) 32)).cell? ⟨w.heap.size, 6, none⟩ = some (.int .i64 a.g.term) := HKA.out.cell 6
    have cb6 : ((w.alloc (.cells (twelve a u u2) 32)).alloc (.cells (twelve b v v2) 32)).cell? ⟨w.heap.size + 1, 6, none⟩ = some (.int .i64 b.g.term) := HKB.out.cell 6
    have ca7 : ((w.alloc (.cells (twelve a u u2) 32)).alloc (.cells (twelve b v v2) 32)).cell? ⟨w.heap.size, 7, none⟩ = some (.int .i64 a.id) := HKA.out.cell 7
    have cb7 : ((w.alloc (.cells (twelve a u u2) 32)).alloc (.cells (twelve b v v2) 32)).cell? ⟨w.heap.size + 1, 7, none⟩ = some (.int .i64 b.id) := HKB.out.cell 7
    have hd1 : (a.id == b.id) = false := by simpa using hne
    have HNE := Lib.hid (show ¬ a = b from fun e => hne (by rw [e]))
    clear hne e0 e1
    go_enter Try.func27, Try.ntmps27
    go_wp2_with fail
    refine (r_SameGrant u v a.g b.g _ (HA.out _ HX.out).g.hd (HB.out _ HX.out).g.hd).mono ?_
    rintro x w2 ⟨rfl, hb⟩
    have HX2 := Lib.hid (below_on HX.out hb)
    have HKA2 := Lib.hid ((Mod.of_below hb []).whole HKA.out (by simp))
    have HKB2 := Lib.hid ((Mod.of_below hb []).whole HKB.out (by simp))
    clear hb ca0 cb0 ca1 cb1 ca2 cb2 ca3 cb3 ca4 cb4 ca5 cb5 ca6 cb6 ca7 cb7
    have ca0 : w2.cell? ⟨w.heap.size, 0, none⟩ = some (.int .i64 a.kind) := HKA2.out.cell 0
    have cb0 : w2.cell? ⟨w.heap.size + 1, 0, none⟩ = some (.int .i64 a.kind) := by rw [E0.out]; exact HKB2.out.cell 0
    have ca1 : w2.cell? ⟨w.heap.size, 1, none⟩ = some (.int .i64 a.g.id) := HKA2.out.cell 1
    have cb1 : w2.cell? ⟨w.heap.size + 1, 1, none⟩ = some (.int .i64 b.g.id) := HKB2.out.cell 1
    have ca2 : w2.cell? ⟨w.heap.size, 2, none⟩ = some (.int .i64 a.g.holder) := HKA2.out.cell 2
    have cb2 : w2.cell? ⟨w.heap.size + 1, 2, none⟩ = some (.int .i64 b.g.holder) := HKB2.out.cell 2
    have ca3 : w2.cell? ⟨w.heap.size, 3, none⟩ = some (.string a.g.path) := HKA2.out.cell 3
    have cb3 : w2.cell? ⟨w.heap.size + 1, 3, none⟩ = some (.string b.g.path) := HKB2.out.cell 3
    have ca4 : w2.cell? ⟨w.heap.size, 4, none⟩ = some (.int .i64 a.g.mode) := HKA2.out.cell 4
    have cb4 : w2.cell? ⟨w.heap.size + 1, 4, none⟩ = some (.int .i64 b.g.mode) := HKB2.out.cell 4
    have ca5 : w2.cell? ⟨w.heap.size, 5, none⟩ = some (u) := HKA2.out.cell 5
    have cb5 : w2.cell? ⟨w.heap.size + 1, 5, none⟩ = some (v) := HKB2.out.cell 5
    have ca6 : w2.cell? ⟨w.heap.size, 6, none⟩ = some (.int .i64 a.g.term) := HKA2.out.cell 6
    have cb6 : w2.cell? ⟨w.heap.size + 1, 6, none⟩ = some (.int .i64 b.g.term) := HKB2.out.cell 6
    have ca7 : w2.cell? ⟨w.heap.size, 7, none⟩ = some (.int .i64 a.id) := HKA2.out.cell 7
    have cb7 : w2.cell? ⟨w.heap.size + 1, 7, none⟩ = some (.int .i64 b.id) := HKB2.out.cell 7
    rw [decide_eq_true E1.out]
    go_wp2_with fail
    go_ret
    exact bools (decide_eq_false HNE.out).symm HX2.out
  have E2 := Lib.hid e2
  by_cases e3 : a.stamp = b.stamp
  rotate_left
  · have hne := e3; clear e3
    have ca0 : ((w.alloc (.cells (twelve a u u2) 32)).alloc (.cells (twelve b v v2) 32)).cell? ⟨w.heap.size, 0, none⟩ = some (.int .i64 a.kind) := HKA.out.cell 0
    have cb0 : ((w.alloc (.cells (twelve a u u2) 32)).alloc (.cells (twelve b v v2) 32)).cell? ⟨w.heap.size + 1, 0, none⟩ = some (.int .i64 a.kind) := by rw [e0]; exact HKB.out.cell 0
    have ca1 : ((w.alloc (.cells (twelve a u u2) 32)).alloc (.cells (twelve b v v2) 32)).cell? ⟨w.heap.size, 1, none⟩ = some (.int .i64 a.g.id) := HKA.out.cell 1
    have cb1 : ((w.alloc (.cells (twelve a u u2) 32)).alloc (.cells (twelve b v v2) 32)).cell? ⟨w.heap.size + 1, 1, none⟩ = some (.int .i64 b.g.id) := HKB.out.cell 1
    have ca2 : ((w.alloc (.cells (twelve a u u2) 32)).alloc (.cells (twelve b v v2) 32)).cell? ⟨w.heap.size, 2, none⟩ = some (.int .i64 a.g.holder) := HKA.out.cell 2
    have cb2 : ((w.alloc (.cells (twelve a u u2) 32)).alloc (.cells (twelve b v v2) 32)).cell? ⟨w.heap.size + 1, 2, none⟩ = some (.int .i64 b.g.holder) := HKB.out.cell 2
    have ca3 : ((w.alloc (.cells (twelve a u u2) 32)).alloc (.cells (twelve b v v2) 32)).cell? ⟨w.heap.size, 3, none⟩ = some (.string a.g.path) := HKA.out.cell 3
    have cb3 : ((w.alloc (.cells (twelve a u u2) 32)).alloc (.cells (twelve b v v2) 32)).cell? ⟨w.heap.size + 1, 3, none⟩ = some (.string b.g.path) := HKB.out.cell 3
    have ca4 : ((w.alloc (.cells (twelve a u u2) 32)).alloc (.cells (twelve b v v2) 32)).cell? ⟨w.heap.size, 4, none⟩ = some (.int .i64 a.g.mode) := HKA.out.cell 4
    have cb4 : ((w.alloc (.cells (twelve a u u2) 32)).alloc (.cells (twelve b v v2) 32)).cell? ⟨w.heap.size + 1, 4, none⟩ = some (.int .i64 b.g.mode) := HKB.out.cell 4
    have ca5 : ((w.alloc (.cells (twelve a u u2) 32)).alloc (.cells (twelve b v v2) 32)).cell? ⟨w.heap.size, 5, none⟩ = some (u) := HKA.out.cell 5
    have cb5 : ((w.alloc (.cells (twelve a u u2) 32)).alloc (.cells (twelve b v v2) 32)).cell? ⟨w.heap.size + 1, 5, none⟩ = some (v) := HKB.out.cell 5
    have ca6 : ((w.alloc (.cells (twelve a u u2) 32)).alloc (.cells (twelve b v v2) 32)).cell? ⟨w.heap.size, 6, none⟩ = some (.int .i64 a.g.term) := HKA.out.cell 6
    have cb6 : ((w.alloc (.cells (twelve a u u2) 32)).alloc (.cells (twelve b v v2) 32)).cell? ⟨w.heap.size + 1, 6, none⟩ = some (.int .i64 b.g.term) := HKB.out.cell 6
    have ca7 : ((w.alloc (.cells (twelve a u u2) 32)).alloc (.cells (twelve b v v2) 32)).cell? ⟨w.heap.size, 7, none⟩ = some (.int .i64 a.id) := HKA.out.cell 7
    have cb7 : ((w.alloc (.cells (twelve a u u2) 32)).alloc (.cells (twelve b v v2) 32)).cell? ⟨w.heap.size + 1, 7, none⟩ = some (.int .i64 a.id) := by rw [e2]; exact HKB.out.cell 7
    have ca8 : ((w.alloc (.cells (twelve a u u2) 32)).alloc (.cells (twelve b v v2) 32)).cell? ⟨w.heap.size, 8, none⟩ = some (u2) := HKA.out.cell 8
    have cb8 : ((w.alloc (.cells (twelve a u u2) 32)).alloc (.cells (twelve b v v2) 32)).cell? ⟨w.heap.size + 1, 8, none⟩ = some (v2) := HKB.out.cell 8
    have HNE := Lib.hid (show ¬ a = b from fun e => hne (by rw [e]))
    have HN2 := Lib.hid hne
    clear hne e0 e1 e2
    go_enter Try.func27, Try.ntmps27
    go_wp2_with fail
    refine (r_SameGrant u v a.g b.g _ (HA.out _ HX.out).g.hd (HB.out _ HX.out).g.hd).mono ?_
    rintro x w2 ⟨rfl, hb⟩
    have HX2 := Lib.hid (below_on HX.out hb)
    have HKA2 := Lib.hid ((Mod.of_below hb []).whole HKA.out (by simp))
    have HKB2 := Lib.hid ((Mod.of_below hb []).whole HKB.out (by simp))
    clear hb ca0 cb0 ca1 cb1 ca2 cb2 ca3 cb3 ca4 cb4 ca5 cb5 ca6 cb6 ca7 cb7 ca8 cb8
    have ca0 : w2.cell? ⟨w.heap.size, 0, none⟩ = some (.int .i64 a.kind) := HKA2.out.cell 0
    have cb0 : w2.cell? ⟨w.heap.size + 1, 0, none⟩ = some (.int .i64 a.kind) := by rw [E0.out]; exact HKB2.out.cell 0
    have ca1 : w2.cell? ⟨w.heap.size, 1, none⟩ = some (.int .i64 a.g.id) := HKA2.out.cell 1
    have cb1 : w2.cell? ⟨w.heap.size + 1, 1, none⟩ = some (.int .i64 b.g.id) := HKB2.out.cell 1
    have ca2 : w2.cell? ⟨w.heap.size, 2, none⟩ = some (.int .i64 a.g.holder) := HKA2.out.cell 2
    have cb2 : w2.cell? ⟨w.heap.size + 1, 2, none⟩ = some (.int .i64 b.g.holder) := HKB2.out.cell 2
    have ca3 : w2.cell? ⟨w.heap.size, 3, none⟩ = some (.string a.g.path) := HKA2.out.cell 3
    have cb3 : w2.cell? ⟨w.heap.size + 1, 3, none⟩ = some (.string b.g.path) := HKB2.out.cell 3
    have ca4 : w2.cell? ⟨w.heap.size, 4, none⟩ = some (.int .i64 a.g.mode) := HKA2.out.cell 4
    have cb4 : w2.cell? ⟨w.heap.size + 1, 4, none⟩ = some (.int .i64 b.g.mode) := HKB2.out.cell 4
    have ca5 : w2.cell? ⟨w.heap.size, 5, none⟩ = some (u) := HKA2.out.cell 5
    have cb5 : w2.cell? ⟨w.heap.size + 1, 5, none⟩ = some (v) := HKB2.out.cell 5
    have ca6 : w2.cell? ⟨w.heap.size, 6, none⟩ = some (.int .i64 a.g.term) := HKA2.out.cell 6
    have cb6 : w2.cell? ⟨w.heap.size + 1, 6, none⟩ = some (.int .i64 b.g.term) := HKB2.out.cell 6
    have ca7 : w2.cell? ⟨w.heap.size, 7, none⟩ = some (.int .i64 a.id) := HKA2.out.cell 7
    have cb7 : w2.cell? ⟨w.heap.size + 1, 7, none⟩ = some (.int .i64 a.id) := by rw [E2.out]; exact HKB2.out.cell 7
    have ca8 : w2.cell? ⟨w.heap.size, 8, none⟩ = some (u2) := HKA2.out.cell 8
    have cb8 : w2.cell? ⟨w.heap.size + 1, 8, none⟩ = some (v2) := HKB2.out.cell 8
    rw [decide_eq_true E1.out]
    go_wp2_with fail
    refine (same_hd u2 v2 a.stamp b.stamp _ (HA.out _ HX2.out).st (HB.out _ HX2.out).st).mono ?_
    rintro x w4 ⟨rfl, hb⟩
    have HX4 := Lib.hid (below_on HX2.out hb)
    have HKA4 := Lib.hid ((Mod.of_below hb []).whole HKA2.out (by simp))
    have HKB4 := Lib.hid ((Mod.of_below hb []).whole HKB2.out (by simp))
    clear hb ca0 cb0 ca1 cb1 ca2 cb2 ca3 cb3 ca4 cb4 ca5 cb5 ca6 cb6 ca7 cb7 ca8 cb8
    have ca0 : w4.cell? ⟨w.heap.size, 0, none⟩ = some (.int .i64 a.kind) := HKA4.out.cell 0
    have cb0 : w4.cell? ⟨w.heap.size + 1, 0, none⟩ = some (.int .i64 a.kind) := by rw [E0.out]; exact HKB4.out.cell 0
    have ca1 : w4.cell? ⟨w.heap.size, 1, none⟩ = some (.int .i64 a.g.id) := HKA4.out.cell 1
    have cb1 : w4.cell? ⟨w.heap.size + 1, 1, none⟩ = some (.int .i64 b.g.id) := HKB4.out.cell 1
    have ca2 : w4.cell? ⟨w.heap.size, 2, none⟩ = some (.int .i64 a.g.holder) := HKA4.out.cell 2
    have cb2 : w4.cell? ⟨w.heap.size + 1, 2, none⟩ = some (.int .i64 b.g.holder) := HKB4.out.cell 2
    have ca3 : w4.cell? ⟨w.heap.size, 3, none⟩ = some (.string a.g.path) := HKA4.out.cell 3
    have cb3 : w4.cell? ⟨w.heap.size + 1, 3, none⟩ = some (.string b.g.path) := HKB4.out.cell 3
    have ca4 : w4.cell? ⟨w.heap.size, 4, none⟩ = some (.int .i64 a.g.mode) := HKA4.out.cell 4
    have cb4 : w4.cell? ⟨w.heap.size + 1, 4, none⟩ = some (.int .i64 b.g.mode) := HKB4.out.cell 4
    have ca5 : w4.cell? ⟨w.heap.size, 5, none⟩ = some (u) := HKA4.out.cell 5
    have cb5 : w4.cell? ⟨w.heap.size + 1, 5, none⟩ = some (v) := HKB4.out.cell 5
    have ca6 : w4.cell? ⟨w.heap.size, 6, none⟩ = some (.int .i64 a.g.term) := HKA4.out.cell 6
    have cb6 : w4.cell? ⟨w.heap.size + 1, 6, none⟩ = some (.int .i64 b.g.term) := HKB4.out.cell 6
    have ca7 : w4.cell? ⟨w.heap.size, 7, none⟩ = some (.int .i64 a.id) := HKA4.out.cell 7
    have cb7 : w4.cell? ⟨w.heap.size + 1, 7, none⟩ = some (.int .i64 a.id) := by rw [E2.out]; exact HKB4.out.cell 7
    have ca8 : w4.cell? ⟨w.heap.size, 8, none⟩ = some (u2) := HKA4.out.cell 8
    have cb8 : w4.cell? ⟨w.heap.size + 1, 8, none⟩ = some (v2) := HKB4.out.cell 8
    rw [decide_eq_false HN2.out]
    go_wp2_with fail
    go_ret
    exact bools (decide_eq_false HNE.out).symm HX4.out
  have E3 := Lib.hid e3
  by_cases e4 : a.next = b.next
  rotate_left
  · have hne := e4; clear e4
    have ca0 : ((w.alloc (.cells (twelve a u u2) 32)).alloc (.cells (twelve b v v2) 32)).cell? ⟨w.heap.size, 0, none⟩ = some (.int .i64 a.kind) := HKA.out.cell 0
    have cb0 : ((w.alloc (.cells (twelve a u u2) 32)).alloc (.cells (twelve b v v2) 32)).cell? ⟨w.heap.size + 1, 0, none⟩ = some (.int .i64 a.kind) := by rw [e0]; exact HKB.out.cell 0
    have ca1 : ((w.alloc (.cells (twelve a u u2) 32)).alloc (.cells (twelve b v v2) 32)).cell? ⟨w.heap.size, 1, none⟩ = some (.int .i64 a.g.id) := HKA.out.cell 1
    have cb1 : ((w.alloc (.cells (twelve a u u2) 32)).alloc (.cells (twelve b v v2) 32)).cell? ⟨w.heap.size + 1, 1, none⟩ = some (.int .i64 b.g.id) := HKB.out.cell 1
    have ca2 : ((w.alloc (.cells (twelve a u u2) 32)).alloc (.cells (twelve b v v2) 32)).cell? ⟨w.heap.size, 2, none⟩ = some (.int .i64 a.g.holder) := HKA.out.cell 2
    have cb2 : ((w.alloc (.cells (twelve a u u2) 32)).alloc (.cells (twelve b v v2) 32)).cell? ⟨w.heap.size + 1, 2, none⟩ = some (.int .i64 b.g.holder) := HKB.out.cell 2
    have ca3 : ((w.alloc (.cells (twelve a u u2) 32)).alloc (.cells (twelve b v v2) 32)).cell? ⟨w.heap.size, 3, none⟩ = some (.string a.g.path) := HKA.out.cell 3
    have cb3 : ((w.alloc (.cells (twelve a u u2) 32)).alloc (.cells (twelve b v v2) 32)).cell? ⟨w.heap.size + 1, 3, none⟩ = some (.string b.g.path) := HKB.out.cell 3
    have ca4 : ((w.alloc (.cells (twelve a u u2) 32)).alloc (.cells (twelve b v v2) 32)).cell? ⟨w.heap.size, 4, none⟩ = some (.int .i64 a.g.mode) := HKA.out.cell 4
    have cb4 : ((w.alloc (.cells (twelve a u u2) 32)).alloc (.cells (twelve b v v2) 32)).cell? ⟨w.heap.size + 1, 4, none⟩ = some (.int .i64 b.g.mode) := HKB.out.cell 4
    have ca5 : ((w.alloc (.cells (twelve a u u2) 32)).alloc (.cells (twelve b v v2) 32)).cell? ⟨w.heap.size, 5, none⟩ = some (u) := HKA.out.cell 5
    have cb5 : ((w.alloc (.cells (twelve a u u2) 32)).alloc (.cells (twelve b v v2) 32)).cell? ⟨w.heap.size + 1, 5, none⟩ = some (v) := HKB.out.cell 5
    have ca6 : ((w.alloc (.cells (twelve a u u2) 32)).alloc (.cells (twelve b v v2) 32)).cell? ⟨w.heap.size, 6, none⟩ = some (.int .i64 a.g.term) := HKA.out.cell 6
    have cb6 : ((w.alloc (.cells (twelve a u u2) 32)).alloc (.cells (twelve b v v2) 32)).cell? ⟨w.heap.size + 1, 6, none⟩ = some (.int .i64 b.g.term) := HKB.out.cell 6
    have ca7 : ((w.alloc (.cells (twelve a u u2) 32)).alloc (.cells (twelve b v v2) 32)).cell? ⟨w.heap.size, 7, none⟩ = some (.int .i64 a.id) := HKA.out.cell 7
    have cb7 : ((w.alloc (.cells (twelve a u u2) 32)).alloc (.cells (twelve b v v2) 32)).cell? ⟨w.heap.size + 1, 7, none⟩ = some (.int .i64 a.id) := by rw [e2]; exact HKB.out.cell 7
    have ca8 : ((w.alloc (.cells (twelve a u u2) 32)).alloc (.cells (twelve b v v2) 32)).cell? ⟨w.heap.size, 8, none⟩ = some (u2) := HKA.out.cell 8
    have cb8 : ((w.alloc (.cells (twelve a u u2) 32)).alloc (.cells (twelve b v v2) 32)).cell? ⟨w.heap.size + 1, 8, none⟩ = some (v2) := HKB.out.cell 8
    have ca9 : ((w.alloc (.cells (twelve a u u2) 32)).alloc (.cells (twelve b v v2) 32)).cell? ⟨w.heap.size, 9, none⟩ = some (.int .i64 a.next) := HKA.out.cell 9
    have cb9 : ((w.alloc (.cells (twelve a u u2) 32)).alloc (.cells (twelve b v v2) 32)).cell? ⟨w.heap.size + 1, 9, none⟩ = some (.int .i64 b.next) := HKB.out.cell 9
    have hd1 : (a.next == b.next) = false := by simpa using hne
    have HNE := Lib.hid (show ¬ a = b from fun e => hne (by rw [e]))
    clear hne e0 e1 e2 e3
    go_enter Try.func27, Try.ntmps27
    go_wp2_with fail
    refine (r_SameGrant u v a.g b.g _ (HA.out _ HX.out).g.hd (HB.out _ HX.out).g.hd).mono ?_
    rintro x w2 ⟨rfl, hb⟩
    have HX2 := Lib.hid (below_on HX.out hb)
    have HKA2 := Lib.hid ((Mod.of_below hb []).whole HKA.out (by simp))
    have HKB2 := Lib.hid ((Mod.of_below hb []).whole HKB.out (by simp))
    clear hb ca0 cb0 ca1 cb1 ca2 cb2 ca3 cb3 ca4 cb4 ca5 cb5 ca6 cb6 ca7 cb7 ca8 cb8 ca9 cb9
    have ca0 : w2.cell? ⟨w.heap.size, 0, none⟩ = some (.int .i64 a.kind) := HKA2.out.cell 0
    have cb0 : w2.cell? ⟨w.heap.size + 1, 0, none⟩ = some (.int .i64 a.kind) := by rw [E0.out]; exact HKB2.out.cell 0
    have ca1 : w2.cell? ⟨w.heap.size, 1, none⟩ = some (.int .i64 a.g.id) := HKA2.out.cell 1
    have cb1 : w2.cell? ⟨w.heap.size + 1, 1, none⟩ = some (.int .i64 b.g.id) := HKB2.out.cell 1
    have ca2 : w2.cell? ⟨w.heap.size, 2, none⟩ = some (.int .i64 a.g.holder) := HKA2.out.cell 2
    have cb2 : w2.cell? ⟨w.heap.size + 1, 2, none⟩ = some (.int .i64 b.g.holder) := HKB2.out.cell 2
    have ca3 : w2.cell? ⟨w.heap.size, 3, none⟩ = some (.string a.g.path) := HKA2.out.cell 3
    have cb3 : w2.cell? ⟨w.heap.size + 1, 3, none⟩ = some (.string b.g.path) := HKB2.out.cell 3
    have ca4 : w2.cell? ⟨w.heap.size, 4, none⟩ = some (.int .i64 a.g.mode) := HKA2.out.cell 4
    have cb4 : w2.cell? ⟨w.heap.size + 1, 4, none⟩ = some (.int .i64 b.g.mode) := HKB2.out.cell 4
    have ca5 : w2.cell? ⟨w.heap.size, 5, none⟩ = some (u) := HKA2.out.cell 5
    have cb5 : w2.cell? ⟨w.heap.size + 1, 5, none⟩ = some (v) := HKB2.out.cell 5
    have ca6 : w2.cell? ⟨w.heap.size, 6, none⟩ = some (.int .i64 a.g.term) := HKA2.out.cell 6
    have cb6 : w2.cell? ⟨w.heap.size + 1, 6, none⟩ = some (.int .i64 b.g.term) := HKB2.out.cell 6
    have ca7 : w2.cell? ⟨w.heap.size, 7, none⟩ = some (.int .i64 a.id) := HKA2.out.cell 7
    have cb7 : w2.cell? ⟨w.heap.size + 1, 7, none⟩ = some (.int .i64 a.id) := by rw [E2.out]; exact HKB2.out.cell 7
    have ca8 : w2.cell? ⟨w.heap.size, 8, none⟩ = some (u2) := HKA2.out.cell 8
    have cb8 : w2.cell? ⟨w.heap.size + 1, 8, none⟩ = some (v2) := HKB2.out.cell 8
    have ca9 : w2.cell? ⟨w.heap.size, 9, none⟩ = some (.int .i64 a.next) := HKA2.out.cell 9
    have cb9 : w2.cell? ⟨w.heap.size + 1, 9, none⟩ = some (.int .i64 b.next) := HKB2.out.cell 9
    rw [decide_eq_true E1.out]
    go_wp2_with fail
    refine (same_hd u2 v2 a.stamp b.stamp _ (HA.out _ HX2.out).st (HB.out _ HX2.out).st).mono ?_
    rintro x w4 ⟨rfl, hb⟩
    have HX4 := Lib.hid (below_on HX2.out hb)
    have HKA4 := Lib.hid ((Mod.of_below hb []).whole HKA2.out (by simp))
    have HKB4 := Lib.hid ((Mod.of_below hb []).whole HKB2.out (by simp))
    clear hb ca0 cb0 ca1 cb1 ca2 cb2 ca3 cb3 ca4 cb4 ca5 cb5 ca6 cb6 ca7 cb7 ca8 cb8 ca9 cb9
    have ca0 : w4.cell? ⟨w.heap.size, 0, none⟩ = some (.int .i64 a.kind) := HKA4.out.cell 0
    have cb0 : w4.cell? ⟨w.heap.size + 1, 0, none⟩ = some (.int .i64 a.kind) := by rw [E0.out]; exact HKB4.out.cell 0
    have ca1 : w4.cell? ⟨w.heap.size, 1, none⟩ = some (.int .i64 a.g.id) := HKA4.out.cell 1
    have cb1 : w4.cell? ⟨w.heap.size + 1, 1, none⟩ = some (.int .i64 b.g.id) := HKB4.out.cell 1
    have ca2 : w4.cell? ⟨w.heap.size, 2, none⟩ = some (.int .i64 a.g.holder) := HKA4.out.cell 2
    have cb2 : w4.cell? ⟨w.heap.size + 1, 2, none⟩ = some (.int .i64 b.g.holder) := HKB4.out.cell 2
    have ca3 : w4.cell? ⟨w.heap.size, 3, none⟩ = some (.string a.g.path) := HKA4.out.cell 3
    have cb3 : w4.cell? ⟨w.heap.size + 1, 3, none⟩ = some (.string b.g.path) := HKB4.out.cell 3
    have ca4 : w4.cell? ⟨w.heap.size, 4, none⟩ = some (.int .i64 a.g.mode) := HKA4.out.cell 4
    have cb4 : w4.cell? ⟨w.heap.size + 1, 4, none⟩ = some (.int .i64 b.g.mode) := HKB4.out.cell 4
    have ca5 : w4.cell? ⟨w.heap.size, 5, none⟩ = some (u) := HKA4.out.cell 5
    have cb5 : w4.cell? ⟨w.heap.size + 1, 5, none⟩ = some (v) := HKB4.out.cell 5
    have ca6 : w4.cell? ⟨w.heap.size, 6, none⟩ = some (.int .i64 a.g.term) := HKA4.out.cell 6
    have cb6 : w4.cell? ⟨w.heap.size + 1, 6, none⟩ = some (.int .i64 b.g.term) := HKB4.out.cell 6
    have ca7 : w4.cell? ⟨w.heap.size, 7, none⟩ = some (.int .i64 a.id) := HKA4.out.cell 7
    have cb7 : w4.cell? ⟨w.heap.size + 1, 7, none⟩ = some (.int .i64 a.id) := by rw [E2.out]; exact HKB4.out.cell 7
    have ca8 : w4.cell? ⟨w.heap.size, 8, none⟩ = some (u2) := HKA4.out.cell 8
    have cb8 : w4.cell? ⟨w.heap.size + 1, 8, none⟩ = some (v2) := HKB4.out.cell 8
    have ca9 : w4.cell? ⟨w.heap.size, 9, none⟩ = some (.int .i64 a.next) := HKA4.out.cell 9
    have cb9 : w4.cell? ⟨w.heap.size + 1, 9, none⟩ = some (.int .i64 b.next) := HKB4.out.cell 9
    rw [decide_eq_true E3.out]
    go_wp2_with fail
    go_ret
    exact bools (decide_eq_false HNE.out).symm HX4.out
  have E4 := Lib.hid e4
  by_cases e5 : a.boots = b.boots
  rotate_left
  · have hne := e5; clear e5
    have ca0 : ((w.alloc (.cells (twelve a u u2) 32)).alloc (.cells (twelve b v v2) 32)).cell? ⟨w.heap.size, 0, none⟩ = some (.int .i64 a.kind) := HKA.out.cell 0
    have cb0 : ((w.alloc (.cells (twelve a u u2) 32)).alloc (.cells (twelve b v v2) 32)).cell? ⟨w.heap.size + 1, 0, none⟩ = some (.int .i64 a.kind) := by rw [e0]; exact HKB.out.cell 0
    have ca1 : ((w.alloc (.cells (twelve a u u2) 32)).alloc (.cells (twelve b v v2) 32)).cell? ⟨w.heap.size, 1, none⟩ = some (.int .i64 a.g.id) := HKA.out.cell 1
    have cb1 : ((w.alloc (.cells (twelve a u u2) 32)).alloc (.cells (twelve b v v2) 32)).cell? ⟨w.heap.size + 1, 1, none⟩ = some (.int .i64 b.g.id) := HKB.out.cell 1
    have ca2 : ((w.alloc (.cells (twelve a u u2) 32)).alloc (.cells (twelve b v v2) 32)).cell? ⟨w.heap.size, 2, none⟩ = some (.int .i64 a.g.holder) := HKA.out.cell 2
    have cb2 : ((w.alloc (.cells (twelve a u u2) 32)).alloc (.cells (twelve b v v2) 32)).cell? ⟨w.heap.size + 1, 2, none⟩ = some (.int .i64 b.g.holder) := HKB.out.cell 2
    have ca3 : ((w.alloc (.cells (twelve a u u2) 32)).alloc (.cells (twelve b v v2) 32)).cell? ⟨w.heap.size, 3, none⟩ = some (.string a.g.path) := HKA.out.cell 3
    have cb3 : ((w.alloc (.cells (twelve a u u2) 32)).alloc (.cells (twelve b v v2) 32)).cell? ⟨w.heap.size + 1, 3, none⟩ = some (.string b.g.path) := HKB.out.cell 3
    have ca4 : ((w.alloc (.cells (twelve a u u2) 32)).alloc (.cells (twelve b v v2) 32)).cell? ⟨w.heap.size, 4, none⟩ = some (.int .i64 a.g.mode) := HKA.out.cell 4
    have cb4 : ((w.alloc (.cells (twelve a u u2) 32)).alloc (.cells (twelve b v v2) 32)).cell? ⟨w.heap.size + 1, 4, none⟩ = some (.int .i64 b.g.mode) := HKB.out.cell 4
    have ca5 : ((w.alloc (.cells (twelve a u u2) 32)).alloc (.cells (twelve b v v2) 32)).cell? ⟨w.heap.size, 5, none⟩ = some (u) := HKA.out.cell 5
    have cb5 : ((w.alloc (.cells (twelve a u u2) 32)).alloc (.cells (twelve b v v2) 32)).cell? ⟨w.heap.size + 1, 5, none⟩ = some (v) := HKB.out.cell 5
    have ca6 : ((w.alloc (.cells (twelve a u u2) 32)).alloc (.cells (twelve b v v2) 32)).cell? ⟨w.heap.size, 6, none⟩ = some (.int .i64 a.g.term) := HKA.out.cell 6
    have cb6 : ((w.alloc (.cells (twelve a u u2) 32)).alloc (.cells (twelve b v v2) 32)).cell? ⟨w.heap.size + 1, 6, none⟩ = some (.int .i64 b.g.term) := HKB.out.cell 6
    have ca7 : ((w.alloc (.cells (twelve a u u2) 32)).alloc (.cells (twelve b v v2) 32)).cell? ⟨w.heap.size, 7, none⟩ = some (.int .i64 a.id) := HKA.out.cell 7
    have cb7 : ((w.alloc (.cells (twelve a u u2) 32)).alloc (.cells (twelve b v v2) 32)).cell? ⟨w.heap.size + 1, 7, none⟩ = some (.int .i64 a.id) := by rw [e2]; exact HKB.out.cell 7
    have ca8 : ((w.alloc (.cells (twelve a u u2) 32)).alloc (.cells (twelve b v v2) 32)).cell? ⟨w.heap.size, 8, none⟩ = some (u2) := HKA.out.cell 8
    have cb8 : ((w.alloc (.cells (twelve a u u2) 32)).alloc (.cells (twelve b v v2) 32)).cell? ⟨w.heap.size + 1, 8, none⟩ = some (v2) := HKB.out.cell 8
    have ca9 : ((w.alloc (.cells (twelve a u u2) 32)).alloc (.cells (twelve b v v2) 32)).cell? ⟨w.heap.size, 9, none⟩ = some (.int .i64 a.next) := HKA.out.cell 9
    have cb9 : ((w.alloc (.cells (twelve a u u2) 32)).alloc (.cells (twelve b v v2) 32)).cell? ⟨w.heap.size + 1, 9, none⟩ = some (.int .i64 a.next) := by rw [e4]; exact HKB.out.cell 9
    have ca10 : ((w.alloc (.cells (twelve a u u2) 32)).alloc (.cells (twelve b v v2) 32)).cell? ⟨w.heap.size, 10, none⟩ = some (.int .i64 a.boots) := HKA.out.cell 10
    have cb10 : ((w.alloc (.cells (twelve a u u2) 32)).alloc (.cells (twelve b v v2) 32)).cell? ⟨w.heap.size + 1, 10, none⟩ = some (.int .i64 b.boots) := HKB.out.cell 10
    have hd1 : (a.boots == b.boots) = false := by simpa using hne
    have HNE := Lib.hid (show ¬ a = b from fun e => hne (by rw [e]))
    clear hne e0 e1 e2 e3 e4
    go_enter Try.func27, Try.ntmps27
    go_wp2_with fail
    refine (r_SameGrant u v a.g b.g _ (HA.out _ HX.out).g.hd (HB.out _ HX.out).g.hd).mono ?_
    rintro x w2 ⟨rfl, hb⟩
    have HX2 := Lib.hid (below_on HX.out hb)
    have HKA2 := Lib.hid ((Mod.of_below hb []).whole HKA.out (by simp))
    have HKB2 := Lib.hid ((Mod.of_below hb []).whole HKB.out (by simp))
    clear hb ca0 cb0 ca1 cb1 ca2 cb2 ca3 cb3 ca4 cb4 ca5 cb5 ca6 cb6 ca7 cb7 ca8 cb8 ca9 cb9 ca10 cb10
    have ca0 : w2.cell? ⟨w.heap.size, 0, none⟩ = some (.int .i64 a.kind) := HKA2.out.cell 0
    have cb0 : w2.cell? ⟨w.heap.size + 1, 0, none⟩ = some (.int .i64 a.kind) := by rw [E0.out]; exact HKB2.out.cell 0
    have ca1 : w2.cell? ⟨w.heap.size, 1, none⟩ = some (.int .i64 a.g.id) := HKA2.out.cell 1
    have cb1 : w2.cell? ⟨w.heap.size + 1, 1, none⟩ = some (.int .i64 b.g.id) := HKB2.out.cell 1
    have ca2 : w2.cell? ⟨w.heap.size, 2, none⟩ = some (.int .i64 a.g.holder) := HKA2.out.cell 2
    have cb2 : w2.cell? ⟨w.heap.size + 1, 2, none⟩ = some (.int .i64 b.g.holder) := HKB2.out.cell 2
    have ca3 : w2.cell? ⟨w.heap.size, 3, none⟩ = some (.string a.g.path) := HKA2.out.cell 3
    have cb3 : w2.cell? ⟨w.heap.size + 1, 3, none⟩ = some (.string b.g.path) := HKB2.out.cell 3
    have ca4 : w2.cell? ⟨w.heap.size, 4, none⟩ = some (.int .i64 a.g.mode) := HKA2.out.cell 4
    have cb4 : w2.cell? ⟨w.heap.size + 1, 4, none⟩ = some (.int .i64 b.g.mode) := HKB2.out.cell 4
    have ca5 : w2.cell? ⟨w.heap.size, 5, none⟩ = some (u) := HKA2.out.cell 5
    have cb5 : w2.cell? ⟨w.heap.size + 1, 5, none⟩ = some (v) := HKB2.out.cell 5
    have ca6 : w2.cell? ⟨w.heap.size, 6, none⟩ = some (.int .i64 a.g.term) := HKA2.out.cell 6
    have cb6 : w2.cell? ⟨w.heap.size + 1, 6, none⟩ = some (.int .i64 b.g.term) := HKB2.out.cell 6
    have ca7 : w2.cell? ⟨w.heap.size, 7, none⟩ = some (.int .i64 a.id) := HKA2.out.cell 7
    have cb7 : w2.cell? ⟨w.heap.size + 1, 7, none⟩ = some (.int .i64 a.id) := by rw [E2.out]; exact HKB2.out.cell 7
    have ca8 : w2.cell? ⟨w.heap.size, 8, none⟩ = some (u2) := HKA2.out.cell 8
    have cb8 : w2.cell? ⟨w.heap.size + 1, 8, none⟩ = some (v2) := HKB2.out.cell 8
    have ca9 : w2.cell? ⟨w.heap.size, 9, none⟩ = some (.int .i64 a.next) := HKA2.out.cell 9
    have cb9 : w2.cell? ⟨w.heap.size + 1, 9, none⟩ = some (.int .i64 a.next) := by rw [E4.out]; exact HKB2.out.cell 9
    have ca10 : w2.cell? ⟨w.heap.size, 10, none⟩ = some (.int .i64 a.boots) := HKA2.out.cell 10
    have cb10 : w2.cell? ⟨w.heap.size + 1, 10, none⟩ = some (.int .i64 b.boots) := HKB2.out.cell 10
    rw [decide_eq_true E1.out]
    go_wp2_with fail
    refine (same_hd u2 v2 a.stamp b.stamp _ (HA.out _ HX2.out).st (HB.out _ HX2.out).st).mono ?_
    rintro x w4 ⟨rfl, hb⟩
    have HX4 := Lib.hid (below_on HX2.out hb)
    have HKA4 := Lib.hid ((Mod.of_below hb []).whole HKA2.out (by simp))
    have HKB4 := Lib.hid ((Mod.of_below hb []).whole HKB2.out (by simp))
    clear hb ca0 cb0 ca1 cb1 ca2 cb2 ca3 cb3 ca4 cb4 ca5 cb5 ca6 cb6 ca7 cb7 ca8 cb8 ca9 cb9 ca10 cb10
    have ca0 : w4.cell? ⟨w.heap.size, 0, none⟩ = some (.int .i64 a.kind) := HKA4.out.cell 0
    have cb0 : w4.cell? ⟨w.heap.size + 1, 0, none⟩ = some (.int .i64 a.kind) := by rw [E0.out]; exact HKB4.out.cell 0
    have ca1 : w4.cell? ⟨w.heap.size, 1, none⟩ = some (.int .i64 a.g.id) := HKA4.out.cell 1
    have cb1 : w4.cell? ⟨w.heap.size + 1, 1, none⟩ = some (.int .i64 b.g.id) := HKB4.out.cell 1
    have ca2 : w4.cell? ⟨w.heap.size, 2, none⟩ = some (.int .i64 a.g.holder) := HKA4.out.cell 2
    have cb2 : w4.cell? ⟨w.heap.size + 1, 2, none⟩ = some (.int .i64 b.g.holder) := HKB4.out.cell 2
    have ca3 : w4.cell? ⟨w.heap.size, 3, none⟩ = some (.string a.g.path) := HKA4.out.cell 3
    have cb3 : w4.cell? ⟨w.heap.size + 1, 3, none⟩ = some (.string b.g.path) := HKB4.out.cell 3
    have ca4 : w4.cell? ⟨w.heap.size, 4, none⟩ = some (.int .i64 a.g.mode) := HKA4.out.cell 4
    have cb4 : w4.cell? ⟨w.heap.size + 1, 4, none⟩ = some (.int .i64 b.g.mode) := HKB4.out.cell 4
    have ca5 : w4.cell? ⟨w.heap.size, 5, none⟩ = some (u) := HKA4.out.cell 5
    have cb5 : w4.cell? ⟨w.heap.size + 1, 5, none⟩ = some (v) := HKB4.out.cell 5
    have ca6 : w4.cell? ⟨w.heap.size, 6, none⟩ = some (.int .i64 a.g.term) := HKA4.out.cell 6
    have cb6 : w4.cell? ⟨w.heap.size + 1, 6, none⟩ = some (.int .i64 b.g.term) := HKB4.out.cell 6
    have ca7 : w4.cell? ⟨w.heap.size, 7, none⟩ = some (.int .i64 a.id) := HKA4.out.cell 7
    have cb7 : w4.cell? ⟨w.heap.size + 1, 7, none⟩ = some (.int .i64 a.id) := by rw [E2.out]; exact HKB4.out.cell 7
    have ca8 : w4.cell? ⟨w.heap.size, 8, none⟩ = some (u2) := HKA4.out.cell 8
    have cb8 : w4.cell? ⟨w.heap.size + 1, 8, none⟩ = some (v2) := HKB4.out.cell 8
    have ca9 : w4.cell? ⟨w.heap.size, 9, none⟩ = some (.int .i64 a.next) := HKA4.out.cell 9
    have cb9 : w4.cell? ⟨w.heap.size + 1, 9, none⟩ = some (.int .i64 a.next) := by rw [E4.out]; exact HKB4.out.cell 9
    have ca10 : w4.cell? ⟨w.heap.size, 10, none⟩ = some (.int .i64 a.boots) := HKA4.out.cell 10
    have cb10 : w4.cell? ⟨w.heap.size + 1, 10, none⟩ = some (.int .i64 b.boots) := HKB4.out.cell 10
    rw [decide_eq_true E3.out]
    go_wp2_with fail
    go_ret
    exact bools (decide_eq_false HNE.out).symm HX4.out
  have E5 := Lib.hid e5
  by_cases e6 : a.longest = b.longest
  rotate_left
  · have hne := e6; clear e6
    have ca0 : ((w.alloc (.cells (twelve a u u2) 32)).alloc (.cells (twelve b v v2) 32)).cell? ⟨w.heap.size, 0, none⟩ = some (.int .i64 a.kind) := HKA.out.cell 0
    have cb0 : ((w.alloc (.cells (twelve a u u2) 32)).alloc (.cells (twelve b v v2) 32)).cell? ⟨w.heap.size + 1, 0, none⟩ = some (.int .i64 a.kind) := by rw [e0]; exact HKB.out.cell 0
    have ca1 : ((w.alloc (.cells (twelve a u u2) 32)).alloc (.cells (twelve b v v2) 32)).cell? ⟨w.heap.size, 1, none⟩ = some (.int .i64 a.g.id) := HKA.out.cell 1
    have cb1 : ((w.alloc (.cells (twelve a u u2) 32)).alloc (.cells (twelve b v v2) 32)).cell? ⟨w.heap.size + 1, 1, none⟩ = some (.int .i64 b.g.id) := HKB.out.cell 1
    have ca2 : ((w.alloc (.cells (twelve a u u2) 32)).alloc (.cells (twelve b v v2) 32)).cell? ⟨w.heap.size, 2, none⟩ = some (.int .i64 a.g.holder) := HKA.out.cell 2
    have cb2 : ((w.alloc (.cells (twelve a u u2) 32)).alloc (.cells (twelve b v v2) 32)).cell? ⟨w.heap.size + 1, 2, none⟩ = some (.int .i64 b.g.holder) := HKB.out.cell 2
    have ca3 : ((w.alloc (.cells (twelve a u u2) 32)).alloc (.cells (twelve b v v2) 32)).cell? ⟨w.heap.size, 3, none⟩ = some (.string a.g.path) := HKA.out.cell 3
    have cb3 : ((w.alloc (.cells (twelve a u u2) 32)).alloc (.cells (twelve b v v2) 32)).cell? ⟨w.heap.size + 1, 3, none⟩ = some (.string b.g.path) := HKB.out.cell 3
    have ca4 : ((w.alloc (.cells (twelve a u u2) 32)).alloc (.cells (twelve b v v2) 32)).cell? ⟨w.heap.size, 4, none⟩ = some (.int .i64 a.g.mode) := HKA.out.cell 4
    have cb4 : ((w.alloc (.cells (twelve a u u2) 32)).alloc (.cells (twelve b v v2) 32)).cell? ⟨w.heap.size + 1, 4, none⟩ = some (.int .i64 b.g.mode) := HKB.out.cell 4
    have ca5 : ((w.alloc (.cells (twelve a u u2) 32)).alloc (.cells (twelve b v v2) 32)).cell? ⟨w.heap.size, 5, none⟩ = some (u) := HKA.out.cell 5
    have cb5 : ((w.alloc (.cells (twelve a u u2) 32)).alloc (.cells (twelve b v v2) 32)).cell? ⟨w.heap.size + 1, 5, none⟩ = some (v) := HKB.out.cell 5
    have ca6 : ((w.alloc (.cells (twelve a u u2) 32)).alloc (.cells (twelve b v v2) 32)).cell? ⟨w.heap.size, 6, none⟩ = some (.int .i64 a.g.term) := HKA.out.cell 6
    have cb6 : ((w.alloc (.cells (twelve a u u2) 32)).alloc (.cells (twelve b v v2) 32)).cell? ⟨w.heap.size + 1, 6, none⟩ = some (.int .i64 b.g.term) := HKB.out.cell 6
    have ca7 : ((w.alloc (.cells (twelve a u u2) 32)).alloc (.cells (twelve b v v2) 32)).cell? ⟨w.heap.size, 7, none⟩ = some (.int .i64 a.id) := HKA.out.cell 7
    have cb7 : ((w.alloc (.cells (twelve a u u2) 32)).alloc (.cells (twelve b v v2) 32)).cell? ⟨w.heap.size + 1, 7, none⟩ = some (.int .i64 a.id) := by rw [e2]; exact HKB.out.cell 7
    have ca8 : ((w.alloc (.cells (twelve a u u2) 32)).alloc (.cells (twelve b v v2) 32)).cell? ⟨w.heap.size, 8, none⟩ = some (u2) := HKA.out.cell 8
    have cb8 : ((w.alloc (.cells (twelve a u u2) 32)).alloc (.cells (twelve b v v2) 32)).cell? ⟨w.heap.size + 1, 8, none⟩ = some (v2) := HKB.out.cell 8
    have ca9 : ((w.alloc (.cells (twelve a u u2) 32)).alloc (.cells (twelve b v v2) 32)).cell? ⟨w.heap.size, 9, none⟩ = some (.int .i64 a.next) := HKA.out.cell 9
    have cb9 : ((w.alloc (.cells (twelve a u u2) 32)).alloc (.cells (twelve b v v2) 32)).cell? ⟨w.heap.size + 1, 9, none⟩ = some (.int .i64 a.next) := by rw [e4]; exact HKB.out.cell 9
    have ca10 : ((w.alloc (.cells (twelve a u u2) 32)).alloc (.cells (twelve b v v2) 32)).cell? ⟨w.heap.size, 10, none⟩ = some (.int .i64 a.boots) := HKA.out.cell 10
    have cb10 : ((w.alloc (.cells (twelve a u u2) 32)).alloc (.cells (twelve b v v2) 32)).cell? ⟨w.heap.size + 1, 10, none⟩ = some (.int .i64 a.boots) := by rw [e5]; exact HKB.out.cell 10
    have ca11 : ((w.alloc (.cells (twelve a u u2) 32)).alloc (.cells (twelve b v v2) 32)).cell? ⟨w.heap.size, 11, none⟩ = some (.int .i64 a.longest) := HKA.out.cell 11
    have cb11 : ((w.alloc (.cells (twelve a u u2) 32)).alloc (.cells (twelve b v v2) 32)).cell? ⟨w.heap.size + 1, 11, none⟩ = some (.int .i64 b.longest) := HKB.out.cell 11
    have hd1 : (a.longest == b.longest) = false := by simpa using hne
    have HNE := Lib.hid (show ¬ a = b from fun e => hne (by rw [e]))
    clear hne e0 e1 e2 e3 e4 e5
    go_enter Try.func27, Try.ntmps27
    go_wp2_with fail
    refine (r_SameGrant u v a.g b.g _ (HA.out _ HX.out).g.hd (HB.out _ HX.out).g.hd).mono ?_
    rintro x w2 ⟨rfl, hb⟩
    have HX2 := Lib.hid (below_on HX.out hb)
    have HKA2 := Lib.hid ((Mod.of_below hb []).whole HKA.out (by simp))
    have HKB2 := Lib.hid ((Mod.of_below hb []).whole HKB.out (by simp))
    clear hb ca0 cb0 ca1 cb1 ca2 cb2 ca3 cb3 ca4 cb4 ca5 cb5 ca6 cb6 ca7 cb7 ca8 cb8 ca9 cb9 ca10 cb10 ca11 cb11
    have ca0 : w2.cell? ⟨w.heap.size, 0, none⟩ = some (.int .i64 a.kind) := HKA2.out.cell 0
    have cb0 : w2.cell? ⟨w.heap.size + 1, 0, none⟩ = some (.int .i64 a.kind) := by rw [E0.out]; exact HKB2.out.cell 0
    have ca1 : w2.cell? ⟨w.heap.size, 1, none⟩ = some (.int .i64 a.g.id) := HKA2.out.cell 1
    have cb1 : w2.cell? ⟨w.heap.size + 1, 1, none⟩ = some (.int .i64 b.g.id) := HKB2.out.cell 1
    have ca2 : w2.cell? ⟨w.heap.size, 2, none⟩ = some (.int .i64 a.g.holder) := HKA2.out.cell 2
    have cb2 : w2.cell? ⟨w.heap.size + 1, 2, none⟩ = some (.int .i64 b.g.holder) := HKB2.out.cell 2
    have ca3 : w2.cell? ⟨w.heap.size, 3, none⟩ = some (.string a.g.path) := HKA2.out.cell 3
    have cb3 : w2.cell? ⟨w.heap.size + 1, 3, none⟩ = some (.string b.g.path) := HKB2.out.cell 3
    have ca4 : w2.cell? ⟨w.heap.size, 4, none⟩ = some (.int .i64 a.g.mode) := HKA2.out.cell 4
    have cb4 : w2.cell? ⟨w.heap.size + 1, 4, none⟩ = some (.int .i64 b.g.mode) := HKB2.out.cell 4
    have ca5 : w2.cell? ⟨w.heap.size, 5, none⟩ = some (u) := HKA2.out.cell 5
    have cb5 : w2.cell? ⟨w.heap.size + 1, 5, none⟩ = some (v) := HKB2.out.cell 5
    have ca6 : w2.cell? ⟨w.heap.size, 6, none⟩ = some (.int .i64 a.g.term) := HKA2.out.cell 6
    have cb6 : w2.cell? ⟨w.heap.size + 1, 6, none⟩ = some (.int .i64 b.g.term) := HKB2.out.cell 6
    have ca7 : w2.cell? ⟨w.heap.size, 7, none⟩ = some (.int .i64 a.id) := HKA2.out.cell 7
    have cb7 : w2.cell? ⟨w.heap.size + 1, 7, none⟩ = some (.int .i64 a.id) := by rw [E2.out]; exact HKB2.out.cell 7
    have ca8 : w2.cell? ⟨w.heap.size, 8, none⟩ = some (u2) := HKA2.out.cell 8
    have cb8 : w2.cell? ⟨w.heap.size + 1, 8, none⟩ = some (v2) := HKB2.out.cell 8
    have ca9 : w2.cell? ⟨w.heap.size, 9, none⟩ = some (.int .i64 a.next) := HKA2.out.cell 9
    have cb9 : w2.cell? ⟨w.heap.size + 1, 9, none⟩ = some (.int .i64 a.next) := by rw [E4.out]; exact HKB2.out.cell 9
    have ca10 : w2.cell? ⟨w.heap.size, 10, none⟩ = some (.int .i64 a.boots) := HKA2.out.cell 10
    have cb10 : w2.cell? ⟨w.heap.size + 1, 10, none⟩ = some (.int .i64 a.boots) := by rw [E5.out]; exact HKB2.out.cell 10
    have ca11 : w2.cell? ⟨w.heap.size, 11, none⟩ = some (.int .i64 a.longest) := HKA2.out.cell 11
    have cb11 : w2.cell? ⟨w.heap.size + 1, 11, none⟩ = some (.int .i64 b.longest) := HKB2.out.cell 11
    rw [decide_eq_true E1.out]
    go_wp2_with fail
    refine (same_hd u2 v2 a.stamp b.stamp _ (HA.out _ HX2.out).st (HB.out _ HX2.out).st).mono ?_
    rintro x w4 ⟨rfl, hb⟩
    have HX4 := Lib.hid (below_on HX2.out hb)
    have HKA4 := Lib.hid ((Mod.of_below hb []).whole HKA2.out (by simp))
    have HKB4 := Lib.hid ((Mod.of_below hb []).whole HKB2.out (by simp))
    clear hb ca0 cb0 ca1 cb1 ca2 cb2 ca3 cb3 ca4 cb4 ca5 cb5 ca6 cb6 ca7 cb7 ca8 cb8 ca9 cb9 ca10 cb10 ca11 cb11
    have ca0 : w4.cell? ⟨w.heap.size, 0, none⟩ = some (.int .i64 a.kind) := HKA4.out.cell 0
    have cb0 : w4.cell? ⟨w.heap.size + 1, 0, none⟩ = some (.int .i64 a.kind) := by rw [E0.out]; exact HKB4.out.cell 0
    have ca1 : w4.cell? ⟨w.heap.size, 1, none⟩ = some (.int .i64 a.g.id) := HKA4.out.cell 1
    have cb1 : w4.cell? ⟨w.heap.size + 1, 1, none⟩ = some (.int .i64 b.g.id) := HKB4.out.cell 1
    have ca2 : w4.cell? ⟨w.heap.size, 2, none⟩ = some (.int .i64 a.g.holder) := HKA4.out.cell 2
    have cb2 : w4.cell? ⟨w.heap.size + 1, 2, none⟩ = some (.int .i64 b.g.holder) := HKB4.out.cell 2
    have ca3 : w4.cell? ⟨w.heap.size, 3, none⟩ = some (.string a.g.path) := HKA4.out.cell 3
    have cb3 : w4.cell? ⟨w.heap.size + 1, 3, none⟩ = some (.string b.g.path) := HKB4.out.cell 3
    have ca4 : w4.cell? ⟨w.heap.size, 4, none⟩ = some (.int .i64 a.g.mode) := HKA4.out.cell 4
    have cb4 : w4.cell? ⟨w.heap.size + 1, 4, none⟩ = some (.int .i64 b.g.mode) := HKB4.out.cell 4
    have ca5 : w4.cell? ⟨w.heap.size, 5, none⟩ = some (u) := HKA4.out.cell 5
    have cb5 : w4.cell? ⟨w.heap.size + 1, 5, none⟩ = some (v) := HKB4.out.cell 5
    have ca6 : w4.cell? ⟨w.heap.size, 6, none⟩ = some (.int .i64 a.g.term) := HKA4.out.cell 6
    have cb6 : w4.cell? ⟨w.heap.size + 1, 6, none⟩ = some (.int .i64 b.g.term) := HKB4.out.cell 6
    have ca7 : w4.cell? ⟨w.heap.size, 7, none⟩ = some (.int .i64 a.id) := HKA4.out.cell 7
    have cb7 : w4.cell? ⟨w.heap.size + 1, 7, none⟩ = some (.int .i64 a.id) := by rw [E2.out]; exact HKB4.out.cell 7
    have ca8 : w4.cell? ⟨w.heap.size, 8, none⟩ = some (u2) := HKA4.out.cell 8
    have cb8 : w4.cell? ⟨w.heap.size + 1, 8, none⟩ = some (v2) := HKB4.out.cell 8
    have ca9 : w4.cell? ⟨w.heap.size, 9, none⟩ = some (.int .i64 a.next) := HKA4.out.cell 9
    have cb9 : w4.cell? ⟨w.heap.size + 1, 9, none⟩ = some (.int .i64 a.next) := by rw [E4.out]; exact HKB4.out.cell 9
    have ca10 : w4.cell? ⟨w.heap.size, 10, none⟩ = some (.int .i64 a.boots) := HKA4.out.cell 10
    have cb10 : w4.cell? ⟨w.heap.size + 1, 10, none⟩ = some (.int .i64 a.boots) := by rw [E5.out]; exact HKB4.out.cell 10
    have ca11 : w4.cell? ⟨w.heap.size, 11, none⟩ = some (.int .i64 a.longest) := HKA4.out.cell 11
    have cb11 : w4.cell? ⟨w.heap.size + 1, 11, none⟩ = some (.int .i64 b.longest) := HKB4.out.cell 11
    rw [decide_eq_true E3.out]
    go_wp2_with fail
    go_ret
    exact bools (decide_eq_false HNE.out).symm HX4.out
  have E6 := Lib.hid e6
  have ca0 : ((w.alloc (.cells (twelve a u u2) 32)).alloc (.cells (twelve b v v2) 32)).cell? ⟨w.heap.size, 0, none⟩ = some (.int .i64 a.kind) := HKA.out.cell 0
  have cb0 : ((w.alloc (.cells (twelve a u u2) 32)).alloc (.cells (twelve b v v2) 32)).cell? ⟨w.heap.size + 1, 0, none⟩ = some (.int .i64 a.kind) := by rw [e0]; exact HKB.out.cell 0
  have ca1 : ((w.alloc (.cells (twelve a u u2) 32)).alloc (.cells (twelve b v v2) 32)).cell? ⟨w.heap.size, 1, none⟩ = some (.int .i64 a.g.id) := HKA.out.cell 1
  have cb1 : ((w.alloc (.cells (twelve a u u2) 32)).alloc (.cells (twelve b v v2) 32)).cell? ⟨w.heap.size + 1, 1, none⟩ = some (.int .i64 b.g.id) := HKB.out.cell 1
  have ca2 : ((w.alloc (.cells (twelve a u u2) 32)).alloc (.cells (twelve b v v2) 32)).cell? ⟨w.heap.size, 2, none⟩ = some (.int .i64 a.g.holder) := HKA.out.cell 2
  have cb2 : ((w.alloc (.cells (twelve a u u2) 32)).alloc (.cells (twelve b v v2) 32)).cell? ⟨w.heap.size + 1, 2, none⟩ = some (.int .i64 b.g.holder) := HKB.out.cell 2
  have ca3 : ((w.alloc (.cells (twelve a u u2) 32)).alloc (.cells (twelve b v v2) 32)).cell? ⟨w.heap.size, 3, none⟩ = some (.string a.g.path) := HKA.out.cell 3
  have cb3 : ((w.alloc (.cells (twelve a u u2) 32)).alloc (.cells (twelve b v v2) 32)).cell? ⟨w.heap.size + 1, 3, none⟩ = some (.string b.g.path) := HKB.out.cell 3
  have ca4 : ((w.alloc (.cells (twelve a u u2) 32)).alloc (.cells (twelve b v v2) 32)).cell? ⟨w.heap.size, 4, none⟩ = some (.int .i64 a.g.mode) := HKA.out.cell 4
  have cb4 : ((w.alloc (.cells (twelve a u u2) 32)).alloc (.cells (twelve b v v2) 32)).cell? ⟨w.heap.size + 1, 4, none⟩ = some (.int .i64 b.g.mode) := HKB.out.cell 4
  have ca5 : ((w.alloc (.cells (twelve a u u2) 32)).alloc (.cells (twelve b v v2) 32)).cell? ⟨w.heap.size, 5, none⟩ = some (u) := HKA.out.cell 5
  have cb5 : ((w.alloc (.cells (twelve a u u2) 32)).alloc (.cells (twelve b v v2) 32)).cell? ⟨w.heap.size + 1, 5, none⟩ = some (v) := HKB.out.cell 5
  have ca6 : ((w.alloc (.cells (twelve a u u2) 32)).alloc (.cells (twelve b v v2) 32)).cell? ⟨w.heap.size, 6, none⟩ = some (.int .i64 a.g.term) := HKA.out.cell 6
  have cb6 : ((w.alloc (.cells (twelve a u u2) 32)).alloc (.cells (twelve b v v2) 32)).cell? ⟨w.heap.size + 1, 6, none⟩ = some (.int .i64 b.g.term) := HKB.out.cell 6
  have ca7 : ((w.alloc (.cells (twelve a u u2) 32)).alloc (.cells (twelve b v v2) 32)).cell? ⟨w.heap.size, 7, none⟩ = some (.int .i64 a.id) := HKA.out.cell 7
  have cb7 : ((w.alloc (.cells (twelve a u u2) 32)).alloc (.cells (twelve b v v2) 32)).cell? ⟨w.heap.size + 1, 7, none⟩ = some (.int .i64 a.id) := by rw [e2]; exact HKB.out.cell 7
  have ca8 : ((w.alloc (.cells (twelve a u u2) 32)).alloc (.cells (twelve b v v2) 32)).cell? ⟨w.heap.size, 8, none⟩ = some (u2) := HKA.out.cell 8
  have cb8 : ((w.alloc (.cells (twelve a u u2) 32)).alloc (.cells (twelve b v v2) 32)).cell? ⟨w.heap.size + 1, 8, none⟩ = some (v2) := HKB.out.cell 8
  have ca9 : ((w.alloc (.cells (twelve a u u2) 32)).alloc (.cells (twelve b v v2) 32)).cell? ⟨w.heap.size, 9, none⟩ = some (.int .i64 a.next) := HKA.out.cell 9
  have cb9 : ((w.alloc (.cells (twelve a u u2) 32)).alloc (.cells (twelve b v v2) 32)).cell? ⟨w.heap.size + 1, 9, none⟩ = some (.int .i64 a.next) := by rw [e4]; exact HKB.out.cell 9
  have ca10 : ((w.alloc (.cells (twelve a u u2) 32)).alloc (.cells (twelve b v v2) 32)).cell? ⟨w.heap.size, 10, none⟩ = some (.int .i64 a.boots) := HKA.out.cell 10
  have cb10 : ((w.alloc (.cells (twelve a u u2) 32)).alloc (.cells (twelve b v v2) 32)).cell? ⟨w.heap.size + 1, 10, none⟩ = some (.int .i64 a.boots) := by rw [e5]; exact HKB.out.cell 10
  have ca11 : ((w.alloc (.cells (twelve a u u2) 32)).alloc (.cells (twelve b v v2) 32)).cell? ⟨w.heap.size, 11, none⟩ = some (.int .i64 a.longest) := HKA.out.cell 11
  have cb11 : ((w.alloc (.cells (twelve a u u2) 32)).alloc (.cells (twelve b v v2) 32)).cell? ⟨w.heap.size + 1, 11, none⟩ = some (.int .i64 a.longest) := by rw [e6]; exact HKB.out.cell 11
  have HEQ := Lib.hid (show a = b from rc_eq e0 e1 e2 e3 e4 e5 e6)
  clear e0 e1 e2 e3 e4 e5 e6
  go_enter Try.func27, Try.ntmps27
  go_wp2_with fail
  refine (r_SameGrant u v a.g b.g _ (HA.out _ HX.out).g.hd (HB.out _ HX.out).g.hd).mono ?_
  rintro x w2 ⟨rfl, hb⟩
  have HX2 := Lib.hid (below_on HX.out hb)
  have HKA2 := Lib.hid ((Mod.of_below hb []).whole HKA.out (by simp))
  have HKB2 := Lib.hid ((Mod.of_below hb []).whole HKB.out (by simp))
  clear hb ca0 cb0 ca1 cb1 ca2 cb2 ca3 cb3 ca4 cb4 ca5 cb5 ca6 cb6 ca7 cb7 ca8 cb8 ca9 cb9 ca10 cb10 ca11 cb11
  have ca0 : w2.cell? ⟨w.heap.size, 0, none⟩ = some (.int .i64 a.kind) := HKA2.out.cell 0
  have cb0 : w2.cell? ⟨w.heap.size + 1, 0, none⟩ = some (.int .i64 a.kind) := by rw [E0.out]; exact HKB2.out.cell 0
  have ca1 : w2.cell? ⟨w.heap.size, 1, none⟩ = some (.int .i64 a.g.id) := HKA2.out.cell 1
  have cb1 : w2.cell? ⟨w.heap.size + 1, 1, none⟩ = some (.int .i64 b.g.id) := HKB2.out.cell 1
  have ca2 : w2.cell? ⟨w.heap.size, 2, none⟩ = some (.int .i64 a.g.holder) := HKA2.out.cell 2
  have cb2 : w2.cell? ⟨w.heap.size + 1, 2, none⟩ = some (.int .i64 b.g.holder) := HKB2.out.cell 2
  have ca3 : w2.cell? ⟨w.heap.size, 3, none⟩ = some (.string a.g.path) := HKA2.out.cell 3
  have cb3 : w2.cell? ⟨w.heap.size + 1, 3, none⟩ = some (.string b.g.path) := HKB2.out.cell 3
  have ca4 : w2.cell? ⟨w.heap.size, 4, none⟩ = some (.int .i64 a.g.mode) := HKA2.out.cell 4
  have cb4 : w2.cell? ⟨w.heap.size + 1, 4, none⟩ = some (.int .i64 b.g.mode) := HKB2.out.cell 4
  have ca5 : w2.cell? ⟨w.heap.size, 5, none⟩ = some (u) := HKA2.out.cell 5
  have cb5 : w2.cell? ⟨w.heap.size + 1, 5, none⟩ = some (v) := HKB2.out.cell 5
  have ca6 : w2.cell? ⟨w.heap.size, 6, none⟩ = some (.int .i64 a.g.term) := HKA2.out.cell 6
  have cb6 : w2.cell? ⟨w.heap.size + 1, 6, none⟩ = some (.int .i64 b.g.term) := HKB2.out.cell 6
  have ca7 : w2.cell? ⟨w.heap.size, 7, none⟩ = some (.int .i64 a.id) := HKA2.out.cell 7
  have cb7 : w2.cell? ⟨w.heap.size + 1, 7, none⟩ = some (.int .i64 a.id) := by rw [E2.out]; exact HKB2.out.cell 7
  have ca8 : w2.cell? ⟨w.heap.size, 8, none⟩ = some (u2) := HKA2.out.cell 8
  have cb8 : w2.cell? ⟨w.heap.size + 1, 8, none⟩ = some (v2) := HKB2.out.cell 8
  have ca9 : w2.cell? ⟨w.heap.size, 9, none⟩ = some (.int .i64 a.next) := HKA2.out.cell 9
  have cb9 : w2.cell? ⟨w.heap.size + 1, 9, none⟩ = some (.int .i64 a.next) := by rw [E4.out]; exact HKB2.out.cell 9
  have ca10 : w2.cell? ⟨w.heap.size, 10, none⟩ = some (.int .i64 a.boots) := HKA2.out.cell 10
  have cb10 : w2.cell? ⟨w.heap.size + 1, 10, none⟩ = some (.int .i64 a.boots) := by rw [E5.out]; exact HKB2.out.cell 10
  have ca11 : w2.cell? ⟨w.heap.size, 11, none⟩ = some (.int .i64 a.longest) := HKA2.out.cell 11
  have cb11 : w2.cell? ⟨w.heap.size + 1, 11, none⟩ = some (.int .i64 a.longest) := by rw [E6.out]; exact HKB2.out.cell 11
  rw [decide_eq_true E1.out]
  go_wp2_with fail
  refine (same_hd u2 v2 a.stamp b.stamp _ (HA.out _ HX2.out).st (HB.out _ HX2.out).st).mono ?_
  rintro x w4 ⟨rfl, hb⟩
  have HX4 := Lib.hid (below_on HX2.out hb)
  have HKA4 := Lib.hid ((Mod.of_below hb []).whole HKA2.out (by simp))
  have HKB4 := Lib.hid ((Mod.of_below hb []).whole HKB2.out (by simp))
  clear hb ca0 cb0 ca1 cb1 ca2 cb2 ca3 cb3 ca4 cb4 ca5 cb5 ca6 cb6 ca7 cb7 ca8 cb8 ca9 cb9 ca10 cb10 ca11 cb11
  have ca0 : w4.cell? ⟨w.heap.size, 0, none⟩ = some (.int .i64 a.kind) := HKA4.out.cell 0
  have cb0 : w4.cell? ⟨w.heap.size + 1, 0, none⟩ = some (.int .i64 a.kind) := by rw [E0.out]; exact HKB4.out.cell 0
  have ca1 : w4.cell? ⟨w.heap.size, 1, none⟩ = some (.int .i64 a.g.id) := HKA4.out.cell 1
  have cb1 : w4.cell? ⟨w.heap.size + 1, 1, none⟩ = some (.int .i64 b.g.id) := HKB4.out.cell 1
  have ca2 : w4.cell? ⟨w.heap.size, 2, none⟩ = some (.int .i64 a.g.holder) := HKA4.out.cell 2
  have cb2 : w4.cell? ⟨w.heap.size + 1, 2, none⟩ = some (.int .i64 b.g.holder) := HKB4.out.cell 2
  have ca3 : w4.cell? ⟨w.heap.size, 3, none⟩ = some (.string a.g.path) := HKA4.out.cell 3
  have cb3 : w4.cell? ⟨w.heap.size + 1, 3, none⟩ = some (.string b.g.path) := HKB4.out.cell 3
  have ca4 : w4.cell? ⟨w.heap.size, 4, none⟩ = some (.int .i64 a.g.mode) := HKA4.out.cell 4
  have cb4 : w4.cell? ⟨w.heap.size + 1, 4, none⟩ = some (.int .i64 b.g.mode) := HKB4.out.cell 4
  have ca5 : w4.cell? ⟨w.heap.size, 5, none⟩ = some (u) := HKA4.out.cell 5
  have cb5 : w4.cell? ⟨w.heap.size + 1, 5, none⟩ = some (v) := HKB4.out.cell 5
  have ca6 : w4.cell? ⟨w.heap.size, 6, none⟩ = some (.int .i64 a.g.term) := HKA4.out.cell 6
  have cb6 : w4.cell? ⟨w.heap.size + 1, 6, none⟩ = some (.int .i64 b.g.term) := HKB4.out.cell 6
  have ca7 : w4.cell? ⟨w.heap.size, 7, none⟩ = some (.int .i64 a.id) := HKA4.out.cell 7
  have cb7 : w4.cell? ⟨w.heap.size + 1, 7, none⟩ = some (.int .i64 a.id) := by rw [E2.out]; exact HKB4.out.cell 7
  have ca8 : w4.cell? ⟨w.heap.size, 8, none⟩ = some (u2) := HKA4.out.cell 8
  have cb8 : w4.cell? ⟨w.heap.size + 1, 8, none⟩ = some (v2) := HKB4.out.cell 8
  have ca9 : w4.cell? ⟨w.heap.size, 9, none⟩ = some (.int .i64 a.next) := HKA4.out.cell 9
  have cb9 : w4.cell? ⟨w.heap.size + 1, 9, none⟩ = some (.int .i64 a.next) := by rw [E4.out]; exact HKB4.out.cell 9
  have ca10 : w4.cell? ⟨w.heap.size, 10, none⟩ = some (.int .i64 a.boots) := HKA4.out.cell 10
  have cb10 : w4.cell? ⟨w.heap.size + 1, 10, none⟩ = some (.int .i64 a.boots) := by rw [E5.out]; exact HKB4.out.cell 10
  have ca11 : w4.cell? ⟨w.heap.size, 11, none⟩ = some (.int .i64 a.longest) := HKA4.out.cell 11
  have cb11 : w4.cell? ⟨w.heap.size + 1, 11, none⟩ = some (.int .i64 a.longest) := by rw [E6.out]; exact HKB4.out.cell 11
  rw [decide_eq_true E3.out]
  go_wp2_with fail
  go_ret
  exact bools (decide_eq_true HEQ.out).symm HX4.out
end Go.Proofs.Ytdegamlnkleddaa
