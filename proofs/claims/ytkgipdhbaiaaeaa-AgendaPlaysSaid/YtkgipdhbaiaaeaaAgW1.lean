/- The order of items: cmp.Compare, cmp.Or, the package's compare. -/
import Derived.Test.YtkgipdhbaiaaeaaAgMem
import Derived.StillTailTactics
import Derived.Sort.Grow
namespace Go.Proofs.Ytkgipdhbaiaaeaa
open Go.RowKit
open AM (It HS g sw)
open Go.Sort
set_option linter.unusedVariables false
set_option linter.unusedSimpArgs false
set_option maxRecDepth 100000
set_option maxHeartbeats 1000000 in
theorem nan_int (x : Int) (w : World) : Calls Try.prog 46 #[.int .i64 x] w fun e w' => e = .returned (.bool false) ∧ w' = w := by
  go_enter Try.func46, Try.ntmps46
  go_wp2_with fail
  go_ret
  exact ⟨rfl, rfl⟩
set_option maxHeartbeats 1000000 in
theorem nan_kind (x : Int) (w : World) : Calls Try.prog 47 #[.int .i64 x] w fun e w' => e = .returned (.bool false) ∧ w' = w := by
  go_enter Try.func47, Try.ntmps47
  go_wp2_with fail
  go_ret
  exact ⟨rfl, rfl⟩
set_option maxHeartbeats 1000000 in
theorem Compare_int (x y : Int) (w : World) : Calls Try.prog 41 #[.int .i64 x, .int .i64 y] w fun e w' => e = .returned (.int .i64 (AM.c1 x y)) ∧ w' = w := by
  unfold AM.c1
  by_cases h : x < y
  · rw [if_pos h]
    go_enter Try.func41, Try.ntmps41
    go_wp2_with fail
    refine (nan_int _ _).mono ?_
    rintro e w1 ⟨rfl, rfl⟩
    go_wp2_with fail
    refine (nan_int _ _).mono ?_
    rintro e w1 ⟨rfl, rfl⟩
    go_wp2_with fail
    go_ret
    exact ⟨rfl, rfl⟩
  · rw [if_neg h]
    by_cases k : y < x
    · rw [if_pos k]
      go_enter Try.func41, Try.ntmps41
      go_wp2_with fail
      refine (nan_int _ _).mono ?_
      rintro e w1 ⟨rfl, rfl⟩
      go_wp2_with fail
      refine (nan_int _ _).mono ?_
      rintro e w1 ⟨rfl, rfl⟩
      go_wp2_with fail
      go_ret
      exact ⟨rfl, rfl⟩
    · rw [if_neg k]
      go_enter Try.func41, Try.ntmps41
      go_wp2_with fail
      refine (nan_int _ _).mono ?_
      rintro e w1 ⟨rfl, rfl⟩
      go_wp2_with fail
      refine (nan_int _ _).mono ?_
      rintro e w1 ⟨rfl, rfl⟩
      go_wp2_with fail
      go_ret
      exact ⟨rfl, rfl⟩
set_option maxHeartbeats 1000000 in
theorem Compare_kind (x y : Int) (w : World) : Calls Try.prog 42 #[.int .i64 x, .int .i64 y] w fun e w' => e = .returned (.int .i64 (AM.c1 x y)) ∧ w' = w := by
  unfold AM.c1
  by_cases h : x < y
  · rw [if_pos h]
    go_enter Try.func42, Try.ntmps42
    go_wp2_with fail
    refine (nan_kind _ _).mono ?_
    rintro e w1 ⟨rfl, rfl⟩
    go_wp2_with fail
    refine (nan_kind _ _).mono ?_
    rintro e w1 ⟨rfl, rfl⟩
    go_wp2_with fail
    go_ret
    exact ⟨rfl, rfl⟩
  · rw [if_neg h]
    by_cases k : y < x
    · rw [if_pos k]
      go_enter Try.func42, Try.ntmps42
      go_wp2_with fail
      refine (nan_kind _ _).mono ?_
      rintro e w1 ⟨rfl, rfl⟩
      go_wp2_with fail
      refine (nan_kind _ _).mono ?_
      rintro e w1 ⟨rfl, rfl⟩
      go_wp2_with fail
      go_ret
      exact ⟨rfl, rfl⟩
    · rw [if_neg k]
      go_enter Try.func42, Try.ntmps42
      go_wp2_with fail
      refine (nan_kind _ _).mono ?_
      rintro e w1 ⟨rfl, rfl⟩
      go_wp2_with fail
      refine (nan_kind _ _).mono ?_
      rintro e w1 ⟨rfl, rfl⟩
      go_wp2_with fail
      go_ret
      exact ⟨rfl, rfl⟩
set_option maxHeartbeats 1000000 in
/-- The first of three numbers that is not 0. -/
theorem Or_three (x y z : Int) (b : Nat) (w : World) (c0 : w.cell? ⟨b, 0, none⟩ = some (.int .i64 x)) (c1 : w.cell? ⟨b, 1, none⟩ = some (.int .i64 y)) (c2 : w.cell? ⟨b, 2, none⟩ = some (.int .i64 z)) :
    Calls Try.prog 40 #[.slice (some ⟨b, 0, none⟩) 3 3] w fun e w' => e = .returned (.int .i64 (if x ≠ 0 then x else if y ≠ 0 then y else z)) ∧ w' = w := by
  by_cases hx : x = 0
  · subst hx
    rw [if_neg (by simp)]
    by_cases hy : y = 0
    · subst hy
      rw [if_neg (by simp)]
      by_cases hz : z = 0
      · subst hz
        go_enter Try.func40, Try.ntmps40
        go_wp2_with fail
        refine wp_loop_rounds 4 ?_
        rw [rounds_succ]
        go_wp2
        rw [rounds_succ]
        go_wp2
        rw [rounds_succ]
        go_wp2
        rw [rounds_succ]
        go_wp2
        go_ret
        exact ⟨rfl, rfl⟩
      · go_enter Try.func40, Try.ntmps40
        go_wp2_with fail
        refine wp_loop_rounds 4 ?_
        rw [rounds_succ]
        go_wp2
        rw [rounds_succ]
        go_wp2
        rw [rounds_succ]
        go_wp2
        go_ret
        exact ⟨rfl, rfl⟩
    · rw [if_pos hy]
      go_enter Try.func40, Try.ntmps40
      go_wp2_with fail
      refine wp_loop_rounds 3 ?_
      rw [rounds_succ]
      go_wp2
      rw [rounds_succ]
      go_wp2
      go_ret
      exact ⟨rfl, rfl⟩
  · rw [if_pos hx]
    go_enter Try.func40, Try.ntmps40
    go_wp2_with fail
    refine wp_loop_rounds 3 ?_
    rw [rounds_succ]
    go_wp2
    go_ret
    exact ⟨rfl, rfl⟩
def agg (x : It) : Value := .agg #[.int .i64 x.due, .int .i64 x.kind, .int .i64 x.key]
set_option maxHeartbeats 1000000 in
theorem compare_any (a b : It) (w : World) : Calls Try.prog 32 #[agg a, agg b] w fun e w' => e = .returned (.int .i64 (AM.cf a b)) ∧ ∃ q os', w' = grow (w.drewN q) os' := by
  obtain ⟨z, hz⟩ : ∃ z, AM.cf a b = z := ⟨_, rfl⟩
  rw [hz]
  have HZ := Lib.hid hz
  clear hz
  unfold agg
  go_enter Try.func32, Try.ntmps32
  go_wp2_with fail
  obtain ⟨W, hW⟩ : ∃ W, (w.alloc (.cells #[.int .i64 a.due, .int .i64 a.kind, .int .i64 a.key] 29)).alloc (.cells #[.int .i64 b.due, .int .i64 b.kind, .int .i64 b.key] 29) = W := ⟨_, rfl⟩
  have a0 : W.cell? ⟨w.heap.size, 0, none⟩ = some (.int .i64 a.due) := by subst hW; go_simp
  have a1 : W.cell? ⟨w.heap.size, 1, none⟩ = some (.int .i64 a.kind) := by subst hW; go_simp
  have a2 : W.cell? ⟨w.heap.size, 2, none⟩ = some (.int .i64 a.key) := by subst hW; go_simp
  have b0 : W.cell? ⟨w.heap.size + 1, 0, none⟩ = some (.int .i64 b.due) := by subst hW; go_simp
  have b1 : W.cell? ⟨w.heap.size + 1, 1, none⟩ = some (.int .i64 b.kind) := by subst hW; go_simp
  have b2 : W.cell? ⟨w.heap.size + 1, 2, none⟩ = some (.int .i64 b.key) := by subst hW; go_simp
  have HW := Lib.hid hW
  rw [hW]
  clear hW
  go_still_tail 15, (by kernel_rfl)
  still_call (Compare_int _ _ _)
  repeat still_step
  still_call (Compare_kind _ _ _)
  repeat still_step
  still_call (Compare_int _ _ _)
  repeat still_step
  refine wpStill_nil ?_
  change wpList _ _ _ _ _ W.drew
  have HO := Lib.hid (Or_three (AM.c1 a.due b.due) (AM.c1 a.kind b.kind) (AM.c1 a.key b.key) W.drew.heap.size (W.drew.alloc (.cells #[.int .i64 (AM.c1 a.due b.due), .int .i64 (AM.c1 a.kind b.kind), .int .i64 (AM.c1 a.key b.key)] 3)) (by go_simp) (by go_simp) (by go_simp))
  have hz2 : (if AM.c1 a.due b.due ≠ 0 then AM.c1 a.due b.due else if AM.c1 a.kind b.kind ≠ 0 then AM.c1 a.kind b.kind else AM.c1 a.key b.key) = z := HZ.out
  rw [hz2] at HO
  clear HZ hz2
  have HD := Lib.hid (show ∃ q os', W.drew.alloc (.cells #[.int .i64 (AM.c1 a.due b.due), .int .i64 (AM.c1 a.kind b.kind), .int .i64 (AM.c1 a.key b.key)] 3) = grow (w.drewN q) os' by
    refine ⟨1, #[.cells #[.int .i64 a.due, .int .i64 a.kind, .int .i64 a.key] 29] ++ #[.cells #[.int .i64 b.due, .int .i64 b.kind, .int .i64 b.key] 29] ++ #[.cells #[.int .i64 (AM.c1 a.due b.due), .int .i64 (AM.c1 a.kind b.kind), .int .i64 (AM.c1 a.key b.key)] 3], ?_⟩
    rw [← HW.out, alloc_eq_grow, alloc_eq_grow, alloc_eq_grow, ← grow_grow, ← grow_grow]
    rfl)
  clear a0 a1 a2 b0 b1 b2 HW
  generalize AM.c1 a.due b.due = x at *
  generalize AM.c1 a.kind b.kind = y at *
  generalize AM.c1 a.key b.key = t at *
  generalize W.drew = W2 at *
  go_wp2_with fail
  refine HO.out.mono ?_
  rintro e w3 ⟨rfl, rfl⟩
  go_wp2_with fail
  go_ret
  exact ⟨rfl, HD.out⟩
theorem grow_below (w : World) (q : Nat) (os : Array Obj) : Below w.heap.size w (grow (w.drewN q) os) := by
  refine ⟨rfl, by simp [grow, World.drewN], rfl, by simp, fun k hk => ?_⟩
  rw [heap_grow_old _ _ (by simpa using hk)]
  simp
end Go.Proofs.Ytkgipdhbaiaaeaa
