/- The package's List: which of two entries stands first, as the library's sort is told it. -/
import Derived.Test.YtpfljooceppcbaaDoorPtVals
import Derived.Test.YtpfljooceppcbaaDoorShelf2
import Derived.StillTailTactics
namespace Go.Proofs.YtpfljooceppcbaaDoor
open Go.RowKit
open SE (Ent)
open Go.Sort Go.Shelf
set_option linter.unusedVariables false
set_option maxRecDepth 100000
set_option maxHeartbeats 1000000 in
/-- The first of two numbers that is not 0. -/
theorem Or_two (x y : Int) (b : Nat) (w : World) (c0 : w.cell? ⟨b, 0, none⟩ = some (.int .i64 x)) (c1 : w.cell? ⟨b, 1, none⟩ = some (.int .i64 y)) :
    Calls Tryd.prog 25 #[.slice (some ⟨b, 0, none⟩) 2 2] w fun e w' => e = .returned (.int .i64 (if x ≠ 0 then x else y)) ∧ w' = w := by
  by_cases hx : x = 0
  · subst hx
    by_cases hy : y = 0
    · subst hy
      go_enter Tryd.func25, Tryd.ntmps25
      go_wp2_with fail
      refine wp_loop_rounds 3 ?_
      rw [rounds_succ]
      go_wp2
      rw [rounds_succ]
      go_wp2
      rw [rounds_succ]
      go_wp2
      go_ret
      exact ⟨rfl, rfl⟩
    · rw [if_neg (by simp)]
      go_enter Tryd.func25, Tryd.ntmps25
      go_wp2_with fail
      refine wp_loop_rounds 3 ?_
      rw [rounds_succ]
      go_wp2
      rw [rounds_succ]
      go_wp2
      go_ret
      exact ⟨rfl, rfl⟩
  · rw [if_pos hx]
    go_enter Tryd.func25, Tryd.ntmps25
    go_wp2_with fail
    refine wp_loop_rounds 3 ?_
    rw [rounds_succ]
    go_wp2
    go_ret
    exact ⟨rfl, rfl⟩
def cfE (a b : Ent) : Int := if PM.cmp (SE.p a) (SE.p b) ≠ 0 then PM.cmp (SE.p a) (SE.p b) else Lib.compareInt a.id b.id
set_option maxHeartbeats 1000000 in
theorem less_any (a b : Ent) (w : World) : Calls Tryd.prog 24 #[agg a, agg b] w fun e w' => e = .returned (.int .i64 (cfE a b)) ∧ ∃ q os', w' = grow (w.drewN q) os' := by
  have HC := Lib.hid (fun w => (Compare_any a.path b.path w).mono (R' := fun e w' => e = .returned (.int .i64 (PM.cmp (SE.p a) (SE.p b))) ∧ w' = w) (fun e w' h => ⟨h.1, h.2.symm⟩))
  unfold cfE agg
  generalize PM.cmp (SE.p a) (SE.p b) = c at *
  obtain ⟨z, hz⟩ : ∃ z, (if c ≠ 0 then c else Lib.compareInt a.id b.id) = z := ⟨_, rfl⟩
  rw [hz]
  have HZ := Lib.hid hz
  clear hz
  go_enter Tryd.func24, Tryd.ntmps24
  go_wp2_with fail
  obtain ⟨W, hW⟩ : ∃ W, (w.alloc (.cells #[.int .i64 a.id, .string a.path, .int .i64 a.mode, .int .i64 a.who] 25)).alloc (.cells #[.int .i64 b.id, .string b.path, .int .i64 b.mode, .int .i64 b.who] 25) = W := ⟨_, rfl⟩
  have a0 : W.cell? ⟨w.heap.size, 0, none⟩ = some (.int .i64 a.id) := by subst hW; go_simp
  have a1 : W.cell? ⟨w.heap.size, 1, none⟩ = some (.string a.path) := by subst hW; go_simp
  have b0 : W.cell? ⟨w.heap.size + 1, 0, none⟩ = some (.int .i64 b.id) := by subst hW; go_simp
  have b1 : W.cell? ⟨w.heap.size + 1, 1, none⟩ = some (.string b.path) := by subst hW; go_simp
  have HW := Lib.hid hW
  rw [hW]
  clear hW
  go_still_tail 10, (by kernel_rfl)
  still_call (HC.out _)
  repeat still_step
  still_call (Tryd.cmp_Compare_int _ _ _)
  repeat still_step
  refine wpStill_nil ?_
  change wpList _ _ _ _ _ W.drew
  have HO := Lib.hid (Or_two c (Lib.compareInt a.id b.id) W.drew.heap.size (W.drew.alloc (.cells #[.int .i64 c, .int .i64 (Lib.compareInt a.id b.id)] 3)) (by go_simp) (by go_simp))
  rw [HZ.out] at HO
  clear HZ
  have HD := Lib.hid (show ∃ q os', W.drew.alloc (.cells #[.int .i64 c, .int .i64 (Lib.compareInt a.id b.id)] 3) = grow (w.drewN q) os' by
    refine ⟨1, #[.cells #[.int .i64 a.id, .string a.path, .int .i64 a.mode, .int .i64 a.who] 25] ++ #[.cells #[.int .i64 b.id, .string b.path, .int .i64 b.mode, .int .i64 b.who] 25] ++ #[.cells #[.int .i64 c, .int .i64 (Lib.compareInt a.id b.id)] 3], ?_⟩
    rw [← HW.out, alloc_eq_grow, alloc_eq_grow, alloc_eq_grow, ← grow_grow, ← grow_grow]
    rfl)
  clear a0 a1 b0 b1 HW HC
  generalize W.drew = W2 at *
  go_wp2_with fail
  refine HO.out.mono ?_
  rintro e w3 ⟨rfl, rfl⟩
  go_wp2_with fail
  go_ret
  exact ⟨rfl, HD.out⟩
end Go.Proofs.YtpfljooceppcbaaDoor
