/- How products are compared; whether a clock keeps within a drift: the package and the document. -/
import Derived.Test.YtbcpphckjfbkbaaTermW3
import Derived.Laws.StructEq
namespace Go.Proofs.Ytbcpphckjfbkbaa.Tm
open Go.RowKit Go.Lib Go.Shelf Go.Sort
theorem le_same {a b c d : Int} (h1 : a = c) (h2 : b = d) : true = decide (a < c ∨ a = c ∧ b ≤ d) := by
  rw [h1, h2]; simp
theorem le_less {a b c d : Int} (h : ¬ (a = c ∧ b = d)) : decide (a < c ∨ a = c ∧ b < d) = decide (a < c ∨ a = c ∧ b ≤ d) :=
  decide_eq_decide.2 (by omega)
set_option maxHeartbeats 400000 in
theorem upTo_any (a b c d : Int) (w : World) :
    Calls Try.prog 28 #[.agg #[.int .u64 a, .int .u64 b], .agg #[.int .u64 c, .int .u64 d]] w fun e w' => e = .returned (.bool (decide (a < c ∨ a = c ∧ b ≤ d))) ∧ Up w w' := by
  by_cases hs : a = c
  · subst hs
    by_cases ht : b = d
    · subst ht
      go_enter Try.func28, Try.ntmps28
      go_wp2_with fail
      go_ret
      exact ⟨ret_bool (by simp), ((Up.refl w).alloc _).alloc _⟩
    · have hd : (b == d) = false := by simpa using ht
      have HE := Lib.hid (le_less (a := a) (b := b) (c := a) (d := d) (fun h => ht h.2))
      clear ht
      have HM := Lib.hid (fun w' => below_any a b a d w')
      rw [HE.out] at HM
      generalize decide (a < a ∨ a = a ∧ b ≤ d) = r at *
      go_enter Try.func28, Try.ntmps28
      go_wp2_with (go_at_call 34; refine (HM.out _).mono ?_; rintro e w' ⟨rfl, hU⟩; have HU := Lib.hid hU; clear hU)
      go_ret
      exact ⟨rfl, (((Up.refl w).alloc _).alloc _).trans HU.out⟩
  · have hd : (a == c) = false := by simpa using hs
    have HE := Lib.hid (le_less (a := a) (b := b) (c := c) (d := d) (fun h => hs h.1))
    clear hs
    have HM := Lib.hid (fun w' => below_any a b c d w')
    rw [HE.out] at HM
    generalize decide (a < c ∨ a = c ∧ b ≤ d) = r at *
    go_enter Try.func28, Try.ntmps28
    go_wp2_with (go_at_call 34; refine (HM.out _).mono ?_; rintro e w' ⟨rfl, hU⟩; have HU := Lib.hid hU; clear hU)
    go_ret
    exact ⟨rfl, (((Up.refl w).alloc _).alloc _).trans HU.out⟩
set_option maxHeartbeats 400000 in
theorem RefBelow_any (a b c d : Int) (w : World) :
    Calls Try.prog 35 #[.agg #[.int .i64 a, .int .i64 b], .agg #[.int .i64 c, .int .i64 d]] w fun e w' => e = .returned (.bool (decide (a < c ∨ a = c ∧ b ≤ d))) ∧ Up w w' := by
  go_enter Try.func35, Try.ntmps35
  go_wp2_with fail
  all_goals
    go_ret
    exact ⟨ret_bool (by first | (exact decide_eq_decide.2 (by omega)) | (simp; omega) | (simp; done)), ((Up.refl w).alloc _).alloc _⟩
/-- Two products, by their halves. -/
theorem halves (X Y : Int) : (X / 18446744073709551616 < Y / 18446744073709551616 ∨ X / 18446744073709551616 = Y / 18446744073709551616 ∧ X % 18446744073709551616 ≤ Y % 18446744073709551616) ↔ X ≤ Y := by omega
theorem halves62 (X Y : Int) : (X / 4611686018427387904 < Y / 4611686018427387904 ∨ X / 4611686018427387904 = Y / 4611686018427387904 ∧ X % 4611686018427387904 ≤ Y % 4611686018427387904) ↔ X ≤ Y := by omega
end Go.Proofs.Ytbcpphckjfbkbaa.Tm
