/- The document's shrunk term: found by halves. -/
import Derived.Test.YtjhiicnnonmcnaaTermW1
namespace Go.Proofs.Ytjhiicnnonmcnaa
open Go.RowKit
theorem half_next {j : Nat} {p : Int} (h : p = ((2 ^ j : Nat) : Int)) : p / 2 = ((2 ^ j / 2 : Nat) : Int) := by
  rw [h]; omega
theorem half_top (j : Nat) : 2 ^ (j + 1) / 2 = 2 ^ j := by rw [Nat.pow_succ]; omega
theorem pow_le {j : Nat} (h : j ≤ 20) : 1 ≤ 2 ^ j ∧ 2 ^ j ≤ 1048576 := ⟨Nat.one_le_two_pow, Nat.pow_le_pow_right (by decide) h⟩
theorem step_bounds {m r : Int} (h0 : 0 ≤ m) (h1 : m ≤ 4194304) (hr : 0 ≤ r) (hr2 : r ≤ 999) : 0 ≤ m * (1000 + r) ∧ m * (1000 + r) ≤ 8388608000 := by
  refine ⟨Int.mul_nonneg h0 (by omega), ?_⟩
  have h := Int.mul_le_mul h1 (show 1000 + r ≤ 2000 by omega) (by omega) (by omega)
  omega
theorem fits_not {t r : Int} (h : ¬ TM.fits t r) : t < 0 ∨ 1048576 < t ∨ r < 0 ∨ 999 < r := by
  unfold TM.fits at h
  omega
set_option maxHeartbeats 1000000 in
theorem RefShrink_any (t r : Int) (w : World) (ht : -9223372036854775808 ≤ t ∧ t ≤ 9223372036854775807) (hr : -9223372036854775808 ≤ r ∧ r ≤ 9223372036854775807) :
    Calls Try.prog 20 #[.int .i64 t, .int .i64 r] w fun e w' => e = .returned (.tuple #[.int .i64 (TM.shrink t r), .int .i64 (TM.shrinkE t r)]) ∧ w = w' := by
  by_cases h : TM.fits t r
  · have h0 := h
    obtain ⟨h1, h2, h3, h4⟩ := h0
    have hp := prod_bounds h1 h2 h3 h4
    have HF := Lib.hid h; clear h
    have hq := TM.shrink_range (t := t) (r := r)
    go_enter Try.func20, Try.ntmps20
    go_wp2_with fail
    go_loop [6, 7] (fun a b => ∃ (n : Int) (j : Nat), a = .int .i64 n ∧ b = .int .i64 ((2 ^ j / 2 : Nat) : Int) ∧ j ≤ 21 ∧ 0 ≤ n ∧ n ≤ TM.shrink t r ∧ Hid (TM.shrink t r < n + ((2 ^ j : Nat) : Int))) (fun _ b => (intOf b).toNat)
    case atStart => exact ⟨0, 21, rfl, rfl, by omega, by omega, hq.1, Lib.hid (by have := hq.2; show _ < (0 : Int) + 2097152; omega)⟩
    case round =>
      obtain ⟨n, j, rfl, rfl, hj, hn0, hn, HN⟩ := hrel
      match j with
      | 0 =>
        have e : n = TM.shrink t r := by have := HN.out; rw [Nat.pow_zero] at this; omega
        have HE := Lib.hid e; clear e
        go_wp2_with fail
        go_ret2
        exact ⟨fit HF.out HE.out, rfl⟩
      | i + 1 =>
        have hb := pow_le (j := i) (by omega)
        rw [half_top]
        have HN2 := HN.out
        rw [Nat.pow_succ] at HN2
        obtain ⟨p, hp⟩ : ∃ p : Int, p = ((2 ^ i : Nat) : Int) := ⟨_, rfl⟩
        have hb1 : 1 ≤ p ∧ p ≤ 1048576 := by omega
        have HN3 := Lib.hid (show TM.shrink t r < n + 2 * p by omega)
        clear HN2 hb HN
        have HP := Lib.hid hp
        rw [← hp]
        clear hp
        have hm := step_bounds (m := n + p) (r := r) (by omega) (by omega) h3 h4
        go_wp2_with fail
        · exact ⟨⟨n + p, i, rfl, congrArg (Value.int .i64) (half_next HP.out), by omega, by omega, (TM.shrink_most HF.out).2 ‹_›, Lib.hid (by have := HN3.out; rw [← HP.out]; omega)⟩, by simp only [intOf]; omega⟩
        · have hlt := Int.not_le.1 (fun hle => absurd ((TM.shrink_most HF.out).1 hle) (Int.not_le.2 ‹_›))
          exact ⟨⟨n, i, rfl, congrArg (Value.int .i64) (half_next HP.out), by omega, by omega, hn, Lib.hid (by rw [← HP.out]; exact hlt)⟩, by simp only [intOf]; omega⟩
  · rcases fits_not h with h1 | h1 | h1 | h1
    all_goals
      have HF := Lib.hid h; clear h
      go_enter Try.func20, Try.ntmps20
      go_wp2_with fail
      all_goals
        go_ret2
        exact ⟨no_fit HF.out, rfl⟩
end Go.Proofs.Ytjhiicnnonmcnaa
