/- What layer 3's calls answer, as functions of whole numbers without bound; why a shrunk term is safe, why spans add up, why sums and shrunk terms never fall. -/
import Init.Data.Int.DivMod.Lemmas
import Init.Data.Int.Order
import Init.Data.List.Lemmas
import Init.Data.List.Count
import Init.Data.List.Range
import Init.Omega
namespace Go.Proofs.Ytbcpphckjfbkbaa.TM

/-- A number, or the nearest to it of what a time may be. -/
def clamp (a : Int) : Int := if a < 0 then 0 else if 4611686018427387904 < a then 4611686018427387904 else a
def add (a b : Int) : Int := if 4611686018427387904 < clamp a + clamp b then 4611686018427387904 else clamp a + clamp b
def left (a b : Int) : Int := if clamp a < clamp b then 0 else clamp a - clamp b
def legal (t : Int) : Bool := decide (4 ≤ t) && decide (t ≤ 1048576)
/-- Is it a term's length, and a drift, as Shrink takes them? -/
def fits (t r : Int) : Prop := 0 ≤ t ∧ t ≤ 1048576 ∧ 0 ≤ r ∧ r ≤ 999
instance (t r : Int) : Decidable (fits t r) := by unfold fits; infer_instance
def shrink (t r : Int) : Int := if fits t r then t * (1000 - r) / (1000 + r) else 0
def shrinkE (t r : Int) : Int := if fits t r then 0 else 2
/-- Does a clock that goes on by a keep within r, while true time goes on by d? -/
def keeps (d a r : Int) : Prop := 0 ≤ d ∧ 0 ≤ a ∧ 0 ≤ r ∧ r ≤ 999 ∧ d * (1000 - r) ≤ a * 1000 ∧ a * 1000 ≤ d * (1000 + r)
instance (d a r : Int) : Decidable (keeps d a r) := by unfold keeps; infer_instance
def honest (d a r : Int) : Bool := decide (keeps d a r)
/-- How many of the drifts are too little. -/
def least (d a : Int) : Nat := (List.range 1000).countP (fun i : Nat => !honest d a (i : Int))

theorem clamp_range (a : Int) : 0 ≤ clamp a ∧ clamp a ≤ 4611686018427387904 := by unfold clamp; split <;> (try split) <;> omega
theorem clamp_mono {a b : Int} (h : a ≤ b) : clamp a ≤ clamp b := by unfold clamp; (repeat' split) <;> omega
theorem clamp_id {a : Int} (h0 : 0 ≤ a) (h1 : a ≤ 4611686018427387904) : clamp a = a := by unfold clamp; split <;> (try split) <;> omega
theorem add_comm (a b : Int) : add a b = add b a := by unfold add; rw [Int.add_comm (clamp a) (clamp b)]
theorem add_range (a b : Int) : 0 ≤ add a b ∧ add a b ≤ 4611686018427387904 := by
  have h1 := clamp_range a; have h2 := clamp_range b
  unfold add; split <;> omega
theorem add_mono (a : Int) {b c : Int} (h : b ≤ c) : add a b ≤ add a c := by
  have h0 := clamp_mono h; have h1 := clamp_range a; have h2 := clamp_range b; have h3 := clamp_range c
  unfold add; split <;> split <;> omega
theorem left_mono (a : Int) {b c : Int} (h : b ≤ c) : left b a ≤ left c a := by
  have h0 := clamp_mono h; have h1 := clamp_range a; have h2 := clamp_range b; have h3 := clamp_range c
  unfold left; split <;> split <;> omega
theorem left_range (a b : Int) : 0 ≤ left a b ∧ left a b ≤ 4611686018427387904 := by
  have h1 := clamp_range a; have h2 := clamp_range b
  unfold left; split <;> omega
theorem add_small {a b : Int} (ha : 0 ≤ a) (hb : 0 ≤ b) (ha' : a ≤ 1152921504606846976) (hb' : b ≤ 1152921504606846976) : add a b = a + b := by
  unfold add; rw [clamp_id ha (by omega), clamp_id hb (by omega)]; split <;> omega
theorem left_add {a b : Int} (ha : 0 ≤ a) (hb : 0 ≤ b) (ha' : a ≤ 1152921504606846976) (hb' : b ≤ 1152921504606846976) : left (add a b) a = b := by
  rw [add_small ha hb ha' hb']
  unfold left; rw [clamp_id ha (by omega), clamp_id (by omega) (by omega)]; split <;> omega

theorem shrink_range {t r : Int} : 0 ≤ shrink t r ∧ shrink t r ≤ 1048576 := by
  unfold shrink
  split
  · rename_i h
    obtain ⟨h1, h2, h3, h4⟩ := h
    have e1 : 0 ≤ t * (1000 - r) := Int.mul_nonneg h1 (by omega)
    refine ⟨Int.ediv_nonneg e1 (by omega), ?_⟩
    have e2 : t * (1000 - r) ≤ t * (1000 + r) := Int.mul_le_mul_of_nonneg_left (by omega) h1
    have e3 := Int.ediv_le_ediv (show 0 < 1000 + r by omega) e2
    rw [Int.mul_ediv_cancel _ (by omega)] at e3
    omega
  · omega
theorem shrink_le {t r : Int} (h : fits t r) : shrink t r ≤ t := by
  unfold shrink
  rw [if_pos h]
  obtain ⟨h1, h2, h3, h4⟩ := h
  have e2 : t * (1000 - r) ≤ t * (1000 + r) := Int.mul_le_mul_of_nonneg_left (by omega) h1
  have e3 := Int.ediv_le_ediv (show 0 < 1000 + r by omega) e2
  rw [Int.mul_ediv_cancel _ (by omega)] at e3
  omega
theorem shrink_mul {t r : Int} (h : fits t r) : shrink t r * (1000 + r) ≤ t * (1000 - r) := by
  unfold shrink
  rw [if_pos h]
  exact Int.ediv_mul_le _ (by obtain ⟨h1, h2, h3, h4⟩ := h; omega)
theorem shrink_most {t r n : Int} (h : fits t r) : n ≤ shrink t r ↔ n * (1000 + r) ≤ t * (1000 - r) := by
  unfold shrink
  rw [if_pos h]
  exact Int.le_ediv_iff_mul_le (by obtain ⟨h1, h2, h3, h4⟩ := h; omega)
theorem shrink_mono_t {t u r : Int} (h : fits t r) (hu : 0 ≤ u) (hut : u ≤ t) : shrink u r ≤ shrink t r := by
  have h' : fits u r := by obtain ⟨h1, h2, h3, h4⟩ := h; exact ⟨hu, by omega, h3, h4⟩
  rw [shrink_most h]
  refine Int.le_trans (shrink_mul h') ?_
  exact Int.mul_le_mul_of_nonneg_right hut (by obtain ⟨h1, h2, h3, h4⟩ := h; omega)
theorem shrink_mono_r {t r s : Int} (h : fits t r) (hs : 0 ≤ s) (hsr : s ≤ r) : shrink t r ≤ shrink t s := by
  have h' : fits t s := by obtain ⟨h1, h2, h3, h4⟩ := h; exact ⟨h1, h2, hs, by omega⟩
  rw [shrink_most h']
  have h0 := (shrink_range (t := t) (r := r)).1
  obtain ⟨h1, h2, h3, h4⟩ := id h
  refine Int.le_trans (Int.mul_le_mul_of_nonneg_left (show 1000 + s ≤ 1000 + r by omega) h0) ?_
  refine Int.le_trans (shrink_mul h) ?_
  exact Int.mul_le_mul_of_nonneg_left (by omega) h1

theorem keeps_mono {d a r s : Int} (h : keeps d a r) (hs : r ≤ s) (h9 : s ≤ 999) : keeps d a s := by
  obtain ⟨h1, h2, h3, h4, h5, h6⟩ := h
  exact ⟨h1, h2, by omega, h9, Int.le_trans (Int.mul_le_mul_of_nonneg_left (by omega) h1) h5, Int.le_trans h6 (Int.mul_le_mul_of_nonneg_left (by omega) h1)⟩
theorem keeps_add {d a e b r : Int} (h : keeps d a r) (k : keeps e b r) : keeps (d + e) (a + b) r := by
  obtain ⟨h1, h2, h3, h4, h5, h6⟩ := h
  obtain ⟨k1, k2, k3, k4, k5, k6⟩ := k
  refine ⟨by omega, by omega, h3, h4, ?_, ?_⟩
  · rw [Int.add_mul, Int.add_mul]; omega
  · rw [Int.add_mul, Int.add_mul]; omega
/-- Who counts the shrunk term is done first. -/
theorem safe {t r d a c b : Int} (hf : fits t r) (h : keeps d a r) (k : keeps c b r) (hcd : c ≤ d) (ha : a < shrink t r) : b < t := by
  have hm := shrink_mul hf
  generalize shrink t r = n at ha hm
  obtain ⟨f1, f2, f3, f4⟩ := hf
  obtain ⟨h1, h2, h3, h4, h5, h6⟩ := h
  obtain ⟨k1, k2, k3, k4, k5, k6⟩ := k
  refine Int.not_le.1 fun hb => ?_
  -- the other clock's count, times what the first one may be slow
  have e1 : t * 1000 ≤ d * (1000 + r) := by
    have e2 : c * (1000 + r) ≤ d * (1000 + r) := Int.mul_le_mul_of_nonneg_right hcd (by omega)
    omega
  have e3 : t * 1000 * (1000 - r) ≤ d * (1000 + r) * (1000 - r) := Int.mul_le_mul_of_nonneg_right e1 (by omega)
  have e4 : d * (1000 - r) * (1000 + r) ≤ a * 1000 * (1000 + r) := Int.mul_le_mul_of_nonneg_right h5 (by omega)
  have e5 : (a + 1) * (1000 + r) ≤ n * (1000 + r) := Int.mul_le_mul_of_nonneg_right (by omega) (by omega)
  have r1 : t * 1000 * (1000 - r) = 1000 * (t * (1000 - r)) := by rw [Int.mul_comm t 1000, Int.mul_assoc]
  have r2 : d * (1000 + r) * (1000 - r) = d * (1000 - r) * (1000 + r) := Int.mul_right_comm _ _ _
  have r3 : a * 1000 * (1000 + r) = 1000 * (a * (1000 + r)) := by rw [Int.mul_comm a 1000, Int.mul_assoc]
  have r4 : (a + 1) * (1000 + r) = a * (1000 + r) + (1000 + r) := by rw [Int.add_mul, Int.one_mul]
  rw [r1, r2] at e3
  rw [r3] at e4
  rw [r4] at e5
  omega

theorem countP_cut (p : Nat → Bool) (k : Nat) (h1 : ∀ i, i < k → p i = true) (h2 : ∀ i, k ≤ i → p i = false) : ∀ n, (List.range n).countP p = min k n := by
  intro n
  induction n with
  | zero => rw [List.range_zero, List.countP_nil, Nat.min_zero]
  | succ n ih =>
    rw [List.range_succ, List.countP_append, ih, List.countP_singleton]
    by_cases h : n < k
    · rw [h1 n h]; simp only [if_true]; omega
    · rw [h2 n (by omega)]; simp only [Bool.false_eq_true, if_false]; omega
theorem countP_all (p : Nat → Bool) (n : Nat) (h : ∀ i, i < n → p i = true) : (List.range n).countP p = n := by
  rw [List.countP_eq_length.2 (fun i hi => h i (List.mem_range.1 hi)), List.length_range]
theorem least_le (d a : Int) : least d a ≤ 1000 := by
  have h := List.countP_le_length (p := fun i => !honest d a ((i : Nat) : Int)) (l := List.range 1000)
  rw [List.length_range] at h
  exact h
theorem honest_mono {d a : Int} {i j : Nat} (h : honest d a (i : Int) = true) (hij : i ≤ j) (hj : j < 1000) : honest d a (j : Int) = true :=
  decide_eq_true (keeps_mono (of_decide_eq_true h) (by omega) (by omega))
/-- The first drift that will do is the least. -/
theorem least_first {d a : Int} {k : Nat} (hk : k < 1000) (h0 : ∀ i, i < k → honest d a (i : Int) = false) (h1 : honest d a (k : Int) = true) : least d a = k := by
  have e : ∀ i : Nat, i < 1000 → (!honest d a (i : Int)) = decide (i < k) := by
    intro i hi
    by_cases h : i < k
    · rw [h0 i h, decide_eq_true h]; rfl
    · rw [honest_mono h1 (by omega) hi, decide_eq_false h]; rfl
  have e2 : least d a = (List.range 1000).countP (fun i => decide (i < k)) :=
    List.countP_congr fun i hi => by rw [e i (List.mem_range.1 hi)]
  rw [e2, countP_cut (fun i => decide (i < k)) k (fun i h => decide_eq_true h) (fun i h => decide_eq_false (by omega))]
  omega
theorem least_none {d a : Int} (h0 : ∀ i : Nat, i < 1000 → honest d a (i : Int) = false) : least d a = 1000 :=
  countP_all _ _ (fun i hi => by rw [h0 i hi]; rfl)
/-- Either none will do, or the least is where it begins. -/
theorem least_cases (d a : Int) : (least d a = 1000 ∧ ∀ i : Nat, i < 1000 → honest d a (i : Int) = false) ∨ (least d a < 1000 ∧ honest d a (least d a : Int) = true ∧ ∀ i : Nat, i < least d a → honest d a (i : Int) = false) := by
  by_cases h : ∃ i : Nat, i < 1000 ∧ honest d a (i : Int) = true
  · right
    obtain ⟨i, hi, hh⟩ := h
    have key : ∀ n : Nat, n < 1000 → honest d a (n : Int) = true → ∃ k : Nat, k < 1000 ∧ honest d a (k : Int) = true ∧ ∀ j : Nat, j < k → honest d a (j : Int) = false := by
      intro n
      induction n with
      | zero => exact fun h1 h2 => ⟨0, h1, h2, fun j hj => absurd hj (Nat.not_lt_zero _)⟩
      | succ n ih =>
        intro h1 h2
        cases hn : honest d a (n : Int) with
        | true => exact ih (by omega) hn
        | false =>
          refine ⟨n + 1, h1, h2, fun j hj => ?_⟩
          cases hj2 : honest d a (j : Int) with
          | false => rfl
          | true =>
            have := honest_mono hj2 (show j ≤ n by omega) (by omega)
            rw [hn] at this
            cases this
    obtain ⟨k, hk, h1, h2⟩ := key i hi hh
    have e := least_first hk h2 h1
    rw [e]
    exact ⟨hk, h1, h2⟩
  · left
    have h0 : ∀ i : Nat, i < 1000 → honest d a (i : Int) = false := by
      intro i hi
      cases hh : honest d a (i : Int) with
      | false => rfl
      | true => exact absurd ⟨i, hi, hh⟩ h
    exact ⟨least_none h0, h0⟩
theorem honest_range {d a r : Int} (h : honest d a r = true) : 0 ≤ r ∧ r ≤ 999 := by
  have := of_decide_eq_true h
  exact ⟨this.2.2.1, this.2.2.2.1⟩
theorem least_of {d a r : Int} (h : honest d a r = true) : (least d a : Int) ≤ r := by
  have hr := honest_range h
  rcases least_cases d a with ⟨_, h0⟩ | ⟨_, _, h0⟩
  · have := h0 r.toNat (by omega)
    rw [show ((r.toNat : Nat) : Int) = r by omega, h] at this
    cases this
  · refine Int.not_lt.1 fun hlt => ?_
    have := h0 r.toNat (by omega)
    rw [show ((r.toNat : Nat) : Int) = r by omega, h] at this
    cases this
theorem least_add {d a e b : Int} : least (d + e) (a + b) ≤ max (least d a) (least e b) := by
  have l0 := least_le (d + e) (a + b)
  rcases least_cases d a with ⟨h1, _⟩ | ⟨h1, h2, _⟩
  · omega
  rcases least_cases e b with ⟨k1, _⟩ | ⟨k1, k2, _⟩
  · omega
  have m1 := honest_mono h2 (show least d a ≤ max (least d a) (least e b) by omega) (by omega)
  have m2 := honest_mono k2 (show least e b ≤ max (least d a) (least e b) by omega) (by omega)
  have m3 : honest (d + e) (a + b) ((max (least d a) (least e b) : Nat) : Int) = true := decide_eq_true (keeps_add (of_decide_eq_true m1) (of_decide_eq_true m2))
  have := least_of m3
  omega

/-- The product of two numbers out of the halves of one. -/
theorem wide_mul (n k : Int) : n * k = (n / 2147483648 * k + n % 2147483648 * k / 2147483648) * 2147483648 + n % 2147483648 * k % 2147483648 := by
  have e : n = n / 2147483648 * 2147483648 + n % 2147483648 := by omega
  have e2 : n * k = n / 2147483648 * k * 2147483648 + n % 2147483648 * k := by
    conv => lhs; rw [e]
    rw [Int.add_mul, Int.mul_right_comm]
  omega
end Go.Proofs.Ytbcpphckjfbkbaa.TM
