/- Texts that belong together: TermMath, StampsMath, StampsW1, StampsW2, WireSt, WireB, WireMath. -/
import Init.Data.Int.DivMod.Lemmas
import Init.Data.Int.Order
import Init.Data.List.Lemmas
import Init.Data.List.Count
import Init.Data.List.Range
import Init.Omega
import Init.Data.List.Sublist
import Init.Data.UInt.Lemmas
import Derived.Test.YtbjemihcbbiiaaaInts
import Derived.Test.YtbjemihcbbiiaaaOctA
import Derived.Test.YtbjemihcbbiiaaaPaths
namespace Go.Proofs.Ytbjemihcbbiiaaa.TM

/-- A number, or the nearest to it of what a time may be. -/
def clamp (a : Int) : Int := if a < 0 then 0 else if 4611686018427387904 < a then 4611686018427387904 else a
def add (a b : Int) : Int := if 4611686018427387904 < clamp a + clamp b then 4611686018427387904 else clamp a + clamp b
def left (a b : Int) : Int := if clamp a < clamp b then 0 else clamp a - clamp b
def legal (t : Int) : Bool := decide (4 ≤ t) && decide (t ≤ 1048576)
/-- Is it a term's length, and a drift, as Shrink takes them? -/
def fits (t r : Int) : Prop := 0 ≤ t ∧ t ≤ 1048576 ∧ 0 ≤ r ∧ r ≤ 999
instance (t r : Int) : Decidable (fits t r) := by unfold fits; infer_instance
def shrink (t r : Int) : Int := if fits t r then t * (1000 - r) / (1000 + r) else 0
def shrinkE (t r : Int) : Int := if fits t r then 0 else 2
/-- Does a clock that goes on by a keep within r, while true time goes on by d? -/
def keeps (d a r : Int) : Prop := 0 ≤ d ∧ 0 ≤ a ∧ 0 ≤ r ∧ r ≤ 999 ∧ d * (1000 - r) ≤ a * 1000 ∧ a * 1000 ≤ d * (1000 + r)
instance (d a r : Int) : Decidable (keeps d a r) := by unfold keeps; infer_instance
def honest (d a r : Int) : Bool := decide (keeps d a r)
/-- How many of the drifts are too little. -/
def least (d a : Int) : Nat := (List.range 1000).countP (fun i : Nat => !honest d a (i : Int))

theorem clamp_range (a : Int) : 0 ≤ clamp a ∧ clamp a ≤ 4611686018427387904 := by unfold clamp; split <;> (try split) <;> omega
theorem clamp_mono {a b : Int} (h : a ≤ b) : clamp a ≤ clamp b := by unfold clamp; (repeat' split) <;> omega
theorem clamp_id {a : Int} (h0 : 0 ≤ a) (h1 : a ≤ 4611686018427387904) : clamp a = a := by unfold clamp; split <;> (try split) <;> omega
theorem add_comm (a b : Int) : add a b = add b a := by unfold add; rw [Int.add_comm (clamp a) (clamp b)]
theorem add_range (a b : Int) : 0 ≤ add a b ∧ add a b ≤ 4611686018427387904 := by
  have h1 := clamp_range a; have h2 := clamp_range b
  unfold add; split <;> omega
theorem add_mono (a : Int) {b c : Int} (h : b ≤ c) : add a b ≤ add a c := by
  have h0 := clamp_mono h; have h1 := clamp_range a; have h2 := clamp_range b; have h3 := clamp_range c
  unfold add; split <;> split <;> omega
theorem left_mono (a : Int) {b c : Int} (h : b ≤ c) : left b a ≤ left c a := by
  have h0 := clamp_mono h; have h1 := clamp_range a; have h2 := clamp_range b; have h3 := clamp_range c
  unfold left; split <;> split <;> omega
theorem left_range (a b : Int) : 0 ≤ left a b ∧ left a b ≤ 4611686018427387904 := by
  have h1 := clamp_range a; have h2 := clamp_range b
  unfold left; split <;> omega
theorem add_small {a b : Int} (ha : 0 ≤ a) (hb : 0 ≤ b) (ha' : a ≤ 1152921504606846976) (hb' : b ≤ 1152921504606846976) : add a b = a + b := by
  unfold add; rw [clamp_id ha (by omega), clamp_id hb (by omega)]; split <;> omega
theorem left_add {a b : Int} (ha : 0 ≤ a) (hb : 0 ≤ b) (ha' : a ≤ 1152921504606846976) (hb' : b ≤ 1152921504606846976) : left (add a b) a = b := by
  rw [add_small ha hb ha' hb']
  unfold left; rw [clamp_id ha (by omega), clamp_id (by omega) (by omega)]; split <;> omega

theorem shrink_range {t r : Int} : 0 ≤ shrink t r ∧ shrink t r ≤ 1048576 := by
  unfold shrink
  split
  · rename_i h
    obtain ⟨h1, h2, h3, h4⟩ := h
    have e1 : 0 ≤ t * (1000 - r) := Int.mul_nonneg h1 (by omega)
    refine ⟨Int.ediv_nonneg e1 (by omega), ?_⟩
    have e2 : t * (1000 - r) ≤ t * (1000 + r) := Int.mul_le_mul_of_nonneg_left (by omega) h1
    have e3 := Int.ediv_le_ediv (show 0 < 1000 + r by omega) e2
    rw [Int.mul_ediv_cancel _ (by omega)] at e3
    omega
  · omega
theorem shrink_le {t r : Int} (h : fits t r) : shrink t r ≤ t := by
  unfold shrink
  rw [if_pos h]
  obtain ⟨h1, h2, h3, h4⟩ := h
  have e2 : t * (1000 - r) ≤ t * (1000 + r) := Int.mul_le_mul_of_nonneg_left (by omega) h1
  have e3 := Int.ediv_le_ediv (show 0 < 1000 + r by omega) e2
  rw [Int.mul_ediv_cancel _ (by omega)] at e3
  omega
theorem shrink_mul {t r : Int} (h : fits t r) : shrink t r * (1000 + r) ≤ t * (1000 - r) := by
  unfold shrink
  rw [if_pos h]
  exact Int.ediv_mul_le _ (by obtain ⟨h1, h2, h3, h4⟩ := h; omega)
theorem shrink_most {t r n : Int} (h : fits t r) : n ≤ shrink t r ↔ n * (1000 + r) ≤ t * (1000 - r) := by
  unfold shrink
  rw [if_pos h]
  exact Int.le_ediv_iff_mul_le (by obtain ⟨h1, h2, h3, h4⟩ := h; omega)
theorem shrink_mono_t {t u r : Int} (h : fits t r) (hu : 0 ≤ u) (hut : u ≤ t) : shrink u r ≤ shrink t r := by
  have h' : fits u r := by obtain ⟨h1, h2, h3, h4⟩ := h; exact ⟨hu, by omega, h3, h4⟩
  rw [shrink_most h]
  refine Int.le_trans (shrink_mul h') ?_
  exact Int.mul_le_mul_of_nonneg_right hut (by obtain ⟨h1, h2, h3, h4⟩ := h; omega)
theorem shrink_mono_r {t r s : Int} (h : fits t r) (hs : 0 ≤ s) (hsr : s ≤ r) : shrink t r ≤ shrink t s := by
  have h' : fits t s := by obtain ⟨h1, h2, h3, h4⟩ := h; exact ⟨h1, h2, hs, by omega⟩
  rw [shrink_most h']
  have h0 := (shrink_range (t := t) (r := r)).1
  obtain ⟨h1, h2, h3, h4⟩ := id h
  refine Int.le_trans (Int.mul_le_mul_of_nonneg_left (show 1000 + s ≤ 1000 + r by omega) h0) ?_
  refine Int.le_trans (shrink_mul h) ?_
  exact Int.mul_le_mul_of_nonneg_left (by omega) h1

theorem keeps_mono {d a r s : Int} (h : keeps d a r) (hs : r ≤ s) (h9 : s ≤ 999) : keeps d a s := by
  obtain ⟨h1, h2, h3, h4, h5, h6⟩ := h
  exact ⟨h1, h2, by omega, h9, Int.le_trans (Int.mul_le_mul_of_nonneg_left (by omega) h1) h5, Int.le_trans h6 (Int.mul_le_mul_of_nonneg_left (by omega) h1)⟩
theorem keeps_add {d a e b r : Int} (h : keeps d a r) (k : keeps e b r) : keeps (d + e) (a + b) r := by
  obtain ⟨h1, h2, h3, h4, h5, h6⟩ := h
  obtain ⟨k1, k2, k3, k4, k5, k6⟩ := k
  refine ⟨by omega, by omega, h3, h4, ?_, ?_⟩
  · rw [Int.add_mul, Int.add_mul]; omega
  · rw [Int.add_mul, Int.add_mul]; omega
/-- Who counts the shrunk term is done first. -/
theorem safe {t r d a c b : Int} (hf : fits t r) (h : keeps d a r) (k : keeps c b r) (hcd : c ≤ d) (ha : a < shrink t r) : b < t := by
  have hm := shrink_mul hf
  generalize shrink t r = n at ha hm
  obtain ⟨f1, f2, f3, f4⟩ := hf
  obtain ⟨h1, h2, h3, h4, h5, h6⟩ := h
  obtain ⟨k1, k2, k3, k4, k5, k6⟩ := k
  refine Int.not_le.1 fun hb => ?_
  -- the other clock's count, times what the first one may be slow
  have e1 : t * 1000 ≤ d * (1000 + r) := by
    have e2 : c * (1000 + r) ≤ d * (1000 + r) := Int.mul_le_mul_of_nonneg_right hcd (by omega)
    omega
  have e3 : t * 1000 * (1000 - r) ≤ d * (1000 + r) * (1000 - r) := Int.mul_le_mul_of_nonneg_right e1 (by omega)
  have e4 : d * (1000 - r) * (1000 + r) ≤ a * 1000 * (1000 + r) := Int.mul_le_mul_of_nonneg_right h5 (by omega)
  have e5 : (a + 1) * (1000 + r) ≤ n * (1000 + r) := Int.mul_le_mul_of_nonneg_right (by omega) (by omega)
  have r1 : t * 1000 * (1000 - r) = 1000 * (t * (1000 - r)) := by rw [Int.mul_comm t 1000, Int.mul_assoc]
  have r2 : d * (1000 + r) * (1000 - r) = d * (1000 - r) * (1000 + r) := Int.mul_right_comm _ _ _
  have r3 : a * 1000 * (1000 + r) = 1000 * (a * (1000 + r)) := by rw [Int.mul_comm a 1000, Int.mul_assoc]
  have r4 : (a + 1) * (1000 + r) = a * (1000 + r) + (1000 + r) := by rw [Int.add_mul, Int.one_mul]
  rw [r1, r2] at e3
  rw [r3] at e4
  rw [r4] at e5
  omega

theorem countP_cut (p : Nat → Bool) (k : Nat) (h1 : ∀ i, i < k → p i = true) (h2 : ∀ i, k ≤ i → p i = false) : ∀ n, (List.range n).countP p = min k n := by
  intro n
  induction n with
  | zero => rw [List.range_zero, List.countP_nil, Nat.min_zero]
  | succ n ih =>
    rw [List.range_succ, List.countP_append, ih, List.countP_singleton]
    by_cases h : n < k
    · rw [h1 n h]; simp only [if_true]; omega
    · rw [h2 n (by omega)]; simp only [Bool.false_eq_true, if_false]; omega
theorem countP_all (p : Nat → Bool) (n : Nat) (h : ∀ i, i < n → p i = true) : (List.range n).countP p = n := by
  rw [List.countP_eq_length.2 (fun i hi => h i (List.mem_range.1 hi)), List.length_range]
theorem least_le (d a : Int) : least d a ≤ 1000 := by
  have h := List.countP_le_length (p := fun i => !honest d a ((i : Nat) : Int)) (l := List.range 1000)
  rw [List.length_range] at h
  exact h
theorem honest_mono {d a : Int} {i j : Nat} (h : honest d a (i : Int) = true) (hij : i ≤ j) (hj : j < 1000) : honest d a (j : Int) = true :=
  decide_eq_true (keeps_mono (of_decide_eq_true h) (by omega) (by omega))
/-- The first drift that will do is the least. -/
theorem least_first {d a : Int} {k : Nat} (hk : k < 1000) (h0 : ∀ i, i < k → honest d a (i : Int) = false) (h1 : honest d a (k : Int) = true) : least d a = k := by
  have e : ∀ i : Nat, i < 1000 → (!honest d a (i : Int)) = decide (i < k) := by
    intro i hi
    by_cases h : i < k
    · rw [h0 i h, decide_eq_true h]; rfl
    · rw [honest_mono h1 (by omega) hi, decide_eq_false h]; rfl
  have e2 : least d a = (List.range 1000).countP (fun i => decide (i < k)) :=
    List.countP_congr fun i hi => by rw [e i (List.mem_range.1 hi)]
  rw [e2, countP_cut (fun i => decide (i < k)) k (fun i h => decide_eq_true h) (fun i h => decide_eq_false (by omega))]
  omega
theorem least_none {d a : Int} (h0 : ∀ i : Nat, i < 1000 → honest d a (i : Int) = false) : least d a = 1000 :=
  countP_all _ _ (fun i hi => by rw [h0 i hi]; rfl)
/-- Either none will do, or the least is where it begins. -/
theorem least_cases (d a : Int) : (least d a = 1000 ∧ ∀ i : Nat, i < 1000 → honest d a (i : Int) = false) ∨ (least d a < 1000 ∧ honest d a (least d a : Int) = true ∧ ∀ i : Nat, i < least d a → honest d a (i : Int) = false) := by
  by_cases h : ∃ i : Nat, i < 1000 ∧ honest d a (i : Int) = true
  · right
    obtain ⟨i, hi, hh⟩ := h
    have key : ∀ n : Nat, n < 1000 → honest d a (n : Int) = true → ∃ k : Nat, k < 1000 ∧ honest d a (k : Int) = true ∧ ∀ j : Nat, j < k → honest d a (j : Int) = false := by
      intro n
      induction n with
      | zero => exact fun h1 h2 => ⟨0, h1, h2, fun j hj => absurd hj (Nat.not_lt_zero _)⟩
      | succ n ih =>
        intro h1 h2
        cases hn : honest d a (n : Int) with
        | true => exact ih (by omega) hn
        | false =>
          refine ⟨n + 1, h1, h2, fun j hj => ?_⟩
          cases hj2 : honest d a (j : Int) with
          | false => rfl
          | true =>
            have := honest_mono hj2 (show j ≤ n by omega) (by omega)
            rw [hn] at this
            cases this
    obtain ⟨k, hk, h1, h2⟩ := key i hi hh
    have e := least_first hk h2 h1
    rw [e]
    exact ⟨hk, h1, h2⟩
  · left
    have h0 : ∀ i : Nat, i < 1000 → honest d a (i : Int) = false := by
      intro i hi
      cases hh : honest d a (i : Int) with
      | false => rfl
      | true => exact absurd ⟨i, hi, hh⟩ h
    exact ⟨least_none h0, h0⟩
theorem honest_range {d a r : Int} (h : honest d a r = true) : 0 ≤ r ∧ r ≤ 999 := by
  have := of_decide_eq_true h
  exact ⟨this.2.2.1, this.2.2.2.1⟩
theorem least_of {d a r : Int} (h : honest d a r = true) : (least d a : Int) ≤ r := by
  have hr := honest_range h
  rcases least_cases d a with ⟨_, h0⟩ | ⟨_, _, h0⟩
  · have := h0 r.toNat (by omega)
    rw [show ((r.toNat : Nat) : Int) = r by omega, h] at this
    cases this
  · refine Int.not_lt.1 fun hlt => ?_
    have := h0 r.toNat (by omega)
    rw [show ((r.toNat : Nat) : Int) = r by omega, h] at this
    cases this
theorem least_add {d a e b : Int} : least (d + e) (a + b) ≤ max (least d a) (least e b) := by
  have l0 := least_le (d + e) (a + b)
  rcases least_cases d a with ⟨h1, _⟩ | ⟨h1, h2, _⟩
  · omega
  rcases least_cases e b with ⟨k1, _⟩ | ⟨k1, k2, _⟩
  · omega
  have m1 := honest_mono h2 (show least d a ≤ max (least d a) (least e b) by omega) (by omega)
  have m2 := honest_mono k2 (show least e b ≤ max (least d a) (least e b) by omega) (by omega)
  have m3 : honest (d + e) (a + b) ((max (least d a) (least e b) : Nat) : Int) = true := decide_eq_true (keeps_add (of_decide_eq_true m1) (of_decide_eq_true m2))
  have := least_of m3
  omega

/-- The product of two numbers out of the halves of one. -/
theorem wide_mul (n k : Int) : n * k = (n / 2147483648 * k + n % 2147483648 * k / 2147483648) * 2147483648 + n % 2147483648 * k % 2147483648 := by
  have e : n = n / 2147483648 * 2147483648 + n % 2147483648 := by omega
  have e2 : n * k = n / 2147483648 * k * 2147483648 + n % 2147483648 * k := by
    conv => lhs; rw [e]
    rw [Int.add_mul, Int.mul_right_comm]
  omega
end Go.Proofs.Ytbjemihcbbiiaaa.TM
namespace Go.Proofs.Ytbjemihcbbiiaaa.SM

/-- Which one is the earlier. -/
def cmp : List Int → List Int → Int
  | [], [] => 0
  | [], _ :: _ => -1
  | _ :: _, [] => 1
  | x :: a, y :: b => if x < y then -1 else if y < x then 1 else cmp a b
def count (x : Int) : Bool := decide (1 ≤ x) && decide (x ≤ 1099511627776)
def valid (s : List Int) : Bool := decide (s.length ≤ 4) && s.all count
def under (a b : List Int) : Bool := decide (a <+: b)
def later (a b : List Int) : List Int := if cmp a b < 0 then b else a
/-- A longer stamp, and the error beside it. -/
def extend (s : List Int) (n : Int) : List Int × Int :=
  if valid s = false then ([], 13) else if s.length = 4 then ([], 14) else if count n = false then ([], 66) else (s ++ [n], 0)
def last (s : List Int) : Int := s.getLastD 0
def next (s : List Int) : List Int × Int :=
  if valid s = false ∨ s = [] then ([], 13) else if last s = 1099511627776 then ([], 66) else (s.dropLast ++ [last s + 1], 0)

theorem cmp_nil_left (b : List Int) : cmp [] b = if b = [] then 0 else -1 := by cases b <;> rfl
theorem cmp_nil_right (a : List Int) : cmp a [] = if a = [] then 0 else 1 := by cases a <;> rfl
theorem cmp_cons (x y : Int) (a b : List Int) : cmp (x :: a) (y :: b) = if x < y then -1 else if y < x then 1 else cmp a b := rfl
theorem cmp_range : ∀ a b : List Int, cmp a b = -1 ∨ cmp a b = 0 ∨ cmp a b = 1
  | [], [] => .inr (.inl rfl)
  | [], _ :: _ => .inl rfl
  | _ :: _, [] => .inr (.inr rfl)
  | x :: a, y :: b => by
    rw [cmp_cons]
    split
    · exact .inl rfl
    · split
      · exact .inr (.inr rfl)
      · exact cmp_range a b
theorem cmp_neg : ∀ a b : List Int, cmp a b = - cmp b a
  | [], [] => rfl
  | [], _ :: _ => rfl
  | _ :: _, [] => rfl
  | x :: a, y :: b => by
    rw [cmp_cons, cmp_cons]
    split
    · rw [if_neg (by omega)]
    · split
      · rfl
      · exact cmp_neg a b
theorem cmp_self : ∀ a : List Int, cmp a a = 0
  | [] => rfl
  | x :: a => by rw [cmp_cons, if_neg (by omega), if_neg (by omega)]; exact cmp_self a
theorem cmp_zero : ∀ {a b : List Int}, cmp a b = 0 → a = b
  | [], [], _ => rfl
  | [], _ :: _, h => by cases h
  | _ :: _, [], h => by cases h
  | x :: a, y :: b, h => by
    rw [cmp_cons] at h
    split at h
    · cases h
    · split at h
      · cases h
      · rw [cmp_zero h, show x = y by omega]
theorem cmp_zero_iff {a b : List Int} : cmp a b = 0 ↔ a = b := ⟨cmp_zero, fun h => by rw [h]; exact cmp_self b⟩
theorem cmp_trans : ∀ {a b c : List Int}, cmp a b ≤ 0 → cmp b c ≤ 0 → cmp a c ≤ 0
  | [], _, c, _, _ => by rw [cmp_nil_left]; split <;> omega
  | x :: a, [], c, h, _ => by rw [cmp_nil_right, if_neg (by simp)] at h; omega
  | x :: a, y :: b, [], _, h => by rw [cmp_nil_right, if_neg (by simp)] at h; omega
  | x :: a, y :: b, z :: c, h, k => by
    rw [cmp_cons] at h k ⊢
    split at h
    · split at k
      · rw [if_pos (by omega)]; omega
      · split at k
        · omega
        · rw [if_pos (by omega)]; omega
    · split at h
      · omega
      · split at k
        · rw [if_pos (by omega)]; omega
        · split at k
          · omega
          · rw [if_neg (by omega), if_neg (by omega)]
            exact cmp_trans h k
theorem under_iff {a b : List Int} : under a b = true ↔ a <+: b := by unfold under; exact decide_eq_true_iff
theorem cmp_prefix : ∀ {a b : List Int}, a <+: b → cmp a b ≤ 0
  | [], b, _ => by rw [cmp_nil_left]; split <;> omega
  | x :: a, [], h => by have := List.prefix_nil.1 h; cases this
  | x :: a, y :: b, h => by
    obtain ⟨rfl, h2⟩ := List.cons_prefix_cons.1 h
    rw [cmp_cons, if_neg (by omega), if_neg (by omega)]
    exact cmp_prefix h2
/-- What is under a is earlier than all that is later than a and not under it. -/
theorem cmp_between : ∀ {a b c : List Int}, a <+: b → cmp a c < 0 → ¬ a <+: c → cmp b c < 0
  | [], _, _, _, _, h => absurd (List.nil_prefix) h
  | x :: a, [], c, h, _, _ => by have := List.prefix_nil.1 h; cases this
  | x :: a, y :: b, [], _, h, _ => by rw [cmp_nil_right, if_neg (by simp)] at h; omega
  | x :: a, y :: b, z :: c, h, k, n => by
    obtain ⟨rfl, h2⟩ := List.cons_prefix_cons.1 h
    rw [cmp_cons] at k ⊢
    split at k
    · rw [if_pos ‹_›]; omega
    · split at k
      · omega
      · rw [if_neg ‹_›, if_neg ‹_›]
        exact cmp_between h2 k (fun hp => n (List.cons_prefix_cons.2 ⟨by omega, hp⟩))
theorem cmp_append : ∀ (a : List Int) {b c : List Int}, cmp (a ++ b) (a ++ c) = cmp b c
  | [], _, _ => rfl
  | x :: a, b, c => by
    rw [List.cons_append, List.cons_append, cmp_cons, if_neg (by omega), if_neg (by omega)]
    exact cmp_append a
theorem cmp_longer (a : List Int) (x : Int) : cmp a (a ++ [x]) = -1 := by
  have h := cmp_append a (b := []) (c := [x])
  rw [List.append_nil] at h
  rw [h]; rfl
theorem later_cases (a b : List Int) : (later a b = a ∧ 0 ≤ cmp a b) ∨ (later a b = b ∧ cmp a b < 0) := by
  unfold later
  split
  · exact .inr ⟨rfl, ‹_›⟩
  · exact .inl ⟨rfl, by omega⟩

theorem valid_iff {s : List Int} : valid s = true ↔ s.length ≤ 4 ∧ ∀ x ∈ s, 1 ≤ x ∧ x ≤ 1099511627776 := by
  unfold valid count
  simp
theorem count_iff {n : Int} : count n = true ↔ 1 ≤ n ∧ n ≤ 1099511627776 := by unfold count; simp
theorem last_snoc (s : List Int) (x : Int) : last (s ++ [x]) = x := by unfold last; simp
theorem snoc_of {s : List Int} (h : s ≠ []) : s = s.dropLast ++ [last s] := by
  have e := List.dropLast_concat_getLast h
  have e2 : last s = s.getLast h := by
    unfold last
    rw [List.getLastD_eq_getLast?, List.getLast?_eq_some_getLast h]
    rfl
  rw [e2, e]

/-! ### Texts -/
/-- A digit of a number. -/
def dig (n : Nat) : UInt8 := (48 + n).toUInt8
/-- A number's digits. -/
def digits (n : Nat) : List UInt8 := if n < 10 then [dig n] else digits (n / 10) ++ [dig (n % 10)]
def dec (n : Int) : List UInt8 := if n < 0 then 45 :: digits n.natAbs else digits n.toNat
/-- The numbers with a point between each two. -/
def body : List Int → List UInt8
  | [] => []
  | [x] => dec x
  | x :: y :: r => dec x ++ 46 :: body (y :: r)
def text (s : List Int) : List UInt8 := if s = [] then [45] else body s
/-- A text read loosely: the numbers so far, the one under way, what is left. -/
def scan (out : List Int) (n : Nat) : List UInt8 → Option (List Int)
  | [] => if out.length = 4 then none else some (out ++ [(n : Int)])
  | c :: r => if c = 46 then if out.length = 4 then none else scan (out ++ [(n : Int)]) 0 r
    else if c < 48 ∨ 57 < c ∨ 1099511627776 < n then none else scan out (10 * n + (c.toNat - 48)) r
def parse (t : List UInt8) : List Int × Int :=
  if t = [45] then ([], 0) else match scan [] 0 t with
    | none => ([], 13)
    | some out => if valid out = true ∧ text out = t then (out, 0) else ([], 13)

theorem digits_low {n : Nat} (h : n < 10) : digits n = [dig n] := by rw [digits, if_pos h]
theorem digits_high {n : Nat} (h : ¬ n < 10) : digits n = digits (n / 10) ++ [dig (n % 10)] := by rw [digits, if_neg h]
theorem dig_nat {n : Nat} (h : n < 10) : (dig n).toNat = 48 + n := by
  unfold dig
  rw [Nat.toUInt8_eq, UInt8.toNat_ofNat']
  omega
theorem digits_all : ∀ n : Nat, ∀ c ∈ digits n, 48 ≤ c.toNat ∧ c.toNat ≤ 57 := by
  intro n
  induction n using Nat.strongRecOn with
  | ind n ih =>
    intro c hc
    by_cases h : n < 10
    · rw [digits_low h, List.mem_singleton] at hc
      rw [hc, dig_nat h]; omega
    · rw [digits_high h, List.mem_append, List.mem_singleton] at hc
      rcases hc with hc | rfl
      · exact ih (n / 10) (by omega) c hc
      · rw [dig_nat (by omega)]; omega
theorem digits_ne (n : Nat) : digits n ≠ [] := by
  by_cases h : n < 10
  · rw [digits_low h]; simp
  · rw [digits_high h]; simp
theorem body_snoc : ∀ {s : List Int} (x : Int), s ≠ [] → body (s ++ [x]) = body s ++ 46 :: dec x
  | [], _, h => absurd rfl h
  | [_], _, _ => rfl
  | y :: z :: r, x, _ => by
    show dec y ++ 46 :: body (z :: r ++ [x]) = (dec y ++ 46 :: body (z :: r)) ++ 46 :: dec x
    rw [body_snoc (s := z :: r) x (by simp)]
    simp
theorem scan_point (out : List Int) (n : Nat) (r : List UInt8) (h : out.length < 4) : scan out n (46 :: r) = scan (out ++ [(n : Int)]) 0 r := by
  rw [scan, if_pos rfl, if_neg (by omega)]
theorem scan_dig {out : List Int} {n d : Nat} {r : List UInt8} (hd : d < 10) (hn : n ≤ 1099511627776) : scan out n (dig d :: r) = scan out (10 * n + d) r := by
  have e := dig_nat hd
  have h1 : dig d ≠ 46 := fun h => by rw [h] at e; have : (46 : UInt8).toNat = 46 := rfl; omega
  have h2 : ¬ (dig d < 48 ∨ 57 < dig d ∨ 1099511627776 < n) := by
    rw [UInt8.lt_iff_toNat_lt, UInt8.lt_iff_toNat_lt, e, show (48 : UInt8).toNat = 48 from rfl, show (57 : UInt8).toNat = 57 from rfl]
    omega
  rw [scan, if_neg h1, if_neg h2, e]
  congr 1
  omega
theorem scan_digits : ∀ (n : Nat) {out : List Int} {r : List UInt8}, n ≤ 1099511627776 → scan out 0 (digits n ++ r) = scan out n r := by
  intro n
  induction n using Nat.strongRecOn with
  | ind n ih =>
    intro out r hn
    by_cases h : n < 10
    · rw [digits_low h, List.singleton_append, scan_dig h (by omega)]
      congr 1
      omega
    · rw [digits_high h, List.append_assoc, List.singleton_append, ih (n / 10) (by omega) (by omega), scan_dig (by omega) (by omega)]
      congr 1
      omega
theorem dec_pos {x : Int} (h : 0 ≤ x) : dec x = digits x.toNat := by unfold dec; rw [if_neg (by omega)]
theorem scan_body : ∀ {s : List Int} {out : List Int}, s ≠ [] → out.length + s.length ≤ 4 → (∀ x ∈ s, 1 ≤ x ∧ x ≤ 1099511627776) → scan out 0 (body s) = some (out ++ s)
  | [], _, h, _, _ => absurd rfl h
  | [x], out, _, hl, hx => by
    have h1 := hx x (by simp)
    have e := scan_digits x.toNat (out := out) (r := []) (by omega)
    rw [List.append_nil] at e
    show scan out 0 (dec x) = _
    rw [dec_pos (by omega), e, scan, if_neg (by simp at hl; omega)]
    rw [show ((x.toNat : Nat) : Int) = x by omega]
  | x :: y :: r, out, _, hl, hx => by
    have h1 := hx x (by simp)
    show scan out 0 (dec x ++ 46 :: body (y :: r)) = _
    simp only [List.length_cons] at hl
    rw [dec_pos (by omega), scan_digits x.toNat (by omega), scan_point _ _ _ (by omega), scan_body (by simp) (by simp; omega) (fun z hz => hx z (by simp [List.mem_cons.1 hz])),
      show ((x.toNat : Nat) : Int) = x by omega]
    simp
theorem body_ne {s : List Int} (hs : s ≠ []) (hx : ∀ x ∈ s, 1 ≤ x ∧ x ≤ 1099511627776) : body s ≠ [45] := by
  have key : ∀ (x : Int) (r : List UInt8), 1 ≤ x → dec x ++ r ≠ [45] := by
    intro x r h e
    rw [dec_pos (by omega)] at e
    have hn := digits_ne x.toNat
    cases hd : digits x.toNat with
    | nil => exact hn hd
    | cons c t =>
      rw [hd, List.cons_append] at e
      injection e with e1 _
      have := digits_all x.toNat c (by rw [hd]; simp)
      rw [e1] at this
      have h45 : (45 : UInt8).toNat = 45 := rfl
      omega
  match s, hs with
  | [x], _ =>
    intro e
    exact key x [] (hx x (by simp)).1 (by rw [List.append_nil]; exact e)
  | x :: y :: r, _ => exact key x _ (hx x (by simp)).1
theorem parse_text {s : List Int} (h : valid s = true) : parse (text s) = (s, 0) := by
  obtain ⟨h1, h2⟩ := valid_iff.1 h
  by_cases hs : s = []
  · subst hs; rfl
  · have e := scan_body (out := []) hs (by simpa using h1) h2
    rw [List.nil_append] at e
    have ht : text s = body s := by unfold text; rw [if_neg hs]
    unfold parse
    rw [ht, if_neg (body_ne hs h2), e]
    simp only
    rw [if_pos ⟨h, ht⟩]
/-- What a text's stamp is. -/
theorem parse_cases (t : List UInt8) : ((parse t).2 = 0 ∧ valid (parse t).1 = true ∧ text (parse t).1 = t) ∨ ((parse t).2 = 13 ∧ (parse t).1 = [] ∧ ∀ s, valid s = true → text s ≠ t) := by
  by_cases hx : ∃ s, valid s = true ∧ text s = t
  · obtain ⟨s, h1, rfl⟩ := hx
    rw [parse_text h1]
    exact .inl ⟨rfl, h1, rfl⟩
  · right
    have hn : ∀ s, valid s = true → text s ≠ t := fun s h1 h2 => hx ⟨s, h1, h2⟩
    refine ⟨?_, ?_, hn⟩
    all_goals
      unfold parse
      split
      · exact absurd (‹t = [45]›).symm (hn [] rfl)
      · split
        · rfl
        · split
          · rename_i h; exact absurd h.2 (hn _ h.1)
          · rfl
/-- Whatever answers so answers as the document does. -/
theorem parse_unique {t : List UInt8} {x : List Int} {e : Int} (h : (e = 0 ∧ valid x = true ∧ text x = t) ∨ (e = 13 ∧ x = [] ∧ ∀ s, valid s = true → text s ≠ t)) : parse t = (x, e) := by
  rcases h with ⟨rfl, h1, rfl⟩ | ⟨rfl, rfl, h3⟩
  · exact parse_text h1
  · rcases parse_cases t with ⟨_, k2, k3⟩ | ⟨k1, k2, _⟩
    · exact absurd k3 (h3 _ k2)
    · exact Prod.ext k2 k1
end Go.Proofs.Ytbjemihcbbiiaaa.SM
namespace Go.Proofs.Ytbjemihcbbiiaaa.St
open Go.RowKit
set_option linter.unusedVariables false
theorem take_same {a b : List Int} {k : Nat} (h : a.take k = b.take k) (ha : k < a.length) (hb : k < b.length) (he : a[k] = b[k]) : a.take (k + 1) = b.take (k + 1) := by
  rw [List.take_add_one, List.take_add_one, h, List.getElem?_eq_getElem ha, List.getElem?_eq_getElem hb, he]
theorem take_not {a b : List Int} {k : Nat} (ha : k < a.length) (hb : k < b.length) (he : a[k] ≠ b[k]) : a ≠ b := by
  intro e
  subst e
  exact he rfl
end Go.Proofs.Ytbjemihcbbiiaaa.St
namespace Go.Proofs.Ytbjemihcbbiiaaa.St
open Go.RowKit
set_option linter.unusedVariables false
theorem take_all {l : List Int} {k : Nat} (h : (l.take k).all SM.count = true) (hk : k < l.length) (hc : SM.count l[k] = true) : (l.take (k + 1)).all SM.count = true := by
  rw [List.take_add_one, List.getElem?_eq_getElem hk, List.all_append, h]
  show (true && (SM.count l[k] && true)) = true
  rw [hc]; rfl
theorem valid_end {l : List Int} {k : Nat} (h : (l.take k).all SM.count = true) (hk : ¬ k < l.length) (h4 : ¬ 4 < l.length) : true = SM.valid l := by
  rw [List.take_of_length_le (by omega)] at h
  unfold SM.valid
  rw [h, decide_eq_true (show l.length ≤ 4 by omega)]; rfl
theorem valid_bad {l : List Int} {k : Nat} (hk : k < l.length) (hc : SM.count l[k] = false) : false = SM.valid l := by
  unfold SM.valid
  have h : l.all SM.count = false := by
    rw [List.all_eq_false]
    exact ⟨l[k], List.getElem_mem hk, by rw [hc]; decide⟩
  rw [h, Bool.and_false]
theorem valid_long {l : List Int} (h : 4 < l.length) : false = SM.valid l := by
  unfold SM.valid
  rw [decide_eq_false (show ¬ l.length ≤ 4 by omega), Bool.false_and]
set_option maxHeartbeats 1000000 in
theorem RefValid_any (A : Option Addr) (c : Nat) (l : List Int) (w : World) (hA : IntsAt w A l) (hl : l.length ≤ c) (hc : c ≤ 9223372036854775807) :
    Calls Try.prog 42 #[.slice A l.length c] w fun e w' => e = .returned (.bool (SM.valid l)) ∧ w = w' := by
  have HA := Lib.hid hA; clear hA
  by_cases h4 : 4 < l.length
  · have HF := Lib.hid (valid_long h4)
    go_enter Try.func42, Try.ntmps42
    go_wp2_with fail
    go_ret
    exact ⟨ret_bool HF.out, rfl⟩
  · go_enter Try.func42, Try.ntmps42
    go_wp2_with fail
    go_loop [3] (fun i => ∃ k : Nat, i = .int .i64 (k : Int) ∧ k ≤ l.length ∧ Hid ((l.take k).all SM.count = true)) (fun i => l.length - (intOf i).toNat)
    case atStart => exact ⟨0, rfl, by omega, Lib.hid (by rw [List.take_zero]; rfl)⟩
    case round =>
      obtain ⟨k, rfl, hk, HT⟩ := hrel
      by_cases hlt : k < l.length
      · obtain ⟨b, o, eA, _, hca⟩ := HA.out (by omega)
        subst eA
        have ca := hca k l[k] (List.getElem?_eq_getElem hlt)
        clear hca
        cases hcount : SM.count l[k] with
        | true =>
          have HS := Lib.hid (take_all HT.out hlt hcount)
          obtain ⟨r1, r2⟩ := SM.count_iff.1 hcount
          clear hcount
          generalize l[k] = x at ca r1 r2
          go_wp2_with fail
          go_round
          case rel => exact ⟨k + 1, rfl, by omega, HS⟩
          case measure => simp only [intOf]; omega
        | false =>
          have HF := Lib.hid (valid_bad hlt hcount)
          have hor : l[k] < 1 ∨ 1099511627776 < l[k] := by
            refine Decidable.byContradiction fun hn => ?_
            rw [SM.count_iff.2 (by omega)] at hcount
            cases hcount
          clear hcount
          generalize l[k] = x at ca hor
          rcases hor with h1 | h1
          all_goals
            go_wp2_with fail
            all_goals
              go_ret
              exact ⟨ret_bool HF.out, rfl⟩
      · have HF := Lib.hid (valid_end HT.out hlt h4)
        go_wp2_with fail
        go_ret
        exact ⟨ret_bool HF.out, rfl⟩
theorem cmp_step {a b : List Int} {k : Nat} {n : Int} (h : SM.cmp (a.drop k) (b.drop k) = n) (ha : k < a.length) (hb : k < b.length) : (if a[k] < b[k] then -1 else if b[k] < a[k] then 1 else SM.cmp (a.drop (k + 1)) (b.drop (k + 1))) = n := by
  rw [List.drop_eq_getElem_cons ha, List.drop_eq_getElem_cons hb, SM.cmp_cons] at h
  exact h
theorem cmp_end {a b : List Int} {k : Nat} {n : Int} (h : SM.cmp (a.drop k) (b.drop k) = n) (hk : k ≤ a.length) (hk2 : k ≤ b.length) (he : ¬ (k < a.length ∧ k < b.length)) : n = if a.length < b.length then -1 else if b.length < a.length then 1 else 0 := by
  rw [← h]
  by_cases h1 : k < a.length
  · rw [List.drop_of_length_le (show b.length ≤ k by omega), SM.cmp_nil_right, if_neg (by rw [List.drop_eq_nil_iff]; omega), if_neg (by omega), if_pos (by omega)]
  · rw [List.drop_of_length_le (show a.length ≤ k by omega), SM.cmp_nil_left]
    by_cases h2 : k < b.length
    · rw [if_neg (by rw [List.drop_eq_nil_iff]; omega), if_pos (by omega)]
    · rw [if_pos (by rw [List.drop_eq_nil_iff]; omega), if_neg (by omega), if_neg (by omega)]
theorem under_of {a b : List Int} (h : ¬ b.length < a.length) : (SM.cmp a (b.take a.length) == 0) = SM.under a b := by
  rw [Bool.eq_iff_iff, beq_iff_eq, SM.cmp_zero_iff, SM.under_iff, List.prefix_iff_eq_take]
theorem under_long {a b : List Int} (h : b.length < a.length) : false = SM.under a b := by
  refine (decide_eq_false fun hp => ?_).symm
  have := hp.length_le
  omega
/-- What a call has grown behind another one. -/
theorem Grew.later {w w1 w2 : World} {xs : List Int} {v : Value} (h : Below w.heap.size w w1) (g : Grew w1 xs v w2) : Grew w xs v w2 := by
  refine ⟨⟨g.1.1, ?_⟩, below_on h g.2⟩
  rcases g.1.2 with h0 | ⟨b, cap, cur, e, hb, hh, hr⟩
  · exact .inl h0
  · exact .inr ⟨b, cap, cur, e, Nat.le_trans h.size hb, hh, hr⟩
end Go.Proofs.Ytbjemihcbbiiaaa.St
namespace Go.Proofs.Ytbjemihcbbiiaaa.St
open Go.RowKit
set_option linter.unusedVariables false
set_option maxRecDepth 100000
theorem isCounter_any (x : Int) (w : World) : Calls Try.prog 92 #[.int .i64 x] w fun e w' => e = .returned (.bool (SM.count x)) ∧ w = w' := by
  have HE := Lib.hid (show SM.count x = (decide (1 ≤ x) && decide (x ≤ 1099511627776)) from rfl)
  by_cases h : 1 ≤ x
  · by_cases h2 : x ≤ 1099511627776
    · go_enter Try.func92, Try.ntmps92
      go_wp2_with fail
      go_ret
      exact ⟨ret_bool (by rw [HE.out, decide_eq_true h, decide_eq_true h2]; first | rfl | simp [*]), rfl⟩
    · go_enter Try.func92, Try.ntmps92
      go_wp2_with fail
      go_ret
      exact ⟨ret_bool (by rw [HE.out, decide_eq_false (show ¬ x ≤ 1099511627776 by omega), Bool.and_false]), rfl⟩
  · go_enter Try.func92, Try.ntmps92
    go_wp2_with fail
    go_ret
    exact ⟨ret_bool (by rw [HE.out, decide_eq_false (show ¬ 1 ≤ x by omega), Bool.false_and]), rfl⟩
set_option maxHeartbeats 1000000 in
theorem Valid_any (A : Option Addr) (c : Nat) (l : List Int) (w : World) (hA : IntsAt w A l) (hl : l.length ≤ c) (hc : c ≤ 9223372036854775807) :
    Calls Try.prog 82 #[.slice A l.length c] w fun e w' => e = .returned (.bool (SM.valid l)) ∧ w = w' := by
  have HA := Lib.hid hA; clear hA
  by_cases h4 : 4 < l.length
  · have HF := Lib.hid (valid_long h4)
    go_enter Try.func82, Try.ntmps82
    go_wp2_with fail
    go_ret
    exact ⟨ret_bool HF.out, rfl⟩
  · go_enter Try.func82, Try.ntmps82
    go_wp2_with fail
    go_loop [10] (fun i => ∃ k : Nat, i = .int .i64 (k : Int) ∧ k ≤ l.length ∧ Hid ((l.take k).all SM.count = true)) (fun i => l.length - (intOf i).toNat)
    case atStart => exact ⟨0, rfl, by omega, Lib.hid (by rw [List.take_zero]; rfl)⟩
    case round =>
      obtain ⟨k, rfl, hk, HT⟩ := hrel
      by_cases hlt : k < l.length
      · obtain ⟨b, o, eA, _, hca⟩ := HA.out (by omega)
        subst eA
        have ca := hca k l[k] (List.getElem?_eq_getElem hlt)
        clear hca
        have HK := Lib.hid (fun w => isCounter_any l[k] w)
        cases hcount : SM.count l[k] with
        | true =>
          have HS := Lib.hid (take_all HT.out hlt hcount)
          rw [hcount] at HK
          clear hcount
          generalize l[k] = x at ca HK
          go_wp2_with fail
          refine (HK.out _).mono ?_
          rintro e w' ⟨rfl, rfl⟩
          go_wp2_with fail
          go_round
          case rel => exact ⟨k + 1, rfl, by omega, HS⟩
          case measure => simp only [intOf]; omega
        | false =>
          have HF := Lib.hid (valid_bad hlt hcount)
          rw [hcount] at HK
          clear hcount
          generalize l[k] = x at ca HK
          go_wp2_with fail
          refine (HK.out _).mono ?_
          rintro e w' ⟨rfl, rfl⟩
          go_wp2_with fail
          go_ret
          exact ⟨ret_bool HF.out, rfl⟩
      · have HF := Lib.hid (valid_end HT.out hlt h4)
        go_wp2_with fail
        go_ret
        exact ⟨ret_bool HF.out, rfl⟩
end Go.Proofs.Ytbjemihcbbiiaaa.St
namespace Go.Proofs.Ytbjemihcbbiiaaa
open Go.RowKit
set_option linter.unusedVariables false
set_option maxRecDepth 100000
set_option maxHeartbeats 400000 in
theorem Legal_any (t : Int) (w : World) (ht : -9223372036854775808 ≤ t ∧ t ≤ 9223372036854775807) :
    Calls Try.prog 90 #[.int .i64 t] w fun e w' => e = .returned (.bool (TM.legal t)) ∧ w = w' := by
  go_enter Try.func90, Try.ntmps90
  go_wp2
  all_goals
    go_ret
    exact ⟨ret_bool (by unfold TM.legal; simp; omega), rfl⟩
set_option maxHeartbeats 400000 in
theorem RefLegal_any (t : Int) (w : World) (ht : -9223372036854775808 ≤ t ∧ t ≤ 9223372036854775807) :
    Calls Try.prog 69 #[.int .i64 t] w fun e w' => e = .returned (.bool (TM.legal t)) ∧ w = w' := by
  go_enter Try.func69, Try.ntmps69
  go_wp2
  all_goals
    go_ret
    exact ⟨ret_bool (by unfold TM.legal; simp; omega), rfl⟩
/-- Is it a mode? -/
def okMode (m : Int) : Bool := decide (m = 1) || decide (m = 2)
theorem Mode_any (m : Int) (w : World) : Calls Try.prog 41 #[.int .i64 m] w fun e w' => e = .returned (.bool (okMode m)) ∧ w = w' := by
  have HE := Lib.hid (show okMode m = (decide (m = 1) || decide (m = 2)) from rfl)
  by_cases h1 : m = 1
  · subst h1
    go_enter Try.func41, Try.ntmps41
    go_wp2_with fail
    go_ret
    exact ⟨rfl, rfl⟩
  · have d1 : (m == 1) = false := by simpa using h1
    by_cases h2 : m = 2
    · subst h2
      go_enter Try.func41, Try.ntmps41
      go_wp2_with fail
      go_ret
      exact ⟨rfl, rfl⟩
    · have d2 : (m == 2) = false := by simpa using h2
      have HF := Lib.hid (show okMode m = false by rw [HE.out, decide_eq_false h1, decide_eq_false h2]; rfl)
      clear h1 h2
      go_enter Try.func41, Try.ntmps41
      go_wp2_with fail
      go_ret
      exact ⟨ret_bool HF.out.symm, rfl⟩
theorem take_same {α : Type} {a b : List α} {k : Nat} (h : a.take k = b.take k) (ha : k < a.length) (hb : k < b.length) (he : a[k] = b[k]) : a.take (k + 1) = b.take (k + 1) := by
  rw [List.take_add_one, List.take_add_one, h, List.getElem?_eq_getElem ha, List.getElem?_eq_getElem hb, he]
theorem take_not {α : Type} {a b : List α} {k : Nat} (ha : k < a.length) (hb : k < b.length) (he : a[k] ≠ b[k]) : a ≠ b := by
  intro e
  subst e
  exact he rfl
set_option maxHeartbeats 1000000 in
theorem SameInts_any (A B : Option Addr) (c d : Nat) (a b : List Int) (w : World) (hA : IntsAt w A a) (hB : IntsAt w B b) (ha : a.length ≤ c) (hb : b.length ≤ d) (hc : c ≤ 9223372036854775807) (hd : d ≤ 9223372036854775807) :
    Calls Try.prog 31 #[.slice A a.length c, .slice B b.length d] w fun e w' => e = .returned (.bool (decide (a = b))) ∧ Below w.heap.size w w' := by
  have HA := Lib.hid hA; clear hA
  have HB := Lib.hid hB; clear hB
  by_cases hlen : a.length = b.length
  · go_enter Try.func31, Try.ntmps31
    rw [← hlen]
    go_wp2_with fail
    go_loopw [5] (fun i wx => ∃ k : Nat, i = .int .i64 (k : Int) ∧ k ≤ a.length ∧ Below w.heap.size w wx ∧ Hid (a.take k = b.take k)) (fun i _ => a.length - (intOf i).toNat)
    case atStart => exact ⟨0, rfl, by omega, Below.refl _ _, Lib.hid (by rw [List.take_zero, List.take_zero])⟩
    case round =>
      obtain ⟨k, rfl, hk, hW, HT⟩ := hrel
      have HW := Lib.hid hW; clear hW
      by_cases hlt : k < a.length
      · have hltb : k < b.length := by omega
        obtain ⟨ba, oa, eA, _, hca⟩ := (HA.out.below HW.out) (by omega)
        obtain ⟨bb, ob, eB, _, hcb⟩ := (HB.out.below HW.out) (by omega)
        subst eA
        subst eB
        have ca := hca k a[k] (List.getElem?_eq_getElem hlt)
        have cb := hcb k b[k] (List.getElem?_eq_getElem hltb)
        clear hca hcb
        by_cases he : a[k] = b[k]
        · have HS := Lib.hid (take_same HT.out hlt hltb he)
          rw [← he] at cb
          clear he
          generalize a[k] = x at ca cb
          go_wp2_with fail
          go_region
          all_goals
            go_wp2
            go_roundw
            case rel => exact ⟨k + 1, rfl, by omega, HW.out.drew, HS⟩
            case measure => simp only [intOf]; omega
        · have HN := Lib.hid (take_not hlt hltb he)
          have hd2 : (a[k] == b[k]) = false := by simpa using he
          clear he
          generalize a[k] = x at ca hd2
          generalize b[k] = y at cb hd2
          go_wp2_with fail
          go_region
          all_goals
            go_wp2
            go_ret
            exact ⟨ret_bool (decide_eq_false HN.out).symm, HW.out.drew⟩
      · have HE := Lib.hid (show a = b by have := HT.out; rwa [List.take_of_length_le (by omega), List.take_of_length_le (by omega)] at this)
        go_wp2_with fail
        go_ret
        exact ⟨ret_bool (decide_eq_true HE.out).symm, HW.out⟩
  · go_enter Try.func31, Try.ntmps31
    go_wp2_with fail
    go_ret
    exact ⟨ret_bool (decide_eq_false (fun e => hlen (by rw [e]))).symm, Below.refl _ _⟩
end Go.Proofs.Ytbjemihcbbiiaaa
namespace Go.Proofs.Ytbjemihcbbiiaaa.WM
set_option linter.unusedVariables false
structure Msg where
  kind : Int
  frm : Int
  dst : Int
  boot : Int
  seq : Int
  low : Int
  verb : Int
  path : ByteArray
  mode : Int
  term : Int
  id : Int
  fresh : Bool
  code : Int
  stamp : List Int
  origin : Int
  number : Int
  deriving DecidableEq
def p (m : Msg) : List UInt8 := m.path.data.toList
def zero : Msg := ⟨0, 0, 0, 0, 0, 0, 0, ⟨#[]⟩, 0, 0, 0, false, 0, [], 0, 0⟩
def okMode (m : Int) : Bool := decide (m = 1) || decide (m = 2)
def node (n : Int) : Bool := decide (0 ≤ n) && decide (n < 8)
def gate (n : Int) : Bool := decide (8 ≤ n) && decide (n < 12)

/-- Bytes that are laid down. -/
def nums : List Int → List UInt8
  | [] => []
  | n :: l => OM.enc n.toNat ++ nums l
def flag (b : Bool) : List UInt8 := OM.enc (if b then 1 else 0)
def stampB (s : List Int) : List UInt8 := OM.enc s.length ++ nums s
def askB (m : Msg) : List UInt8 := nums [m.boot, m.seq, m.low, m.verb] ++
  (if m.verb = 1 then OM.encT (p m) ++ nums [m.mode, m.term]
   else if m.verb = 2 then nums [m.id, m.term] ++ flag m.fresh
   else if m.verb = 3 then nums [m.id] else [])
def replyB (m : Msg) : List UInt8 := nums [m.boot, m.seq, m.code] ++ (if m.code = 0 then nums [m.id, m.term] ++ stampB m.stamp else [])
def recallB (m : Msg) : List UInt8 := nums [m.id] ++ (OM.encT (p m) ++ nums [m.origin, m.number])
def doneB (m : Msg) : List UInt8 := nums [m.id, m.origin, m.number]
def opB (m : Msg) : List UInt8 := OM.encT (p m) ++ (nums [m.mode] ++ stampB m.stamp)
def partB (m : Msg) : List UInt8 :=
  if m.kind = 1 then askB m else if m.kind = 2 then replyB m else if m.kind = 3 then recallB m else if m.kind = 4 then doneB m else if m.kind = 5 then opB m else []
def body (m : Msg) : List UInt8 := nums [m.kind, m.frm, m.dst] ++ partB m

/-- A reader's state: what is left, the error. -/
abbrev St := List UInt8 × Nat
def tnum (s : St) : Int × St := ((OM.rnum s.1 s.2).1, (OM.rnum s.1 s.2).2)
def ttext (s : St) : ByteArray × St := (⟨(OM.rtext s.1 s.2 200).1.toArray⟩, (OM.rtext s.1 s.2 200).2)
def tnums : Nat → St → List Int × St
  | 0, s => ([], s)
  | k + 1, s => ((tnum s).1 :: (tnums k (tnum s).2).1, (tnums k (tnum s).2).2)
theorem tnums_snoc : ∀ (k : Nat) (s : St), tnums (k + 1) s = ((tnums k s).1 ++ [(tnum (tnums k s).2).1], (tnum (tnums k s).2).2)
  | 0, s => rfl
  | k + 1, s => by
    rw [tnums, tnums_snoc k (tnum s).2]
    rfl
theorem tnums_len : ∀ (k : Nat) (s : St), (tnums k s).1.length = k
  | 0, _ => rfl
  | k + 1, s => by rw [tnums, List.length_cons, tnums_len k]
/-- A stamp: no more than 'most' counters are taken. -/
def tstamp (most : Nat) (s : St) : List Int × St := tnums (min (tnum s).1.toNat most) (tnum s).2
def askT (m : Msg) (s : St) : Msg × St :=
  let a := tnum s
  let b := tnum a.2
  let c := tnum b.2
  let d := tnum c.2
  let m := { m with boot := a.1, seq := b.1, low := c.1, verb := d.1 }
  if d.1 = 1 then
    let x := ttext d.2
    let y := tnum x.2
    let z := tnum y.2
    ({ m with path := x.1, mode := y.1, term := z.1 }, z.2)
  else if d.1 = 2 then
    let x := tnum d.2
    let y := tnum x.2
    let z := tnum y.2
    ({ m with id := x.1, term := y.1, fresh := decide (z.1 = 1) }, z.2)
  else if d.1 = 3 then ({ m with id := (tnum d.2).1 }, (tnum d.2).2)
  else (m, d.2)
def replyT (most : Nat) (m : Msg) (s : St) : Msg × St :=
  let a := tnum s
  let b := tnum a.2
  let c := tnum b.2
  let m := { m with boot := a.1, seq := b.1, code := c.1 }
  if c.1 = 0 then
    let x := tnum c.2
    let y := tnum x.2
    let z := tstamp most y.2
    ({ m with id := x.1, term := y.1, stamp := z.1 }, z.2)
  else (m, c.2)
def recallT (m : Msg) (s : St) : Msg × St :=
  let a := tnum s
  let b := ttext a.2
  let c := tnum b.2
  let d := tnum c.2
  ({ m with id := a.1, path := b.1, origin := c.1, number := d.1 }, d.2)
def doneT (m : Msg) (s : St) : Msg × St :=
  let a := tnum s
  let b := tnum a.2
  let c := tnum b.2
  ({ m with id := a.1, origin := b.1, number := c.1 }, c.2)
def opT (most : Nat) (m : Msg) (s : St) : Msg × St :=
  let a := ttext s
  let b := tnum a.2
  let c := tstamp most b.2
  ({ m with path := a.1, mode := b.1, stamp := c.1 }, c.2)
def partT (most : Nat) (m : Msg) (s : St) : Msg × St :=
  if m.kind = 1 then askT m s else if m.kind = 2 then replyT most m s else if m.kind = 3 then recallT m s else if m.kind = 4 then doneT m s else if m.kind = 5 then opT most m s else (m, s)
def headT (s : St) : Msg × St :=
  let a := tnum s
  let b := tnum a.2
  let c := tnum b.2
  ({ zero with kind := a.1, frm := b.1, dst := c.1 }, c.2)
def taken (most : Nat) (b : List UInt8) : Msg := (partT most (headT (b, 0)).1 (headT (b, 0)).2).1

/-- What a kind uses. -/
def used (m : Msg) : Msg :=
  let z := { zero with kind := m.kind, frm := m.frm, dst := m.dst }
  if m.kind = 1 then
    let z := { z with boot := m.boot, seq := m.seq, low := m.low, verb := m.verb }
    let z := if m.verb = 1 then { z with path := m.path, mode := m.mode } else { z with id := m.id }
    let z := if m.verb = 3 then z else { z with term := m.term }
    if m.verb = 2 then { z with fresh := m.fresh } else z
  else if m.kind = 2 then
    let z := { z with boot := m.boot, seq := m.seq, code := m.code }
    if m.code = 0 then { z with id := m.id, term := m.term, stamp := m.stamp } else z
  else if m.kind = 3 then { z with id := m.id, origin := m.origin, number := m.number, path := m.path }
  else if m.kind = 4 then { z with id := m.id, origin := m.origin, number := m.number }
  else if m.kind = 5 then { z with path := m.path, mode := m.mode, stamp := m.stamp }
  else z
/-- May the fields be so? -/
def want (m : Msg) : Bool :=
  if m.verb = 1 then PM.okB (p m) && (okMode m.mode && TM.legal m.term)
  else if m.verb = 2 then SM.count m.id && TM.legal m.term
  else if m.verb = 3 then SM.count m.id else false
def mayAsk (m : Msg) : Bool := SM.count m.boot && (SM.count m.seq && (decide (1 ≤ m.low) && (decide (m.low ≤ m.seq) && want m)))
def give (m : Msg) : Bool := if m.stamp = [] then decide (m.term = 0) else TM.legal m.term && SM.valid m.stamp
def mayReply (m : Msg) : Bool :=
  SM.count m.boot && (SM.count m.seq && (decide (0 ≤ m.code) && (decide (m.code ≤ 99) && (decide (m.code ≠ 0) || (SM.count m.id && give m)))))
def mayDone (m : Msg) : Bool := SM.count m.id && (node m.origin && SM.count m.number)
def mayRecall (m : Msg) : Bool := mayDone m && PM.okB (p m)
def mayOp (m : Msg) : Bool := PM.okB (p m) && (okMode m.mode && SM.valid m.stamp)
def mayGo (m : Msg) : Bool := node m.frm && (if m.kind = 5 then gate m.dst else node m.dst && decide (m.dst ≠ m.frm))
def mayPart (m : Msg) : Bool :=
  if m.kind = 1 then mayAsk m else if m.kind = 2 then mayReply m else if m.kind = 3 then mayRecall m else if m.kind = 4 then mayDone m else if m.kind = 5 then mayOp m else false
def may (m : Msg) : Bool := mayGo m && mayPart m
def valid (m : Msg) : Bool := may m && decide (used m = m)

/-- There and back, number by number. -/
theorem tnum_enc (n : Int) (r : List UInt8) (h : 0 ≤ n ∧ n ≤ 9223372036854775807) : tnum (OM.enc n.toNat ++ r, 0) = (n, (r, 0)) := by
  unfold tnum
  rw [OM.rnum_enc _ _ (by omega)]
  simp only [Prod.mk.injEq, and_true]
  omega
theorem tnum_zero (r : List UInt8) : tnum (OM.enc 0 ++ r, 0) = (0, (r, 0)) := tnum_enc 0 r (by omega)
theorem tnums_enc : ∀ (l : List Int) (r : List UInt8), (∀ x ∈ l, 0 ≤ x ∧ x ≤ 9223372036854775807) → tnums l.length (nums l ++ r, 0) = (l, (r, 0))
  | [], r, _ => rfl
  | n :: l, r, h => by
    rw [List.length_cons, tnums, nums, List.append_assoc, tnum_enc n _ (h n (by simp)), tnums_enc l r (fun x hx => h x (by simp [hx]))]
theorem ttext_enc (s : ByteArray) (r : List UInt8) (h : s.size ≤ 200) : ttext (OM.encT s.data.toList ++ r, 0) = (s, (r, 0)) := by
  unfold ttext
  have e : s.data.toList.length = s.size := rfl
  rw [OM.rtext_enc _ _ 200 (by rw [e]; omega) (by rw [e]; omega)]
theorem flag_enc (b : Bool) : flag b = OM.enc (if b then (1 : Int) else 0).toNat := by cases b <;> rfl
theorem tstamp_enc (l : List Int) (most : Nat) (r : List UInt8) (hm : l.length ≤ most) (hl : l.length ≤ 9223372036854775807) (h : ∀ x ∈ l, 0 ≤ x ∧ x ≤ 9223372036854775807) : tstamp most (stampB l ++ r, 0) = (l, (r, 0)) := by
  unfold tstamp stampB
  rw [List.append_assoc, show OM.enc l.length = OM.enc ((l.length : Int)).toNat from rfl, tnum_enc _ _ (by omega)]
  rw [show min ((l.length : Int)).toNat most = l.length by simp; omega]
  exact tnums_enc l r h

theorem count_rng {x : Int} (h : SM.count x = true) : 1 ≤ x ∧ x ≤ 1099511627776 := by
  unfold SM.count at h
  simpa using h
theorem legal_rng {x : Int} (h : TM.legal x = true) : 4 ≤ x ∧ x ≤ 1048576 := by
  unfold TM.legal at h
  simpa using h
theorem mode_rng {x : Int} (h : okMode x = true) : 1 ≤ x ∧ x ≤ 2 := by
  unfold okMode at h
  simp at h
  omega
theorem node_rng {x : Int} (h : node x = true) : 0 ≤ x ∧ x < 8 := by
  unfold node at h
  simpa using h
theorem gate_rng {x : Int} (h : gate x = true) : 8 ≤ x ∧ x < 12 := by
  unfold gate at h
  simpa using h
theorem valid_rng {s : List Int} (h : SM.valid s = true) : s.length ≤ 4 ∧ ∀ x ∈ s, 1 ≤ x ∧ x ≤ 1099511627776 := by
  unfold SM.valid at h
  simp only [Bool.and_eq_true, decide_eq_true_eq, List.all_eq_true] at h
  exact ⟨h.1, fun x hx => count_rng (h.2 x hx)⟩
theorem path_size {s : ByteArray} (h : PM.okB s.data.toList = true) : s.size ≤ 27 := PM.okB_len _ h
/-- A number that a message may hold. -/
def Small (x : Int) : Prop := 0 ≤ x ∧ x ≤ 1099511627776
theorem small_in {x : Int} (h : Small x) : 0 ≤ x ∧ x ≤ 9223372036854775807 := by unfold Small at h; omega
theorem nums_one (n : Int) : nums [n] = OM.enc n.toNat := by unfold nums; rw [nums, List.append_nil]
theorem may_kind {m : Msg} (h : may m = true) : m.kind = 1 ∨ m.kind = 2 ∨ m.kind = 3 ∨ m.kind = 4 ∨ m.kind = 5 := by
  unfold may mayPart at h
  by_cases h1 : m.kind = 1
  · exact .inl h1
  by_cases h2 : m.kind = 2
  · exact .inr (.inl h2)
  by_cases h3 : m.kind = 3
  · exact .inr (.inr (.inl h3))
  by_cases h4 : m.kind = 4
  · exact .inr (.inr (.inr (.inl h4)))
  by_cases h5 : m.kind = 5
  · exact .inr (.inr (.inr (.inr h5)))
  rw [if_neg h1, if_neg h2, if_neg h3, if_neg h4, if_neg h5] at h
  simp at h
theorem may_head {m : Msg} (h : may m = true) : Small m.kind ∧ Small m.frm ∧ Small m.dst := by
  have hk := may_kind h
  unfold may mayGo at h
  simp only [Bool.and_eq_true] at h
  have h1 := node_rng h.1.1
  have h2 := h.1.2
  refine ⟨by unfold Small; omega, by unfold Small; omega, ?_⟩
  split at h2
  · have := gate_rng h2; unfold Small; omega
  · simp only [Bool.and_eq_true] at h2
    have := node_rng h2.1; unfold Small; omega
theorem headT_body {m : Msg} (r : List UInt8) (h : may m = true) : headT (body m ++ r, 0) = ({ zero with kind := m.kind, frm := m.frm, dst := m.dst }, (partB m ++ r, 0)) := by
  obtain ⟨h1, h2, h3⟩ := may_head h
  unfold headT body
  simp only [nums, List.append_assoc, List.nil_append, tnum_enc _ _ (small_in h1), tnum_enc _ _ (small_in h2), tnum_enc _ _ (small_in h3)]
/-- All that a kind's fields say of its numbers. -/
structure Fits (m : Msg) : Prop where
  nums : (m.kind = 1 → Small m.boot ∧ Small m.seq ∧ Small m.low ∧ Small m.verb ∧ (m.verb = 1 → m.path.size ≤ 27 ∧ Small m.mode ∧ Small m.term) ∧ (m.verb = 2 → Small m.id ∧ Small m.term) ∧ (m.verb = 3 → Small m.id) ∧ (m.verb = 1 ∨ m.verb = 2 ∨ m.verb = 3)) ∧
    (m.kind = 2 → Small m.boot ∧ Small m.seq ∧ Small m.code ∧ (m.code = 0 → Small m.id ∧ Small m.term ∧ m.stamp.length ≤ 4 ∧ ∀ x ∈ m.stamp, Small x)) ∧
    (m.kind = 3 ∨ m.kind = 4 → Small m.id ∧ Small m.origin ∧ Small m.number ∧ (m.kind = 3 → m.path.size ≤ 27)) ∧
    (m.kind = 5 → m.path.size ≤ 27 ∧ Small m.mode ∧ m.stamp.length ≤ 4 ∧ ∀ x ∈ m.stamp, Small x)
theorem small_count {x : Int} (h : SM.count x = true) : Small x := by have := count_rng h; unfold Small; omega
theorem small_legal {x : Int} (h : TM.legal x = true) : Small x := by have := legal_rng h; unfold Small; omega
theorem small_mode {x : Int} (h : okMode x = true) : Small x := by have := mode_rng h; unfold Small; omega
theorem small_node {x : Int} (h : node x = true) : Small x := by have := node_rng h; unfold Small; omega
theorem may_fits {m : Msg} (h : may m = true) : Fits m := by
  unfold may mayPart at h
  simp only [Bool.and_eq_true] at h
  have hp := h.2
  clear h
  refine ⟨⟨fun hk => ?_, fun hk => ?_, fun hk => ?_, fun hk => ?_⟩⟩
  · rw [if_pos hk] at hp
    unfold mayAsk want at hp
    simp only [Bool.and_eq_true, decide_eq_true_eq] at hp
    obtain ⟨h1, h2, h3, h4, h5⟩ := hp
    have r1 := count_rng h1
    have r2 := count_rng h2
    refine ⟨small_count h1, small_count h2, by unfold Small; omega, ?_, fun hv => ?_, fun hv => ?_, fun hv => ?_, ?_⟩
    · by_cases v1 : m.verb = 1
      · unfold Small; omega
      by_cases v2 : m.verb = 2
      · unfold Small; omega
      by_cases v3 : m.verb = 3
      · unfold Small; omega
      rw [if_neg v1, if_neg v2, if_neg v3] at h5
      simp at h5
    · rw [if_pos hv] at h5
      simp only [Bool.and_eq_true] at h5
      exact ⟨path_size h5.1, small_mode h5.2.1, small_legal h5.2.2⟩
    · rw [if_neg (by omega), if_pos hv] at h5
      simp only [Bool.and_eq_true] at h5
      exact ⟨small_count h5.1, small_legal h5.2⟩
    · rw [if_neg (by omega), if_neg (by omega), if_pos hv] at h5
      exact small_count h5
    · by_cases v1 : m.verb = 1
      · exact .inl v1
      by_cases v2 : m.verb = 2
      · exact .inr (.inl v2)
      by_cases v3 : m.verb = 3
      · exact .inr (.inr v3)
      rw [if_neg v1, if_neg v2, if_neg v3] at h5
      simp at h5
  · rw [if_neg (by omega), if_pos hk] at hp
    unfold mayReply at hp
    simp only [Bool.and_eq_true, decide_eq_true_eq, Bool.or_eq_true] at hp
    obtain ⟨h1, h2, h3, h4, h5⟩ := hp
    refine ⟨small_count h1, small_count h2, by unfold Small; omega, fun hc => ?_⟩
    rcases h5 with h5 | h5
    · exact absurd hc h5
    · obtain ⟨h6, h7⟩ := h5
      unfold give at h7
      split at h7
      · rename_i he
        rw [he]
        have : m.term = 0 := by simpa using h7
        exact ⟨small_count h6, by unfold Small; omega, by simp, by simp⟩
      · simp only [Bool.and_eq_true] at h7
        obtain ⟨g1, g2⟩ := valid_rng h7.2
        exact ⟨small_count h6, small_legal h7.1, g1, fun x hx => by have := g2 x hx; unfold Small; omega⟩
  · have hd : mayDone m = true := by
      rcases hk with hk | hk
      · rw [if_neg (by omega), if_neg (by omega), if_pos hk] at hp
        unfold mayRecall at hp
        simp only [Bool.and_eq_true] at hp
        exact hp.1
      · rw [if_neg (by omega), if_neg (by omega), if_neg (by omega), if_pos hk] at hp
        exact hp
    unfold mayDone at hd
    simp only [Bool.and_eq_true] at hd
    refine ⟨small_count hd.1, small_node hd.2.1, small_count hd.2.2, fun h3 => ?_⟩
    rw [if_neg (by omega), if_neg (by omega), if_pos h3] at hp
    unfold mayRecall at hp
    simp only [Bool.and_eq_true] at hp
    exact path_size hp.2
  · rw [if_neg (by omega), if_neg (by omega), if_neg (by omega), if_neg (by omega), if_pos hk] at hp
    unfold mayOp at hp
    simp only [Bool.and_eq_true] at hp
    obtain ⟨g1, g2⟩ := valid_rng hp.2.2
    exact ⟨path_size hp.1, small_mode hp.2.1, g1, fun x hx => by have := g2 x hx; unfold Small; omega⟩
theorem bool_back (b : Bool) : decide ((if b then (1 : Int) else 0) = 1) = b := by cases b <;> rfl
theorem flag_back (b : Bool) (r : List UInt8) : tnum (flag b ++ r, 0) = ((if b then 1 else 0), (r, 0)) := by
  rw [flag_enc]
  exact tnum_enc _ r (by cases b <;> simp)
/-- There and back: what a message's bytes are taken for is what its kind uses of it. -/
theorem taken_body {m : Msg} (most : Nat) (r : List UInt8) (h : may m = true) (h4 : 4 ≤ most) : taken most (body m ++ r) = used m := by
  unfold taken
  rw [headT_body r h]
  have hk := may_kind h
  obtain ⟨f1, f2, f3, f5⟩ := (may_fits h).nums
  clear h
  rcases hk with hk | hk | hk | hk | hk
  · obtain ⟨a1, a2, a3, a4, a5, a6, a7, a8⟩ := f1 hk
    simp only [partT, used, partB, hk, if_true, askT, askB, nums, List.append_assoc, List.nil_append, tnum_enc _ _ (small_in a1), tnum_enc _ _ (small_in a2), tnum_enc _ _ (small_in a3), tnum_enc _ _ (small_in a4)]
    rcases a8 with v | v | v
    · obtain ⟨b1, b2, b3⟩ := a5 v
      simp [v, p, ttext_enc _ _ (show m.path.size ≤ 200 by omega), tnum_enc _ _ (small_in b2), tnum_enc _ _ (small_in b3)]
    · obtain ⟨b1, b2⟩ := a6 v
      simp [v, tnum_enc _ _ (small_in b1), tnum_enc _ _ (small_in b2), flag_back]
    · have b1 := a7 v
      simp [v, tnum_enc _ _ (small_in b1)]
  · obtain ⟨a1, a2, a3, a4⟩ := f2 hk
    by_cases hc : m.code = 0
    · obtain ⟨b1, b2, b3, b4⟩ := a4 hc
      have a5 : Small 0 := by unfold Small; omega
      simp [partT, used, partB, hk, replyT, replyB, nums, hc, tnum_enc _ _ (small_in a1), tnum_enc _ _ (small_in a2), tnum_zero, tnum_enc _ _ (small_in b1), tnum_enc _ _ (small_in b2), tstamp_enc m.stamp most _ (by omega) (by omega) (fun x hx => small_in (b4 x hx))]
    · simp [partT, used, partB, hk, replyT, replyB, nums, hc, tnum_enc _ _ (small_in a1), tnum_enc _ _ (small_in a2), tnum_enc _ _ (small_in a3)]
  · obtain ⟨a1, a2, a3, a4⟩ := f3 (.inl hk)
    have b1 := a4 hk
    simp [partT, used, partB, hk, recallT, recallB, nums, p, tnum_enc _ _ (small_in a1), tnum_enc _ _ (small_in a2), tnum_enc _ _ (small_in a3), ttext_enc _ _ (show m.path.size ≤ 200 by omega)]
  · obtain ⟨a1, a2, a3, a4⟩ := f3 (.inr hk)
    simp [partT, used, partB, hk, doneT, doneB, nums, tnum_enc _ _ (small_in a1), tnum_enc _ _ (small_in a2), tnum_enc _ _ (small_in a3)]
  · obtain ⟨a1, a2, a3, a4⟩ := f5 hk
    simp [partT, used, partB, hk, opT, opB, nums, p, ttext_enc _ _ (show m.path.size ≤ 200 by omega), tnum_enc _ _ (small_in a2), tstamp_enc m.stamp most _ (by omega) (by omega) (fun x hx => small_in (a4 x hx))]
/-- How long the bytes are. -/
theorem small_len {x : Int} (h : Small x) : (OM.enc x.toNat).length ≤ 6 := OM.enc_le 5 _ (by unfold Small at h; omega)
theorem encT_len (s : ByteArray) (h : s.size ≤ 27) : (OM.encT s.data.toList).length ≤ 28 := by
  unfold OM.encT
  have e : s.data.toList.length = s.size := rfl
  rw [List.length_append, e, OM.enc_last (by omega), List.length_singleton]
  omega
theorem nums_len : ∀ (l : List Int), (∀ x ∈ l, Small x) → (nums l).length ≤ 6 * l.length
  | [], _ => Nat.zero_le _
  | n :: l, h => by
    have h1 := small_len (h n (by simp))
    have h2 := nums_len l (fun x hx => h x (by simp [hx]))
    rw [nums, List.length_append, List.length_cons]
    omega
theorem stampB_len {s : List Int} (h4 : s.length ≤ 4) (h : ∀ x ∈ s, Small x) : (stampB s).length ≤ 25 := by
  unfold stampB
  have := nums_len s h
  rw [List.length_append, OM.enc_last (by omega), List.length_singleton]
  omega
theorem flag_len (b : Bool) : (flag b).length ≤ 1 := by
  cases b <;> (unfold flag; rw [OM.enc_last (by decide)]; simp)
theorem body_len {m : Msg} (h : may m = true) : (body m).length ≤ 150 := by
  obtain ⟨c1, c2, c3⟩ := may_head h
  have hk := may_kind h
  obtain ⟨f1, f2, f3, f5⟩ := (may_fits h).nums
  clear h
  have hh : (nums [m.kind, m.frm, m.dst]).length ≤ 18 := nums_len [m.kind, m.frm, m.dst] (by simp [c1, c2, c3])
  unfold body
  rw [List.length_append]
  suffices hp : (partB m).length ≤ 100 by omega
  rcases hk with hk | hk | hk | hk | hk
  · obtain ⟨a1, a2, a3, a4, a5, a6, a7, a8⟩ := f1 hk
    have h1 : (nums [m.boot, m.seq, m.low, m.verb]).length ≤ 24 := nums_len [m.boot, m.seq, m.low, m.verb] (by simp [a1, a2, a3, a4])
    unfold partB
    rw [if_pos hk]
    unfold askB
    rw [List.length_append]
    rcases a8 with v | v | v
    · obtain ⟨b1, b2, b3⟩ := a5 v
      have h2 := encT_len m.path b1
      have h3 : (nums [m.mode, m.term]).length ≤ 12 := nums_len [m.mode, m.term] (by simp [b2, b3])
      rw [if_pos v, List.length_append]
      unfold p
      omega
    · obtain ⟨b1, b2⟩ := a6 v
      have h3 : (nums [m.id, m.term]).length ≤ 12 := nums_len [m.id, m.term] (by simp [b1, b2])
      have h4 := flag_len m.fresh
      rw [if_neg (by omega), if_pos v, List.length_append]
      omega
    · have h3 : (nums [m.id]).length ≤ 6 := nums_len [m.id] (by simp [a7 v])
      rw [if_neg (by omega), if_neg (by omega), if_pos v]
      omega
  · obtain ⟨a1, a2, a3, a4⟩ := f2 hk
    have h1 : (nums [m.boot, m.seq, m.code]).length ≤ 18 := nums_len [m.boot, m.seq, m.code] (by simp [a1, a2, a3])
    unfold partB
    rw [if_neg (by omega), if_pos hk]
    unfold replyB
    rw [List.length_append]
    by_cases hc : m.code = 0
    · obtain ⟨b1, b2, b3, b4⟩ := a4 hc
      have h2 : (nums [m.id, m.term]).length ≤ 12 := nums_len [m.id, m.term] (by simp [b1, b2])
      have h3 := stampB_len b3 b4
      rw [if_pos hc, List.length_append]
      omega
    · rw [if_neg hc, List.length_nil]
      omega
  · obtain ⟨a1, a2, a3, a4⟩ := f3 (.inl hk)
    have h1 : (nums [m.id]).length ≤ 6 := nums_len [m.id] (by simp [a1])
    have h2 := encT_len m.path (a4 hk)
    have h3 : (nums [m.origin, m.number]).length ≤ 12 := nums_len [m.origin, m.number] (by simp [a2, a3])
    unfold partB
    rw [if_neg (by omega), if_neg (by omega), if_pos hk]
    unfold recallB
    rw [List.length_append, List.length_append]
    unfold p
    omega
  · obtain ⟨a1, a2, a3, a4⟩ := f3 (.inr hk)
    have h1 : (nums [m.id, m.origin, m.number]).length ≤ 18 := nums_len [m.id, m.origin, m.number] (by simp [a1, a2, a3])
    unfold partB
    rw [if_neg (by omega), if_neg (by omega), if_neg (by omega), if_pos hk]
    unfold doneB
    omega
  · obtain ⟨a1, a2, a3, a4⟩ := f5 hk
    have h1 : (nums [m.mode]).length ≤ 6 := nums_len [m.mode] (by simp [a2])
    have h2 := encT_len m.path a1
    have h3 := stampB_len a3 a4
    unfold partB
    rw [if_neg (by omega), if_neg (by omega), if_neg (by omega), if_neg (by omega), if_pos hk]
    unfold opB
    rw [List.length_append, List.length_append]
    unfold p
    omega
end Go.Proofs.Ytbjemihcbbiiaaa.WM
