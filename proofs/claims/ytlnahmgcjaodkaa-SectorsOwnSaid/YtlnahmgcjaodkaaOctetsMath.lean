/- The forms of layer 2 as lists of bytes: a number's form, how it is taken up again, that there and back is the same and that there is one form alone. -/
import Init.Data.List.Lemmas
import Init.Data.UInt.Lemmas
import Init.Omega
namespace Go.Proofs.Ytlnahmgcjaodkaa.OM

/-- The byte of a number below 256. -/
abbrev by8 (n : Nat) : UInt8 := UInt8.ofNat n
theorem by8_nat {n : Nat} (h : n < 256) : (by8 n).toNat = n := by
  show (UInt8.ofNat n).toNat = n
  rw [UInt8.toNat_ofNat']
  exact Nat.mod_eq_of_lt h

/-- A number's form. -/
def enc (n : Nat) : List UInt8 := if h : n < 128 then [by8 n] else by8 (n % 128 + 128) :: enc (n / 128)
termination_by n
decreasing_by omega
theorem enc_last {n : Nat} (h : n < 128) : enc n = [by8 n] := by rw [enc, dif_pos h]
theorem enc_more {n : Nat} (h : 128 ≤ n) : enc n = by8 (n % 128 + 128) :: enc (n / 128) := by rw [enc, dif_neg (by omega)]
theorem enc_pos (n : Nat) : 1 ≤ (enc n).length := by
  by_cases h : n < 128
  · rw [enc_last h]; simp
  · rw [enc_more (by omega)]; simp
theorem enc_le : ∀ (k n : Nat), n < 128 ^ (k + 1) → (enc n).length ≤ k + 1 := by
  intro k
  induction k with
  | zero => intro n h; rw [enc_last (by simpa using h)]; simp
  | succ k ih =>
    intro n h
    by_cases h1 : n < 128
    · rw [enc_last h1]; simp
    · rw [enc_more (by omega), List.length_cons]
      have := ih (n / 128) (by rw [Nat.div_lt_iff_lt_mul (by omega)]; rw [Nat.pow_succ] at h; exact h)
      omega
theorem enc_nine {n : Nat} (h : n ≤ 9223372036854775807) : (enc n).length ≤ 9 := enc_le 8 n (by omega)

/-- Taking a number up: the number, how many bytes, the error. -/
def tk : Nat → Nat → Nat → List UInt8 → Nat × Nat × Nat
  | 0, _, _, _ => (0, 0, 21)
  | _ + 1, _, _, [] => (0, 0, 20)
  | k + 1, i, n, c :: r =>
    if c.toNat < 128 then (if c.toNat = 0 ∧ 0 < i then (0, 0, 21) else (n + c.toNat * 128 ^ i, i + 1, 0))
    else tk k (i + 1) (n + (c.toNat - 128) * 128 ^ i) r
def take (b : List UInt8) : Nat × Nat × Nat := tk 9 0 0 b

theorem tk_enc : ∀ (k i acc n : Nat) (r : List UInt8), n < 128 ^ k → (n ≠ 0 ∨ i = 0) → 0 < k → tk k i acc (enc n ++ r) = (acc + n * 128 ^ i, i + (enc n).length, 0) := by
  intro k
  induction k with
  | zero => intro i acc n r _ _ h; omega
  | succ k ih =>
    intro i acc n r h h0 _
    by_cases h1 : n < 128
    · rw [enc_last h1]
      simp only [List.cons_append, List.nil_append, tk, by8_nat (show n < 256 by omega), if_pos h1]
      rw [if_neg (by omega)]
      rfl
    · rw [enc_more (by omega)]
      have e : (by8 (n % 128 + 128)).toNat = n % 128 + 128 := by8_nat (by omega)
      simp only [List.cons_append, tk, e]
      rw [if_neg (by omega)]
      have hk : n / 128 < 128 ^ k := by rw [Nat.div_lt_iff_lt_mul (by omega)]; rw [Nat.pow_succ] at h; exact h
      have hk0 : 0 < k := by
        rcases Nat.eq_zero_or_pos k with hz | hz
        · subst hz; simp at hk; omega
        · exact hz
      rw [ih (i + 1) _ (n / 128) r hk (by left; omega) hk0]
      have e1 : n % 128 + 128 - 128 = n % 128 := by omega
      have e2 : n / 128 * 128 ^ (i + 1) = 128 * (n / 128) * 128 ^ i := by
        rw [Nat.pow_succ, Nat.mul_comm (128 ^ i) 128, ← Nat.mul_assoc, Nat.mul_comm (n / 128) 128]
      have e3 : acc + n % 128 * 128 ^ i + 128 * (n / 128) * 128 ^ i = acc + n * 128 ^ i := by
        have e4 : n % 128 + 128 * (n / 128) = n := by omega
        rw [Nat.add_assoc, ← Nat.add_mul, e4]
      rw [e1, e2, e3]
      simp only [List.length_cons, Prod.mk.injEq, true_and, and_true]
      omega
theorem take_enc (n : Nat) (r : List UInt8) (h : n ≤ 9223372036854775807) : take (enc n ++ r) = (n, (enc n).length, 0) := by
  unfold take
  have h9 : n < 128 ^ 9 := Nat.lt_of_le_of_lt h (by decide)
  rw [tk_enc 9 0 0 n r h9 (.inr rfl) (by omega), Nat.pow_zero, Nat.mul_one, Nat.zero_add, Nat.zero_add]

theorem tk_one : ∀ (k i acc : Nat) (b : List UInt8) (n s : Nat), tk k i acc b = (n, s, 0) →
    ∃ m, n = acc + m * 128 ^ i ∧ m < 128 ^ k ∧ s = i + (enc m).length ∧ enc m ++ b.drop (enc m).length = b ∧ (m ≠ 0 ∨ i = 0) := by
  intro k
  induction k with
  | zero => intro i acc b n s h; simp [tk] at h
  | succ k ih =>
    intro i acc b n s h
    cases b with
    | nil => simp [tk] at h
    | cons c r =>
      simp only [tk] at h
      have hp : 0 < 128 ^ k := Nat.pow_pos (by omega)
      by_cases h1 : c.toNat < 128
      · rw [if_pos h1] at h
        by_cases h2 : c.toNat = 0 ∧ 0 < i
        · rw [if_pos h2] at h; simp at h
        · rw [if_neg h2] at h
          simp only [Prod.mk.injEq, and_true] at h
          refine ⟨c.toNat, h.1.symm, by rw [Nat.pow_succ]; omega, ?_, ?_, by omega⟩
          · rw [enc_last h1]; simp; omega
          · rw [enc_last h1]; simp
      · rw [if_neg h1] at h
        obtain ⟨m, h2, h3, h4, h5, h6⟩ := ih _ _ _ _ _ h
        have hc : c.toNat < 256 := c.toNat_lt
        have hm : m ≠ 0 := by omega
        have e0 : (m * 128 + (c.toNat - 128)) % 128 = c.toNat - 128 := by omega
        have e1 : (m * 128 + (c.toNat - 128)) / 128 = m := by omega
        have e : enc (m * 128 + (c.toNat - 128)) = c :: enc m := by
          have e2 : by8 (c.toNat - 128 + 128) = c := by
            apply UInt8.toNat_inj.1
            rw [by8_nat (by omega)]
            omega
          rw [enc_more (by omega), e0, e1, e2]
        refine ⟨m * 128 + (c.toNat - 128), ?_, ?_, ?_, ?_, by left; omega⟩
        · rw [h2, Nat.pow_succ, Nat.add_mul]
          have : m * (128 ^ i * 128) = m * 128 * 128 ^ i := by rw [Nat.mul_comm (128 ^ i) 128, Nat.mul_assoc]
          omega
        · rw [Nat.pow_succ]
          have : (m + 1) * 128 ≤ 128 ^ k * 128 := Nat.mul_le_mul_right _ h3
          omega
        · rw [e, List.length_cons]; omega
        · rw [e]
          simp only [List.length_cons, List.drop_succ_cons, List.cons_append, h5]
theorem take_one {b : List UInt8} {n s : Nat} (h : take b = (n, s, 0)) : n ≤ 9223372036854775807 ∧ s = (enc n).length ∧ enc n ++ b.drop s = b := by
  obtain ⟨m, h2, h3, h4, h5, _⟩ := tk_one 9 0 0 b n s h
  rw [Nat.pow_zero, Nat.mul_one, Nat.zero_add] at h2
  rw [Nat.zero_add] at h4
  subst h2
  subst h4
  have h9 : n < 9223372036854775808 := Nat.lt_of_lt_of_le h3 (by decide)
  exact ⟨by omega, rfl, h5⟩
theorem take_le {b : List UInt8} {n s : Nat} (h : take b = (n, s, 0)) : s ≤ b.length := by
  obtain ⟨_, _, h5⟩ := take_one h
  rw [← h5, List.length_append]
  have := (take_one h).2.1
  omega
theorem tk_err : ∀ (k i acc : Nat) (b : List UInt8), ((tk k i acc b).2.2 = 0) ∨ tk k i acc b = (0, 0, 20) ∨ tk k i acc b = (0, 0, 21) := by
  intro k
  induction k with
  | zero => intro i acc b; simp [tk]
  | succ k ih =>
    intro i acc b
    cases b with
    | nil => simp [tk]
    | cons c r =>
      simp only [tk]
      by_cases h1 : c.toNat < 128
      · rw [if_pos h1]
        by_cases h2 : c.toNat = 0 ∧ 0 < i
        · rw [if_pos h2]; simp
        · rw [if_neg h2]; simp
      · rw [if_neg h1]; exact ih _ _ _
theorem take_err (b : List UInt8) : (∃ n s, take b = (n, s, 0)) ∨ take b = (0, 0, 20) ∨ take b = (0, 0, 21) := by
  rcases tk_err 9 0 0 b with h | h | h
  · left
    refine ⟨(take b).1, (take b).2.1, ?_⟩
    have : (take b).2.2 = 0 := h
    rw [← this]
  · exact .inr (.inl h)
  · exact .inr (.inr h)

/-- The next number of a reader: what it answers, what is left, the error. -/
def rnum (l : List UInt8) (e : Nat) : Nat × List UInt8 × Nat :=
  if e ≠ 0 then (0, l, e) else if (take l).2.2 ≠ 0 then (0, l, (take l).2.2) else ((take l).1, l.drop (take l).2.1, 0)
/-- The next text. -/
def rtext (l : List UInt8) (e : Nat) (most : Int) : List UInt8 × List UInt8 × Nat :=
  if e ≠ 0 then ([], l, e) else if (take l).2.2 ≠ 0 then ([], l, (take l).2.2)
  else if (max most 0) < ((take l).1 : Int) then ([], l, 21)
  else if l.length - (take l).2.1 < (take l).1 then ([], l, 20)
  else ((l.drop (take l).2.1).take (take l).1, l.drop ((take l).2.1 + (take l).1), 0)

/-- A text's form. -/
def encT (s : List UInt8) : List UInt8 := enc s.length ++ s

theorem rnum_enc (n : Nat) (r : List UInt8) (h : n ≤ 9223372036854775807) : rnum (enc n ++ r) 0 = (n, r, 0) := by
  unfold rnum
  rw [if_neg (by simp), take_enc n r h]
  simp
theorem rtext_enc (s r : List UInt8) (most : Int) (h : s.length ≤ 9223372036854775807) (hm : (s.length : Int) ≤ max most 0) : rtext (encT s ++ r) 0 most = (s, r, 0) := by
  unfold rtext encT
  rw [if_neg (by simp), List.append_assoc, take_enc _ _ h]
  simp only [ne_eq, not_true_eq_false, if_false]
  rw [if_neg (by omega), if_neg (by simp)]
  simp only [List.drop_left, Prod.mk.injEq, and_true]
  refine ⟨List.take_left, ?_⟩
  rw [← List.drop_drop, List.drop_left, List.drop_left]
theorem rnum_one {l r : List UInt8} {n : Nat} (h : rnum l 0 = (n, r, 0)) : n ≤ 9223372036854775807 ∧ l = enc n ++ r := by
  unfold rnum at h
  rw [if_neg (by simp)] at h
  rcases take_err l with ⟨a, s, ht⟩ | ht | ht
  · rw [ht] at h
    simp at h
    obtain ⟨h1, h2, h3⟩ := take_one ht
    rw [← h.1, ← h.2]
    exact ⟨h1, h3.symm⟩
  · rw [ht] at h; simp at h
  · rw [ht] at h; simp at h
theorem rtext_one {l r s : List UInt8} {most : Int} (h : rtext l 0 most = (s, r, 0)) : s.length ≤ 9223372036854775807 ∧ l = encT s ++ r := by
  unfold rtext at h
  rw [if_neg (by simp)] at h
  rcases take_err l with ⟨a, k, ht⟩ | ht | ht
  · have ht' := ht
    rw [ht] at h
    simp only [ne_eq, not_true_eq_false, if_false] at h
    by_cases h1 : max most 0 < (a : Int)
    · rw [if_pos h1] at h; simp at h
    · rw [if_neg h1] at h
      by_cases h2 : l.length - k < a
      · rw [if_pos h2] at h; simp at h
      · rw [if_neg h2] at h
        simp only [Prod.mk.injEq, and_true] at h
        obtain ⟨g1, g2, g3⟩ := take_one ht'
        obtain ⟨h3, h4⟩ := h
        have hl : s.length = a := by rw [← h3, List.length_take, List.length_drop]; omega
        refine ⟨by omega, ?_⟩
        rw [← h4, ← List.drop_drop]
        unfold encT
        rw [hl, List.append_assoc, ← h3, List.take_append_drop, g3]
  · rw [ht] at h; simp at h
  · rw [ht] at h; simp at h
theorem rnum_err (l : List UInt8) (e : Nat) : (rnum l e).2.2 = e ∨ (e = 0 ∧ ((rnum l e).2.2 = 20 ∨ (rnum l e).2.2 = 21)) := by
  unfold rnum
  by_cases h : e ≠ 0
  · rw [if_pos h]; simp
  · rw [if_neg h]
    have h0 : e = 0 := by omega
    subst h0
    rcases take_err l with ⟨a, s, ht⟩ | ht | ht <;> rw [ht] <;> simp
theorem rtext_err (l : List UInt8) (e : Nat) (most : Int) : (rtext l e most).2.2 = e ∨ (e = 0 ∧ ((rtext l e most).2.2 = 20 ∨ (rtext l e most).2.2 = 21)) := by
  unfold rtext
  by_cases h : e ≠ 0
  · rw [if_pos h]; simp
  · rw [if_neg h]
    have h0 : e = 0 := by omega
    subst h0
    rcases take_err l with ⟨a, s, ht⟩ | ht | ht <;> rw [ht]
    · simp only [ne_eq, not_true_eq_false, if_false]
      split
      · simp
      · split <;> simp
    · simp
    · simp
/-- With an error nothing is taken. -/
theorem rnum_stay {l : List UInt8} {e : Nat} (h : (rnum l e).2.2 ≠ 0) : (rnum l e).2.1 = l ∧ (rnum l e).1 = 0 := by
  unfold rnum at h ⊢
  by_cases h0 : e ≠ 0
  · rw [if_pos h0]; simp
  · rw [if_neg h0] at h ⊢
    by_cases h1 : (take l).2.2 ≠ 0
    · rw [if_pos h1]; simp
    · rw [if_neg h1] at h; simp at h
theorem rtext_stay {l : List UInt8} {e : Nat} {most : Int} (h : (rtext l e most).2.2 ≠ 0) : (rtext l e most).2.1 = l ∧ (rtext l e most).1 = [] := by
  unfold rtext at h ⊢
  by_cases h0 : e ≠ 0
  · rw [if_pos h0]; simp
  · rw [if_neg h0] at h ⊢
    by_cases h1 : (take l).2.2 ≠ 0
    · rw [if_pos h1]; simp
    · rw [if_neg h1] at h ⊢
      by_cases h2 : (max most 0) < ((take l).1 : Int)
      · rw [if_pos h2]; simp
      · rw [if_neg h2] at h ⊢
        by_cases h3 : l.length - (take l).2.1 < (take l).1
        · rw [if_pos h3]; simp
        · rw [if_neg h3] at h; simp at h
end Go.Proofs.Ytlnahmgcjaodkaa.OM
