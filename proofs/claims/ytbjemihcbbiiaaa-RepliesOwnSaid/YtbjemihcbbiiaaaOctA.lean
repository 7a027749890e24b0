/- Texts that belong together: OctetsMath, OctetsSumMath, OctetsBase. -/
import Init.Data.List.Lemmas
import Init.Data.UInt.Lemmas
import Init.Omega
import Init.Data.Nat.Bitwise.Lemmas
import Derived.Test.YtbjemihcbbiiaaaMem
import Derived.WalkKit
import Derived.WalkSpells
import Derived.WalkLawsBesides
import Derived.WalkMore
import Derived.StillTactics
import Derived.RegionTactic
import Derived.Deep.QuietTactic
import Derived.BigQuiet
import Derived.Lib.Hide
import Derived.Lib.Strings
import Derived.Deep.RegionHeld3
import Derived.Deep.RegionLaw
import Derived.Deep.AppendLies
import Derived.Deep.DeepCutAuto
import Derived.Laws.AppendOwnNone
import Derived.Laws.BitsAllLaws
import Derived.Laws.BytesString
import Derived.KernelRfl
namespace Go.Proofs.Ytbjemihcbbiiaaa.OM

/-- The byte of a number below 256. -/
abbrev by8 (n : Nat) : UInt8 := UInt8.ofNat n
theorem by8_nat {n : Nat} (h : n < 256) : (by8 n).toNat = n := by
  show (UInt8.ofNat n).toNat = n
  rw [UInt8.toNat_ofNat']
  exact Nat.mod_eq_of_lt h

/-- A number's form. -/
def enc (n : Nat) : List UInt8 := if h : n < 128 then [by8 n] else by8 (n % 128 + 128) :: enc (n / 128)
termination_by n
decreasing_by omega
theorem enc_last {n : Nat} (h : n < 128) : enc n = [by8 n] := by rw [enc, dif_pos h]
theorem enc_more {n : Nat} (h : 128 ≤ n) : enc n = by8 (n % 128 + 128) :: enc (n / 128) := by rw [enc, dif_neg (by omega)]
theorem enc_pos (n : Nat) : 1 ≤ (enc n).length := by
  by_cases h : n < 128
  · rw [enc_last h]; simp
  · rw [enc_more (by omega)]; simp
theorem enc_le : ∀ (k n : Nat), n < 128 ^ (k + 1) → (enc n).length ≤ k + 1 := by
  intro k
  induction k with
  | zero => intro n h; rw [enc_last (by simpa using h)]; simp
  | succ k ih =>
    intro n h
    by_cases h1 : n < 128
    · rw [enc_last h1]; simp
    · rw [enc_more (by omega), List.length_cons]
      have := ih (n / 128) (by rw [Nat.div_lt_iff_lt_mul (by omega)]; rw [Nat.pow_succ] at h; exact h)
      omega
theorem enc_nine {n : Nat} (h : n ≤ 9223372036854775807) : (enc n).length ≤ 9 := enc_le 8 n (by omega)

/-- Taking a number up: the number, how many bytes, the error. -/
def tk : Nat → Nat → Nat → List UInt8 → Nat × Nat × Nat
  | 0, _, _, _ => (0, 0, 21)
  | _ + 1, _, _, [] => (0, 0, 20)
  | k + 1, i, n, c :: r =>
    if c.toNat < 128 then (if c.toNat = 0 ∧ 0 < i then (0, 0, 21) else (n + c.toNat * 128 ^ i, i + 1, 0))
    else tk k (i + 1) (n + (c.toNat - 128) * 128 ^ i) r
def take (b : List UInt8) : Nat × Nat × Nat := tk 9 0 0 b

theorem tk_enc : ∀ (k i acc n : Nat) (r : List UInt8), n < 128 ^ k → (n ≠ 0 ∨ i = 0) → 0 < k → tk k i acc (enc n ++ r) = (acc + n * 128 ^ i, i + (enc n).length, 0) := by
  intro k
  induction k with
  | zero => intro i acc n r _ _ h; omega
  | succ k ih =>
    intro i acc n r h h0 _
    by_cases h1 : n < 128
    · rw [enc_last h1]
      simp only [List.cons_append, List.nil_append, tk, by8_nat (show n < 256 by omega), if_pos h1]
      rw [if_neg (by omega)]
      rfl
    · rw [enc_more (by omega)]
      have e : (by8 (n % 128 + 128)).toNat = n % 128 + 128 := by8_nat (by omega)
      simp only [List.cons_append, tk, e]
      rw [if_neg (by omega)]
      have hk : n / 128 < 128 ^ k := by rw [Nat.div_lt_iff_lt_mul (by omega)]; rw [Nat.pow_succ] at h; exact h
      have hk0 : 0 < k := by
        rcases Nat.eq_zero_or_pos k with hz | hz
        · subst hz; simp at hk; omega
        · exact hz
      rw [ih (i + 1) _ (n / 128) r hk (by left; omega) hk0]
      have e1 : n % 128 + 128 - 128 = n % 128 := by omega
      have e2 : n / 128 * 128 ^ (i + 1) = 128 * (n / 128) * 128 ^ i := by
        rw [Nat.pow_succ, Nat.mul_comm (128 ^ i) 128, ← Nat.mul_assoc, Nat.mul_comm (n / 128) 128]
      have e3 : acc + n % 128 * 128 ^ i + 128 * (n / 128) * 128 ^ i = acc + n * 128 ^ i := by
        have e4 : n % 128 + 128 * (n / 128) = n := by omega
        rw [Nat.add_assoc, ← Nat.add_mul, e4]
      rw [e1, e2, e3]
      simp only [List.length_cons, Prod.mk.injEq, true_and, and_true]
      omega
theorem take_enc (n : Nat) (r : List UInt8) (h : n ≤ 9223372036854775807) : take (enc n ++ r) = (n, (enc n).length, 0) := by
  unfold take
  have h9 : n < 128 ^ 9 := Nat.lt_of_le_of_lt h (by decide)
  rw [tk_enc 9 0 0 n r h9 (.inr rfl) (by omega), Nat.pow_zero, Nat.mul_one, Nat.zero_add, Nat.zero_add]

theorem tk_one : ∀ (k i acc : Nat) (b : List UInt8) (n s : Nat), tk k i acc b = (n, s, 0) →
    ∃ m, n = acc + m * 128 ^ i ∧ m < 128 ^ k ∧ s = i + (enc m).length ∧ enc m ++ b.drop (enc m).length = b ∧ (m ≠ 0 ∨ i = 0) := by
  intro k
  induction k with
  | zero => intro i acc b n s h; simp [tk] at h
  | succ k ih =>
    intro i acc b n s h
    cases b with
    | nil => simp [tk] at h
    | cons c r =>
      simp only [tk] at h
      have hp : 0 < 128 ^ k := Nat.pow_pos (by omega)
      by_cases h1 : c.toNat < 128
      · rw [if_pos h1] at h
        by_cases h2 : c.toNat = 0 ∧ 0 < i
        · rw [if_pos h2] at h; simp at h
        · rw [if_neg h2] at h
          simp only [Prod.mk.injEq, and_true] at h
          refine ⟨c.toNat, h.1.symm, by rw [Nat.pow_succ]; omega, ?_, ?_, by omega⟩
          · rw [enc_last h1]; simp; omega
          · rw [enc_last h1]; simp
      · rw [if_neg h1] at h
        obtain ⟨m, h2, h3, h4, h5, h6⟩ := ih _ _ _ _ _ h
        have hc : c.toNat < 256 := c.toNat_lt
        have hm : m ≠ 0 := by omega
        have e0 : (m * 128 + (c.toNat - 128)) % 128 = c.toNat - 128 := by omega
        have e1 : (m * 128 + (c.toNat - 128)) / 128 = m := by omega
        have e : enc (m * 128 + (c.toNat - 128)) = c :: enc m := by
          have e2 : by8 (c.toNat - 128 + 128) = c := by
            apply UInt8.toNat_inj.1
            rw [by8_nat (by omega)]
            omega
          rw [enc_more (by omega), e0, e1, e2]
        refine ⟨m * 128 + (c.toNat - 128), ?_, ?_, ?_, ?_, by left; omega⟩
        · rw [h2, Nat.pow_succ, Nat.add_mul]
          have : m * (128 ^ i * 128) = m * 128 * 128 ^ i := by rw [Nat.mul_comm (128 ^ i) 128, Nat.mul_assoc]
          omega
        · rw [Nat.pow_succ]
          have : (m + 1) * 128 ≤ 128 ^ k * 128 := Nat.mul_le_mul_right _ h3
          omega
        · rw [e, List.length_cons]; omega
        · rw [e]
          simp only [List.length_cons, List.drop_succ_cons, List.cons_append, h5]
theorem take_one {b : List UInt8} {n s : Nat} (h : take b = (n, s, 0)) : n ≤ 9223372036854775807 ∧ s = (enc n).length ∧ enc n ++ b.drop s = b := by
  obtain ⟨m, h2, h3, h4, h5, _⟩ := tk_one 9 0 0 b n s h
  rw [Nat.pow_zero, Nat.mul_one, Nat.zero_add] at h2
  rw [Nat.zero_add] at h4
  subst h2
  subst h4
  have h9 : n < 9223372036854775808 := Nat.lt_of_lt_of_le h3 (by decide)
  exact ⟨by omega, rfl, h5⟩
theorem take_le {b : List UInt8} {n s : Nat} (h : take b = (n, s, 0)) : s ≤ b.length := by
  obtain ⟨_, _, h5⟩ := take_one h
  rw [← h5, List.length_append]
  have := (take_one h).2.1
  omega
theorem tk_err : ∀ (k i acc : Nat) (b : List UInt8), ((tk k i acc b).2.2 = 0) ∨ tk k i acc b = (0, 0, 20) ∨ tk k i acc b = (0, 0, 21) := by
  intro k
  induction k with
  | zero => intro i acc b; simp [tk]
  | succ k ih =>
    intro i acc b
    cases b with
    | nil => simp [tk]
    | cons c r =>
      simp only [tk]
      by_cases h1 : c.toNat < 128
      · rw [if_pos h1]
        by_cases h2 : c.toNat = 0 ∧ 0 < i
        · rw [if_pos h2]; simp
        · rw [if_neg h2]; simp
      · rw [if_neg h1]; exact ih _ _ _
theorem take_err (b : List UInt8) : (∃ n s, take b = (n, s, 0)) ∨ take b = (0, 0, 20) ∨ take b = (0, 0, 21) := by
  rcases tk_err 9 0 0 b with h | h | h
  · left
    refine ⟨(take b).1, (take b).2.1, ?_⟩
    have : (take b).2.2 = 0 := h
    rw [← this]
  · exact .inr (.inl h)
  · exact .inr (.inr h)

/-- The next number of a reader: what it answers, what is left, the error. -/
def rnum (l : List UInt8) (e : Nat) : Nat × List UInt8 × Nat :=
  if e ≠ 0 then (0, l, e) else if (take l).2.2 ≠ 0 then (0, l, (take l).2.2) else ((take l).1, l.drop (take l).2.1, 0)
/-- The next text. -/
def rtext (l : List UInt8) (e : Nat) (most : Int) : List UInt8 × List UInt8 × Nat :=
  if e ≠ 0 then ([], l, e) else if (take l).2.2 ≠ 0 then ([], l, (take l).2.2)
  else if (max most 0) < ((take l).1 : Int) then ([], l, 21)
  else if l.length - (take l).2.1 < (take l).1 then ([], l, 20)
  else ((l.drop (take l).2.1).take (take l).1, l.drop ((take l).2.1 + (take l).1), 0)

/-- A text's form. -/
def encT (s : List UInt8) : List UInt8 := enc s.length ++ s

theorem rnum_enc (n : Nat) (r : List UInt8) (h : n ≤ 9223372036854775807) : rnum (enc n ++ r) 0 = (n, r, 0) := by
  unfold rnum
  rw [if_neg (by simp), take_enc n r h]
  simp
theorem rtext_enc (s r : List UInt8) (most : Int) (h : s.length ≤ 9223372036854775807) (hm : (s.length : Int) ≤ max most 0) : rtext (encT s ++ r) 0 most = (s, r, 0) := by
  unfold rtext encT
  rw [if_neg (by simp), List.append_assoc, take_enc _ _ h]
  simp only [ne_eq, not_true_eq_false, if_false]
  rw [if_neg (by omega), if_neg (by simp)]
  simp only [List.drop_left, Prod.mk.injEq, and_true]
  refine ⟨List.take_left, ?_⟩
  rw [← List.drop_drop, List.drop_left, List.drop_left]
theorem rnum_one {l r : List UInt8} {n : Nat} (h : rnum l 0 = (n, r, 0)) : n ≤ 9223372036854775807 ∧ l = enc n ++ r := by
  unfold rnum at h
  rw [if_neg (by simp)] at h
  rcases take_err l with ⟨a, s, ht⟩ | ht | ht
  · rw [ht] at h
    simp at h
    obtain ⟨h1, h2, h3⟩ := take_one ht
    rw [← h.1, ← h.2]
    exact ⟨h1, h3.symm⟩
  · rw [ht] at h; simp at h
  · rw [ht] at h; simp at h
theorem rtext_one {l r s : List UInt8} {most : Int} (h : rtext l 0 most = (s, r, 0)) : s.length ≤ 9223372036854775807 ∧ l = encT s ++ r := by
  unfold rtext at h
  rw [if_neg (by simp)] at h
  rcases take_err l with ⟨a, k, ht⟩ | ht | ht
  · have ht' := ht
    rw [ht] at h
    simp only [ne_eq, not_true_eq_false, if_false] at h
    by_cases h1 : max most 0 < (a : Int)
    · rw [if_pos h1] at h; simp at h
    · rw [if_neg h1] at h
      by_cases h2 : l.length - k < a
      · rw [if_pos h2] at h; simp at h
      · rw [if_neg h2] at h
        simp only [Prod.mk.injEq, and_true] at h
        obtain ⟨g1, g2, g3⟩ := take_one ht'
        obtain ⟨h3, h4⟩ := h
        have hl : s.length = a := by rw [← h3, List.length_take, List.length_drop]; omega
        refine ⟨by omega, ?_⟩
        rw [← h4, ← List.drop_drop]
        unfold encT
        rw [hl, List.append_assoc, ← h3, List.take_append_drop, g3]
  · rw [ht] at h; simp at h
  · rw [ht] at h; simp at h
theorem rnum_err (l : List UInt8) (e : Nat) : (rnum l e).2.2 = e ∨ (e = 0 ∧ ((rnum l e).2.2 = 20 ∨ (rnum l e).2.2 = 21)) := by
  unfold rnum
  by_cases h : e ≠ 0
  · rw [if_pos h]; simp
  · rw [if_neg h]
    have h0 : e = 0 := by omega
    subst h0
    rcases take_err l with ⟨a, s, ht⟩ | ht | ht <;> rw [ht] <;> simp
theorem rtext_err (l : List UInt8) (e : Nat) (most : Int) : (rtext l e most).2.2 = e ∨ (e = 0 ∧ ((rtext l e most).2.2 = 20 ∨ (rtext l e most).2.2 = 21)) := by
  unfold rtext
  by_cases h : e ≠ 0
  · rw [if_pos h]; simp
  · rw [if_neg h]
    have h0 : e = 0 := by omega
    subst h0
    rcases take_err l with ⟨a, s, ht⟩ | ht | ht <;> rw [ht]
    · simp only [ne_eq, not_true_eq_false, if_false]
      split
      · simp
      · split <;> simp
    · simp
    · simp
/-- With an error nothing is taken. -/
theorem rnum_stay {l : List UInt8} {e : Nat} (h : (rnum l e).2.2 ≠ 0) : (rnum l e).2.1 = l ∧ (rnum l e).1 = 0 := by
  unfold rnum at h ⊢
  by_cases h0 : e ≠ 0
  · rw [if_pos h0]; simp
  · rw [if_neg h0] at h ⊢
    by_cases h1 : (take l).2.2 ≠ 0
    · rw [if_pos h1]; simp
    · rw [if_neg h1] at h; simp at h
theorem rtext_stay {l : List UInt8} {e : Nat} {most : Int} (h : (rtext l e most).2.2 ≠ 0) : (rtext l e most).2.1 = l ∧ (rtext l e most).1 = [] := by
  unfold rtext at h ⊢
  by_cases h0 : e ≠ 0
  · rw [if_pos h0]; simp
  · rw [if_neg h0] at h ⊢
    by_cases h1 : (take l).2.2 ≠ 0
    · rw [if_pos h1]; simp
    · rw [if_neg h1] at h ⊢
      by_cases h2 : (max most 0) < ((take l).1 : Int)
      · rw [if_pos h2]; simp
      · rw [if_neg h2] at h ⊢
        by_cases h3 : l.length - (take l).2.1 < (take l).1
        · rw [if_pos h3]; simp
        · rw [if_neg h3] at h; simp at h
end Go.Proofs.Ytbjemihcbbiiaaa.OM
namespace Go.Proofs.Ytbjemihcbbiiaaa.OM

/-- One shift of the register. -/
def sh (x : Nat) : Nat := if x % 2 = 1 then (x / 2) ^^^ 3988292384 else x / 2
def shN : Nat → Nat → Nat
  | 0, x => x
  | k + 1, x => shN k (sh x)
def crc (l : List UInt8) (x : Nat) : Nat := l.foldl (fun x c => shN 8 (x ^^^ c.toNat)) x
def sum (l : List UInt8) : Nat := crc l 4294967295 ^^^ 4294967295

theorem sh_lt {x : Nat} (h : x < 4294967296) : sh x < 4294967296 := by
  unfold sh
  split
  · exact Nat.xor_lt_two_pow (n := 32) (by omega) (by omega)
  · omega
theorem shN_lt : ∀ (k : Nat) {x : Nat}, x < 4294967296 → shN k x < 4294967296
  | 0, _, h => h
  | k + 1, _, h => shN_lt k (sh_lt h)
theorem xor_byte_lt {x : Nat} (c : UInt8) (h : x < 4294967296) : x ^^^ c.toNat < 4294967296 := by
  have := c.toNat_lt
  exact Nat.xor_lt_two_pow (n := 32) h (by omega)
theorem crc_nil (x : Nat) : crc [] x = x := rfl
theorem crc_cons (c : UInt8) (l : List UInt8) (x : Nat) : crc (c :: l) x = crc l (shN 8 (x ^^^ c.toNat)) := rfl
theorem crc_append (a b : List UInt8) (x : Nat) : crc (a ++ b) x = crc b (crc a x) := by
  unfold crc
  rw [List.foldl_append]
theorem crc_lt : ∀ (l : List UInt8) {x : Nat}, x < 4294967296 → crc l x < 4294967296
  | [], _, h => h
  | c :: l, _, h => by
    rw [crc_cons]
    exact crc_lt l (shN_lt 8 (xor_byte_lt c h))
theorem xor_half (a b : Nat) : (a ^^^ b) / 2 = a / 2 ^^^ b / 2 := by
  have h := Nat.shiftRight_xor_distrib (a := a) (b := b) (i := 1)
  rw [Nat.shiftRight_eq_div_pow, Nat.shiftRight_eq_div_pow, Nat.shiftRight_eq_div_pow] at h
  exact h
theorem xor_odd (a b : Nat) : (a ^^^ b) % 2 = (a % 2 + b % 2) % 2 := by
  have h := Nat.xor_mod_two_pow (a := a) (b := b) (n := 1)
  rw [Nat.pow_one] at h
  rw [h]
  rcases Nat.mod_two_eq_zero_or_one a with h1 | h1 <;> rcases Nat.mod_two_eq_zero_or_one b with h2 | h2 <;> rw [h1, h2] <;> rfl
/-- Bit by bit, or the byte at once. -/
theorem sh_xor (x d : Nat) : sh (x ^^^ d) = (if d % 2 = x % 2 then x / 2 else x / 2 ^^^ 3988292384) ^^^ (d / 2) := by
  unfold sh
  rw [xor_half, xor_odd]
  by_cases h : d % 2 = x % 2
  · rw [if_neg (by omega), if_pos h]
  · rw [if_pos (by omega), if_neg h, Nat.xor_assoc, Nat.xor_assoc, Nat.xor_comm (d / 2)]
theorem half_top {x : Nat} (h : x < 4294967296) : (x / 2).testBit 31 = false := Nat.testBit_lt_two_pow (by omega)
theorem sh_inj {x y : Nat} (hx : x < 4294967296) (hy : y < 4294967296) (h : sh x = sh y) : x = y := by
  have tp : (3988292384 : Nat).testBit 31 = true := by decide
  have tx := half_top hx
  have ty := half_top hy
  unfold sh at h
  by_cases h1 : x % 2 = 1 <;> by_cases h2 : y % 2 = 1
  · rw [if_pos h1, if_pos h2] at h
    have e : x / 2 = y / 2 := by
      have := congrArg (· ^^^ 3988292384) h
      simpa [Nat.xor_assoc] using this
    omega
  · rw [if_pos h1, if_neg h2] at h
    have := congrArg (Nat.testBit · 31) h
    simp only [Nat.testBit_xor, tx, ty, tp] at this
    cases this
  · rw [if_neg h1, if_pos h2] at h
    have := congrArg (Nat.testBit · 31) h
    simp only [Nat.testBit_xor, tx, ty, tp] at this
    cases this
  · rw [if_neg h1, if_neg h2] at h
    omega
theorem shN_inj : ∀ (k : Nat) {x y : Nat}, x < 4294967296 → y < 4294967296 → shN k x = shN k y → x = y
  | 0, _, _, _, _, h => h
  | k + 1, _, _, hx, hy, h => sh_inj hx hy (shN_inj k (sh_lt hx) (sh_lt hy) h)
theorem xor_left {a b c : Nat} (h : a ^^^ b = a ^^^ c) : b = c := by
  have := congrArg (a ^^^ ·) h
  simpa [← Nat.xor_assoc] using this
theorem xor_right {a b c : Nat} (h : b ^^^ a = c ^^^ a) : b = c := by
  rw [Nat.xor_comm b, Nat.xor_comm c] at h
  exact xor_left h
theorem crc_inj : ∀ (l : List UInt8) {x y : Nat}, x < 4294967296 → y < 4294967296 → crc l x = crc l y → x = y
  | [], _, _, _, _, h => h
  | c :: l, _, _, hx, hy, h => by
    rw [crc_cons, crc_cons] at h
    have h1 := crc_inj l (shN_lt 8 (xor_byte_lt c hx)) (shN_lt 8 (xor_byte_lt c hy)) h
    exact xor_right (shN_inj 8 (xor_byte_lt c hx) (xor_byte_lt c hy) h1)
theorem sum_lt (l : List UInt8) : sum l < 4294967296 := Nat.xor_lt_two_pow (n := 32) (crc_lt l (by decide)) (by decide)
/-- One byte turned: another checksum. -/
theorem sum_turned (pre post : List UInt8) (c d : UInt8) (h : c ≠ d) : sum (pre ++ c :: post) ≠ sum (pre ++ d :: post) := by
  intro e
  have e1 := xor_right e
  rw [crc_append, crc_append, crc_cons, crc_cons] at e1
  have hp := crc_lt pre (x := 4294967295) (by decide)
  have e2 := crc_inj post (shN_lt 8 (xor_byte_lt c hp)) (shN_lt 8 (xor_byte_lt d hp)) e1
  have e3 := shN_inj 8 (xor_byte_lt c hp) (xor_byte_lt d hp) e2
  exact h (UInt8.toNat_inj.1 (xor_left e3))
theorem not32 {x : Nat} (h : x < 4294967296) : 4294967295 - x = x ^^^ 4294967295 := by
  have h1 := Nat.testBit_two_pow_sub_succ (n := 32) (x := x) (by omega)
  apply Nat.eq_of_testBit_eq
  intro i
  have e : (2 : Nat) ^ 32 - (x + 1) = 4294967295 - x := by omega
  rw [e] at h1
  rw [h1 i, Nat.testBit_xor]
  have e2 : (4294967295 : Nat) = 2 ^ 32 - 1 := by decide
  rw [e2, Nat.testBit_two_pow_sub_one]
  by_cases hi : i < 32
  · simp [hi]
  · have : x.testBit i = false := Nat.testBit_lt_two_pow (Nat.lt_of_lt_of_le h (Nat.pow_le_pow_right (n := 2) (i := 32) (by decide) (by omega)))
    simp [hi, this]
end Go.Proofs.Ytbjemihcbbiiaaa.OM
namespace Go.Proofs.Ytbjemihcbbiiaaa.Oct
open Go.RowKit
set_option maxRecDepth 100000

/-- A byte as a value, bytes as values. -/
def u8 (c : UInt8) : Value := .int .u8 (c.toNat : Int)
def u8s (l : List UInt8) : List Value := l.map u8
theorem u8s_len (l : List UInt8) : (u8s l).length = l.length := by simp [u8s]
theorem u8s_append (a b : List UInt8) : u8s (a ++ b) = u8s a ++ u8s b := by simp [u8s]
theorem one_u8 {l : List UInt8} : ∀ u ∈ u8s l, u.oneCell' = true := by
  intro u hu
  obtain ⟨x, _, rfl⟩ := List.mem_map.1 hu
  rfl
theorem info_u8 : (Try.prog.info? 5).map (fun i => (i.zero, i.size, i.bytes)) = some (some (.int .u8 0), 1, 1) := by kernel_rfl

section
variable {w w' : World} {g : Nat} {t : TypeId} {cs : Array Value}
end

section
variable {F G : List Nat} {a b c w : World}
end
/-- A writer at block a that has laid down L, on the blocks F. -/
def WAt (w : World) (a : Nat) (L : List UInt8) (F : List Nat) : Prop :=
  (L = [] ∧ F = [a] ∧ Whole w a 108 #[.pointer none, .int .i64 0]) ∨
  (∃ p g cap, F = [a, p, g] ∧ Whole w a 108 #[.pointer (some ⟨p, 0, none⟩), .int .i64 (L.length : Int)] ∧
    Whole w p 128 #[.slice (some ⟨g, 0, none⟩) L.length cap] ∧ w.ownsRow 0 5 1 (.slice (some ⟨g, 0, none⟩) L.length cap) L.length (u8s L))
theorem WAt.new (w : World) : WAt (w.alloc (.cells #[.pointer none, .int .i64 0] 108)) w.heap.size [] [w.heap.size] := .inl ⟨rfl, rfl, Whole.new w _ _⟩
theorem WAt.mod {w w' : World} {a : Nat} {L : List UInt8} {F G : List Nat} (h : WAt w a L F) (hm : Mod G w w') (hd : ∀ x ∈ F, x ∉ G) : WAt w' a L F := by
  rcases h with ⟨rfl, rfl, h⟩ | ⟨p, g, cap, rfl, h1, h2, h3⟩
  · exact .inl ⟨rfl, rfl, hm.whole h (hd a (by simp))⟩
  · exact .inr ⟨p, g, cap, rfl, hm.whole h1 (hd a (by simp)), hm.whole h2 (hd p (by simp)), hm.own h3 (fun k hk => by
      have e : g = k := by simpa [Value.ownBlock] using hk
      subst e
      exact hd g (by simp))⟩
theorem WAt.lt {w : World} {a : Nat} {L : List UInt8} {F : List Nat} (h : WAt w a L F) : ∀ x ∈ F, x < w.heap.size := by
  rcases h with ⟨rfl, rfl, h⟩ | ⟨p, g, cap, rfl, h1, h2, h3⟩
  · intro x hx
    have e : x = a := by simpa using hx
    rw [e]; exact h.lt
  · intro x hx
    have e : x = a ∨ x = p ∨ x = g := by simpa using hx
    rcases e with rfl | rfl | rfl
    · exact h1.lt
    · exact h2.lt
    · exact (h3.lt x rfl).2

/-- What a call on a writer leaves: it has laid down L by now. -/
def Laid (w : World) (a : Nat) (F : List Nat) (L : List UInt8) (w' : World) : Prop := ∃ F', WAt w' a L F' ∧ Mod F w w' ∧ ∀ x ∈ F', x ∈ F ∨ w.heap.size ≤ x
theorem Laid.refl {w : World} {a : Nat} {L : List UInt8} {F : List Nat} (h : WAt w a L F) : Laid w a F L w := ⟨F, h, Mod.refl F w, fun _ hx => .inl hx⟩
theorem Laid.then_ {w w1 w2 : World} {a : Nat} {L M : List UInt8} {F : List Nat} (h : Laid w a F L w1) (k : ∀ F1, WAt w1 a L F1 → Laid w1 a F1 M w2) : Laid w a F M w2 := by
  obtain ⟨F1, h1, h2, h3⟩ := h
  obtain ⟨F2, k1, k2, k3⟩ := k F1 h1
  exact ⟨F2, k1, h2.trans k2 h3, fun x hx => (k3 x hx).elim (h3 x) (fun hs => .inr (Nat.le_trans h2.size hs))⟩

/-- A slice that reads as bytes, nil let in; its cells lie in block b. -/
def BytesAt (w : World) (A : Option Addr) (xs : List UInt8) : Prop :=
  0 < xs.length → ∃ b o, A = some ⟨b, o, none⟩ ∧ b < w.heap.size ∧ ∀ j x, xs[j]? = some x → w.cell? ⟨b, o + j, none⟩ = some (u8 x)
theorem BytesAt.nil (w : World) (A : Option Addr) : BytesAt w A [] := fun h => absurd h (Nat.lt_irrefl 0)
theorem BytesAt.mod {w w' : World} {A : Option Addr} {xs : List UInt8} {G : List Nat} (h : BytesAt w A xs) (hm : Mod G w w') (hn : ∀ ad, A = some ad → ad.block ∉ G) : BytesAt w' A xs := fun h0 => by
  obtain ⟨b, o, e, hb, hc⟩ := h h0
  exact ⟨b, o, e, Nat.lt_of_lt_of_le hb hm.size, fun j x hx => (hm.cell (p := ⟨b, o + j, none⟩) hb (show b ∉ G from hn _ e)).trans (hc j x hx)⟩
theorem BytesAt.below {w w' : World} {A : Option Addr} {xs : List UInt8} (h : BytesAt w A xs) (hb : Below w.heap.size w w') : BytesAt w' A xs := h.mod (Mod.of_below hb []) (by simp)
theorem BytesAt.own {w : World} {A : Option Addr} {n c : Nat} {xs : List UInt8} {base : Nat} (h : w.ownsRow base 5 1 (.slice A n c) n (u8s xs)) : BytesAt w A xs := fun h0 => by
  have hl := h.1
  rw [u8s_len, Nat.mul_one] at hl
  obtain ⟨g, cap, hv, _, hlt⟩ := h.form (by omega)
  have hA : A = some ⟨g, 0, none⟩ := by injection hv
  subst hA
  refine ⟨g, 0, rfl, hlt, fun j x hx => ?_⟩
  have := h.cells (g := g) rfl j (u8 x) (by simp [u8s, hx])
  rwa [Addr.add_lit] at this
/-- Behind the append: the page and the writer are brought up to date. -/
theorem laid_of {w w3 w1 : World} {F : List Nat} {a p g cap : Nat} {c : UInt8} {L : List UInt8} {v : Value}
    (M3 : Mod F w w3) (ha : a ∈ F) (hp : p ∈ F ∨ w.heap.size ≤ p) (hv : ∀ k, v.ownBlock = some k → k ∈ F ∨ w.heap.size ≤ k)
    (V1 : Whole w1 a 108 #[.pointer (some ⟨p, 0, none⟩), .int .i64 (L.length : Int)]) (V2 : Whole w1 p 128 #[v])
    (hown : w1.ownsRow 0 5 1 (.slice (some ⟨g, 0, none⟩) (L.length + 1) cap) (L.length + 1) (u8s L ++ [u8 c]))
    (hgrow : (w3.alloc (.cells #[u8 c] 5)).drew.grownBy w1 v.ownBlock) (hat : v.ownBlock = some g ∨ g = w3.heap.size + 1) (hne : a ≠ p) :
    Laid w a F (L ++ [c]) ((w1.setCell ⟨p, 0, none⟩ (.slice (some ⟨g, 0, none⟩) (L.length + 1) cap)).setCell ⟨a, 1, none⟩ (.int .i64 ((L.length : Int) + 1))) := by
  have M1 : Mod F w w1 := ((M3.alloc _).drew).grown hgrow hv
  have nga : (Value.slice (some ⟨g, 0, none⟩) (L.length + 1) cap).ownBlock ≠ some a := own_ne hown V1 (by decide)
  have ngp : (Value.slice (some ⟨g, 0, none⟩) (L.length + 1) cap).ownBlock ≠ some p := own_ne hown V2 (by decide)
  refine ⟨[a, p, g], .inr ⟨p, g, cap, rfl, ?_, ?_, ?_⟩, (M1.store hp _).store (.inl ha) _, ?_⟩
  · have h := (V1.far (q := ⟨p, 0, none⟩) hne (.slice (some ⟨g, 0, none⟩) (L.length + 1) cap)).store 1 (.int .i64 ((L.length : Int) + 1))
    have e : ((L ++ [c]).length : Int) = (L.length : Int) + 1 := by simp
    rw [e]
    exact h
  · have h := (V2.store 0 (.slice (some ⟨g, 0, none⟩) (L.length + 1) cap)).far (q := ⟨a, 1, none⟩) (Ne.symm hne) (.int .i64 ((L.length : Int) + 1))
    rw [List.length_append]
    exact h
  · rw [List.length_append, u8s_append]
    exact own_far (own_far hown (q := ⟨p, 0, none⟩) ngp _) (q := ⟨a, 1, none⟩) nga _
  · intro x hx
    have e : x = a ∨ x = p ∨ x = g := by simpa using hx
    rcases e with rfl | rfl | rfl
    · exact .inl ha
    · exact hp
    · rcases hat with h | h
      · exact hv _ h
      · right
        have := M3.size
        omega
end Go.Proofs.Ytbjemihcbbiiaaa.Oct
