/- The checksum of layer 2 as a function of lists: a register that is shifted eight times for each byte; that it tells lists apart that differ in one byte; four bytes and their number. -/
import Init.Data.Nat.Bitwise.Lemmas
import Init.Data.List.Lemmas
import Init.Data.UInt.Lemmas
import Init.Omega
namespace Go.Proofs.Ytlnahmgcjaodkaa.OM

/-- One shift of the register. -/
def sh (x : Nat) : Nat := if x % 2 = 1 then (x / 2) ^^^ 3988292384 else x / 2
def shN : Nat → Nat → Nat
  | 0, x => x
  | k + 1, x => shN k (sh x)
def crc (l : List UInt8) (x : Nat) : Nat := l.foldl (fun x c => shN 8 (x ^^^ c.toNat)) x
def sum (l : List UInt8) : Nat := crc l 4294967295 ^^^ 4294967295

theorem sh_lt {x : Nat} (h : x < 4294967296) : sh x < 4294967296 := by
  unfold sh
  split
  · exact Nat.xor_lt_two_pow (n := 32) (by omega) (by omega)
  · omega
theorem shN_lt : ∀ (k : Nat) {x : Nat}, x < 4294967296 → shN k x < 4294967296
  | 0, _, h => h
  | k + 1, _, h => shN_lt k (sh_lt h)
theorem xor_byte_lt {x : Nat} (c : UInt8) (h : x < 4294967296) : x ^^^ c.toNat < 4294967296 := by
  have := c.toNat_lt
  exact Nat.xor_lt_two_pow (n := 32) h (by omega)
theorem crc_nil (x : Nat) : crc [] x = x := rfl
theorem crc_cons (c : UInt8) (l : List UInt8) (x : Nat) : crc (c :: l) x = crc l (shN 8 (x ^^^ c.toNat)) := rfl
theorem crc_append (a b : List UInt8) (x : Nat) : crc (a ++ b) x = crc b (crc a x) := by
  unfold crc
  rw [List.foldl_append]
theorem crc_lt : ∀ (l : List UInt8) {x : Nat}, x < 4294967296 → crc l x < 4294967296
  | [], _, h => h
  | c :: l, _, h => by
    rw [crc_cons]
    exact crc_lt l (shN_lt 8 (xor_byte_lt c h))
theorem xor_half (a b : Nat) : (a ^^^ b) / 2 = a / 2 ^^^ b / 2 := by
  have h := Nat.shiftRight_xor_distrib (a := a) (b := b) (i := 1)
  rw [Nat.shiftRight_eq_div_pow, Nat.shiftRight_eq_div_pow, Nat.shiftRight_eq_div_pow] at h
  exact h
theorem xor_odd (a b : Nat) : (a ^^^ b) % 2 = (a % 2 + b % 2) % 2 := by
  have h := Nat.xor_mod_two_pow (a := a) (b := b) (n := 1)
  rw [Nat.pow_one] at h
  rw [h]
  rcases Nat.mod_two_eq_zero_or_one a with h1 | h1 <;> rcases Nat.mod_two_eq_zero_or_one b with h2 | h2 <;> rw [h1, h2] <;> rfl
/-- Bit by bit, or the byte at once. -/
theorem sh_xor (x d : Nat) : sh (x ^^^ d) = (if d % 2 = x % 2 then x / 2 else x / 2 ^^^ 3988292384) ^^^ (d / 2) := by
  unfold sh
  rw [xor_half, xor_odd]
  by_cases h : d % 2 = x % 2
  · rw [if_neg (by omega), if_pos h]
  · rw [if_pos (by omega), if_neg h, Nat.xor_assoc, Nat.xor_assoc, Nat.xor_comm (d / 2)]
theorem half_top {x : Nat} (h : x < 4294967296) : (x / 2).testBit 31 = false := Nat.testBit_lt_two_pow (by omega)
theorem sh_inj {x y : Nat} (hx : x < 4294967296) (hy : y < 4294967296) (h : sh x = sh y) : x = y := by
  have tp : (3988292384 : Nat).testBit 31 = true := by decide
  have tx := half_top hx
  have ty := half_top hy
  unfold sh at h
  by_cases h1 : x % 2 = 1 <;> by_cases h2 : y % 2 = 1
  · rw [if_pos h1, if_pos h2] at h
    have e : x / 2 = y / 2 := by
      have := congrArg (· ^^^ 3988292384) h
      simpa [Nat.xor_assoc] using this
    omega
  · rw [if_pos h1, if_neg h2] at h
    have := congrArg (Nat.testBit · 31) h
    simp only [Nat.testBit_xor, tx, ty, tp] at this
    cases this
  · rw [if_neg h1, if_pos h2] at h
    have := congrArg (Nat.testBit · 31) h
    simp only [Nat.testBit_xor, tx, ty, tp] at this
    cases this
  · rw [if_neg h1, if_neg h2] at h
    omega
theorem shN_inj : ∀ (k : Nat) {x y : Nat}, x < 4294967296 → y < 4294967296 → shN k x = shN k y → x = y
  | 0, _, _, _, _, h => h
  | k + 1, _, _, hx, hy, h => sh_inj hx hy (shN_inj k (sh_lt hx) (sh_lt hy) h)
theorem xor_left {a b c : Nat} (h : a ^^^ b = a ^^^ c) : b = c := by
  have := congrArg (a ^^^ ·) h
  simpa [← Nat.xor_assoc] using this
theorem xor_right {a b c : Nat} (h : b ^^^ a = c ^^^ a) : b = c := by
  rw [Nat.xor_comm b, Nat.xor_comm c] at h
  exact xor_left h
theorem crc_inj : ∀ (l : List UInt8) {x y : Nat}, x < 4294967296 → y < 4294967296 → crc l x = crc l y → x = y
  | [], _, _, _, _, h => h
  | c :: l, _, _, hx, hy, h => by
    rw [crc_cons, crc_cons] at h
    have h1 := crc_inj l (shN_lt 8 (xor_byte_lt c hx)) (shN_lt 8 (xor_byte_lt c hy)) h
    exact xor_right (shN_inj 8 (xor_byte_lt c hx) (xor_byte_lt c hy) h1)
theorem sum_lt (l : List UInt8) : sum l < 4294967296 := Nat.xor_lt_two_pow (n := 32) (crc_lt l (by decide)) (by decide)
/-- One byte turned: another checksum. -/
theorem sum_turned (pre post : List UInt8) (c d : UInt8) (h : c ≠ d) : sum (pre ++ c :: post) ≠ sum (pre ++ d :: post) := by
  intro e
  have e1 := xor_right e
  rw [crc_append, crc_append, crc_cons, crc_cons] at e1
  have hp := crc_lt pre (x := 4294967295) (by decide)
  have e2 := crc_inj post (shN_lt 8 (xor_byte_lt c hp)) (shN_lt 8 (xor_byte_lt d hp)) e1
  have e3 := shN_inj 8 (xor_byte_lt c hp) (xor_byte_lt d hp) e2
  exact h (UInt8.toNat_inj.1 (xor_left e3))
theorem not32 {x : Nat} (h : x < 4294967296) : 4294967295 - x = x ^^^ 4294967295 := by
  have h1 := Nat.testBit_two_pow_sub_succ (n := 32) (x := x) (by omega)
  apply Nat.eq_of_testBit_eq
  intro i
  have e : (2 : Nat) ^ 32 - (x + 1) = 4294967295 - x := by omega
  rw [e] at h1
  rw [h1 i, Nat.testBit_xor]
  have e2 : (4294967295 : Nat) = 2 ^ 32 - 1 := by decide
  rw [e2, Nat.testBit_two_pow_sub_one]
  by_cases hi : i < 32
  · simp [hi]
  · have : x.testBit i = false := Nat.testBit_lt_two_pow (Nat.lt_of_lt_of_le h (Nat.pow_le_pow_right (n := 2) (i := 32) (by decide) (by omega)))
    simp [hi, this]
end Go.Proofs.Ytlnahmgcjaodkaa.OM
