/- Disks, as numbers and bytes: what each call makes of a disk, what it answers. -/
import Derived.Test.YtdagmkkkiaacoaaBytes
namespace Go.Proofs.Ytdagmkkkiaacoaa
set_option linter.unusedVariables false
/-- A disk: its sectors, how many writes, is the power off, with how many it is armed (-1: it isn't). -/
structure Dk where
  ss : List (List UInt8)
  wr : Int
  off : Bool
  am : Int
namespace DK
def zero (n : Nat) : Dk := ⟨List.replicate n (List.replicate 64 0), 0, false, -1⟩
def of (ss : List (List UInt8)) : Dk := ⟨ss, 0, false, -1⟩
structure Sound (d : Dk) : Prop where
  lo : 1 ≤ d.ss.length
  le : d.ss.length ≤ 512
  len : ∀ (i : Nat) (x : List UInt8), d.ss[i]? = some x → x.length = 64
  am : -1 ≤ d.am ∧ d.am ≤ 9223372036854775807
  wr : -9223372036854775808 ≤ d.wr ∧ d.wr ≤ 9223372036854775807
theorem zero_sound {n : Nat} (h : 1 ≤ n ∧ n ≤ 512) : Sound (zero n) :=
  ⟨by simpa [zero] using h.1, by simpa [zero] using h.2, fun i x hx => by
    have := List.eq_of_mem_replicate (List.mem_of_getElem? hx)
    rw [this, List.length_replicate], by show (-1 : Int) ≤ -1 ∧ (-1 : Int) ≤ 9223372036854775807; decide, by show -9223372036854775808 ≤ (0 : Int) ∧ (0 : Int) ≤ 9223372036854775807; decide⟩
theorem of_sound {ss : List (List UInt8)} (h : 1 ≤ ss.length ∧ ss.length ≤ 512) (hl : ∀ (i : Nat) (x : List UInt8), ss[i]? = some x → x.length = 64) : Sound (of ss) :=
  ⟨h.1, h.2, hl, by show (-1 : Int) ≤ -1 ∧ (-1 : Int) ≤ 9223372036854775807; decide, by show -9223372036854775808 ≤ (0 : Int) ∧ (0 : Int) ≤ 9223372036854775807; decide⟩
theorem zero_of (n : Nat) : zero n = of (List.replicate n (List.replicate 64 0)) := rfl
/-- Is sector i there? -/
def has (d : Dk) (i : Int) : Prop := 0 ≤ i ∧ i < d.ss.length
/-- What Write answers, what Read answers. -/
def werr (d : Dk) (i : Int) (n : Nat) : Int := if d.off = true then 40 else if i < 0 ∨ (d.ss.length : Int) ≤ i ∨ n ≠ 64 then 2 else if d.am = 0 then 40 else 0
def rerr (d : Dk) (i : Int) : Int := if d.off = true then 40 else if i < 0 ∨ (d.ss.length : Int) ≤ i then 2 else 0
def got (d : Dk) (i : Int) : List UInt8 := if rerr d i = 0 then (d.ss[i.toNat]?).getD [] else []
/-- What stands behind a Write. -/
def written (d : Dk) (i : Int) (b : List UInt8) : Dk :=
  if d.off = true then d else if i < 0 ∨ (d.ss.length : Int) ≤ i ∨ b.length ≠ 64 then d else if d.am = 0 then ⟨d.ss, d.wr, true, -1⟩
  else ⟨d.ss.set i.toNat b, Go.IntKind.i64.wrap (d.wr + 1), d.off, if 0 < d.am then d.am - 1 else d.am⟩
def arm (d : Dk) (k : Int) : Dk := ⟨d.ss, d.wr, d.off, max k (-1)⟩
def on (d : Dk) : Dk := ⟨d.ss, d.wr, false, d.am⟩
section
variable {d : Dk} {i : Int} {b : List UInt8} {n : Nat}
theorem werr_off (h : d.off = true) : werr d i n = 40 := by unfold werr; rw [if_pos h]
theorem werr_no (h : d.off = false) (hi : i < 0 ∨ (d.ss.length : Int) ≤ i ∨ n ≠ 64) : werr d i n = 2 := by unfold werr; rw [if_neg (by rw [h]; decide), if_pos hi]
theorem werr_cut (h : d.off = false) (hi : ¬ (i < 0 ∨ (d.ss.length : Int) ≤ i ∨ n ≠ 64)) (ha : d.am = 0) : werr d i n = 40 := by unfold werr; rw [if_neg (by rw [h]; decide), if_neg hi, if_pos ha]
theorem werr_ok (h : d.off = false) (hi : ¬ (i < 0 ∨ (d.ss.length : Int) ≤ i ∨ n ≠ 64)) (ha : ¬ d.am = 0) : werr d i n = 0 := by unfold werr; rw [if_neg (by rw [h]; decide), if_neg hi, if_neg ha]
theorem written_off (h : d.off = true) : written d i b = d := by unfold written; rw [if_pos h]
theorem written_no (h : d.off = false) (hi : i < 0 ∨ (d.ss.length : Int) ≤ i ∨ b.length ≠ 64) : written d i b = d := by unfold written; rw [if_neg (by rw [h]; decide), if_pos hi]
theorem written_cut (h : d.off = false) (hi : ¬ (i < 0 ∨ (d.ss.length : Int) ≤ i ∨ b.length ≠ 64)) (ha : d.am = 0) : written d i b = ⟨d.ss, d.wr, true, -1⟩ := by unfold written; rw [if_neg (by rw [h]; decide), if_neg hi, if_pos ha]
theorem written_ok (h : d.off = false) (hi : ¬ (i < 0 ∨ (d.ss.length : Int) ≤ i ∨ b.length ≠ 64)) (ha : ¬ d.am = 0) :
    written d i b = ⟨d.ss.set i.toNat b, Go.IntKind.i64.wrap (d.wr + 1), d.off, if 0 < d.am then d.am - 1 else d.am⟩ := by unfold written; rw [if_neg (by rw [h]; decide), if_neg hi, if_neg ha]
theorem rerr_off (h : d.off = true) : rerr d i = 40 := by unfold rerr; rw [if_pos h]
theorem rerr_no (h : d.off = false) (hi : i < 0 ∨ (d.ss.length : Int) ≤ i) : rerr d i = 2 := by unfold rerr; rw [if_neg (by rw [h]; decide), if_pos hi]
theorem rerr_ok (h : d.off = false) (hi : ¬ (i < 0 ∨ (d.ss.length : Int) ≤ i)) : rerr d i = 0 := by unfold rerr; rw [if_neg (by rw [h]; decide), if_neg hi]
theorem got_off (h : d.off = true) : got d i = [] := by unfold got; rw [rerr_off h, if_neg (by decide)]
theorem got_no (h : d.off = false) (hi : i < 0 ∨ (d.ss.length : Int) ≤ i) : got d i = [] := by unfold got; rw [rerr_no h hi, if_neg (by decide)]
theorem got_ok (h : d.off = false) {k : Nat} {x : List UInt8} (hx : d.ss[k]? = some x) : got d (k : Int) = x ∧ rerr d (k : Int) = 0 := by
  have hk : k < d.ss.length := (List.getElem?_eq_some_iff.1 hx).1
  have e := rerr_ok (i := (k : Int)) h (by omega)
  refine ⟨?_, e⟩
  unfold got
  rw [if_pos e, Int.toNat_natCast, hx]; rfl
theorem wrap_wf (z : Int) : -9223372036854775808 ≤ Go.IntKind.i64.wrap z ∧ Go.IntKind.i64.wrap z ≤ 9223372036854775807 := by
  rw [Go.IntKind.wrap_i64]
  omega
theorem arm_sound (h : Sound d) {k : Int} (hk : k ≤ 9223372036854775807) : Sound (arm d k) := ⟨h.lo, h.le, h.len, by show -1 ≤ max k (-1) ∧ max k (-1) ≤ 9223372036854775807; omega, h.wr⟩
theorem on_sound (h : Sound d) : Sound (on d) := ⟨h.lo, h.le, h.len, h.am, h.wr⟩
theorem written_len : (written d i b).ss.length = d.ss.length := by
  unfold written
  split
  · rfl
  split
  · rfl
  split
  · rfl
  · exact List.length_set ..
theorem written_sound (h : Sound d) : Sound (written d i b) := by
  unfold written
  split
  · exact h
  split
  · exact h
  rename_i hi
  split
  · exact ⟨h.lo, h.le, h.len, by show (-1 : Int) ≤ -1 ∧ (-1 : Int) ≤ 9223372036854775807; decide, h.wr⟩
  · refine ⟨by simpa using h.lo, by simpa using h.le, fun j x hx => ?_, ?_, wrap_wf _⟩
    · simp only [List.getElem?_set] at hx
      split at hx
      · split at hx
        · cases hx; omega
        · cases hx
      · exact h.len j x hx
    · have := h.am
      show -1 ≤ (if 0 < d.am then d.am - 1 else d.am) ∧ (if 0 < d.am then d.am - 1 else d.am) ≤ 9223372036854775807
      split <;> omega
end
end DK
end Go.Proofs.Ytdagmkkkiaacoaa
