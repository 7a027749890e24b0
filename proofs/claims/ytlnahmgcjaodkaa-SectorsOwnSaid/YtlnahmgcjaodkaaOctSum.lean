/- The checksum: what the package answers, and the document. -/
import Derived.Test.YtlnahmgcjaodkaaOctLow
import Derived.Test.YtlnahmgcjaodkaaOctetsSumMath
import Derived.LoopN
namespace Go.Proofs.Ytlnahmgcjaodkaa
open Go.RowKit
open By
set_option linter.unusedVariables false
set_option linter.unusedSimpArgs false
set_option maxRecDepth 100000
theorem cell_at {w : World} {A : Option Addr} {l : List UInt8} (h : BytesAt w A l) {k : Nat} (hk : k < l.length) : ∃ b o, A = some ⟨b, o, none⟩ ∧ w.cell? ⟨b, o + k, none⟩ = some (.int .u8 ((l[k]).toNat : Int)) := by
  obtain ⟨b, o, e, _, hc⟩ := h (by omega)
  exact ⟨b, o, e, hc k l[k] (List.getElem?_eq_getElem hk)⟩
theorem and_one {q : Nat} (h : q < 4294967296) : bits .and .u32 (q : Int) 1 = ((q % 2 : Nat) : Int) := by
  have e := u32_and_nat q 1 h (by decide)
  rw [nat_mask1] at e
  exact e
theorem odd_is {q : Nat} (h : q < 4294967296) (ho : q % 2 = 1) : bits .and .u32 (q : Int) 1 = 1 := by rw [and_one h, ho]; rfl
theorem odd_not {q : Nat} (h : q < 4294967296) (ho : ¬ q % 2 = 1) : bits .and .u32 (q : Int) 1 = 0 := by rw [and_one h, show q % 2 = 0 by omega]; rfl
theorem xor_poly {q : Nat} (h : q < 4294967296) : bits .xor .u32 (q : Int) 3988292384 = ((q ^^^ 3988292384 : Nat) : Int) := u32_xor_nat q 3988292384 h (by decide)
theorem xor_half_poly {q : Nat} (h : q < 4294967296) : bits .xor .u32 ((q : Int) / 2) 3988292384 = ((q / 2 ^^^ 3988292384 : Nat) : Int) := by
  have e := xor_poly (q := q / 2) (by omega)
  rw [← e, Int.natCast_ediv]
  rfl
theorem sh_odd {q : Nat} (h : q % 2 = 1) : OM.sh q = q / 2 ^^^ 3988292384 := by unfold OM.sh; rw [if_pos h]
theorem sh_even {q : Nat} (h : ¬ q % 2 = 1) : OM.sh q = q / 2 := by unfold OM.sh; rw [if_neg h]
theorem shN_step {j q t : Nat} (h : OM.shN (8 - j) q = t) (hj : j < 8) : OM.shN (8 - (j + 1)) (OM.sh q) = t := by
  rw [show 8 - j = (8 - (j + 1)) + 1 by omega] at h
  exact h
theorem shN_end {j q t : Nat} (h : OM.shN (8 - j) q = t) (hj : ¬ j < 8) : q = t := by
  rw [show 8 - j = 0 by omega] at h
  exact h
theorem crc_step {l : List UInt8} {k r x q : Nat} (HE : OM.crc l 4294967295 = OM.crc (l.drop k) r) (hk : k < l.length) (hx : (l[k]).toNat = x) (hq : q = OM.shN 8 (r ^^^ x)) : OM.crc l 4294967295 = OM.crc (l.drop (k + 1)) q := by
  rw [HE, List.drop_eq_getElem_cons hk, OM.crc_cons, hx, hq]
theorem crc_end {l : List UInt8} {k r : Nat} (HE : OM.crc l 4294967295 = OM.crc (l.drop k) r) (hk : l.length ≤ k) : OM.crc l 4294967295 = r := by
  rw [HE, List.drop_of_length_le hk]
  rfl
theorem sum_not {l : List UInt8} {k r : Nat} (HE : OM.crc l 4294967295 = OM.crc (l.drop k) r) (hk : l.length ≤ k) (hr : r < 4294967296) : bits .xor .u32 IntKind.u32.max (r : Int) = (OM.sum l : Int) := by
  have e := u32_xor_nat 4294967295 r (by decide) hr
  unfold OM.sum
  rw [crc_end HE hk, Nat.xor_comm]
  exact e
theorem sum_xor {l : List UInt8} {k r : Nat} (HE : OM.crc l 4294967295 = OM.crc (l.drop k) r) (hk : l.length ≤ k) (hr : r < 4294967296) : bits .xor .u32 (r : Int) 4294967295 = (OM.sum l : Int) := by
  have e := u32_xor_nat r 4294967295 hr (by decide)
  unfold OM.sum
  rw [crc_end HE hk]
  exact e
set_option maxRecDepth 100000 in
set_option maxHeartbeats 2000000 in
theorem Sum_any (A : Option Addr) (c : Nat) (l : List UInt8) (w : World) (h : BytesAt w A l) (hl : l.length ≤ 9223372036854775807) :
    Calls Try.prog 36 #[.slice A l.length c] w fun e w' => e = .returned (.int .u32 (OM.sum l : Int)) ∧ w = w' := by
  have H := Lib.hid h; clear h
  go_enter Try.func36, Try.ntmps36
  go_wp2_with fail
  go_loop [9, 3] (fun i x => ∃ (k r : Nat), i = .int .i64 (k : Int) ∧ x = .int .u32 (r : Int) ∧ k ≤ l.length ∧ r < 4294967296 ∧ Hid (OM.crc l 4294967295 = OM.crc (l.drop k) r)) (fun i _ => l.length - (intOf i).toNat)
  case atStart => exact ⟨0, 4294967295, rfl, rfl, by omega, by omega, Lib.hid rfl⟩
  case round =>
    obtain ⟨k, r, rfl, rfl, hk, hr, HE⟩ := hrel
    by_cases hlt : k < l.length
    · obtain ⟨b, o, hA, hcell⟩ := cell_at H.out hlt
      subst hA
      have hx : (l[k]).toNat < 256 := (l[k]).toNat_lt
      have hb := OM.xor_byte_lt l[k] hr
      generalize hxe : (l[k]).toNat = x at hcell hx hb
      have HX := Lib.hid hxe; clear hxe
      have E1 := Lib.hid (u32_xor_nat r x hr (by omega))
      have HB := Lib.hid hb; clear hb
      go_wp2_with fail
      rw [E1.out]
      go_loop [17, 3] (fun i y => ∃ (j q : Nat), i = .int .i64 (j : Int) ∧ y = .int .u32 (q : Int) ∧ j ≤ 8 ∧ q < 4294967296 ∧ Hid (OM.shN (8 - j) q = OM.shN 8 (r ^^^ x))) (fun i _ => 8 - (intOf i).toNat)
      case atStart => exact ⟨0, r ^^^ x, rfl, rfl, by omega, HB.out, Lib.hid rfl⟩
      case round =>
        obtain ⟨j, q, rfl, rfl, hj, hq, HS⟩ := hrel
        by_cases hj8 : j < 8
        · have hsl := Lib.hid (OM.sh_lt hq)
          by_cases ho : q % 2 = 1
          · have e1 := odd_is hq ho
            have e2 := xor_half_poly hq
            have HO := Lib.hid ho; clear ho
            go_wp2_with fail
            go_round
            case rel => exact ⟨j + 1, q / 2 ^^^ 3988292384, rfl, rfl, by omega, by rw [← sh_odd HO.out]; exact hsl.out, Lib.hid (by rw [← sh_odd HO.out]; exact shN_step HS.out hj8)⟩
            case measure => simp only [intOf]; omega
          · have e1 := odd_not hq ho
            have HO := Lib.hid ho; clear ho
            go_wp2_with fail
            go_round
            case rel => exact ⟨j + 1, q / 2, rfl, congrArg (Value.int .u32) (Int.natCast_ediv q 2).symm, by omega, by omega, Lib.hid (by rw [← sh_even HO.out]; exact shN_step HS.out hj8)⟩
            case measure => simp only [intOf]; omega
        · have hq2 := Lib.hid (shN_end HS.out hj8)
          go_wp2_with fail
          go_round
          case rel => exact ⟨k + 1, q, rfl, rfl, by omega, hq, Lib.hid (crc_step HE.out hlt HX.out hq2.out)⟩
          case measure => simp only [intOf]; omega
    · go_wp2_with fail
      go_ret
      exact ⟨congrArg (fun z => Ending.returned (.int .u32 z)) (sum_not HE.out (by omega) hr), rfl⟩
theorem bit_of {x j : Nat} (hx : x < 256) : bits .and .u32 ((x : Int) / 2 ^ j) 1 = ((x / 2 ^ j % 2 : Nat) : Int) := by
  have hle : x / 2 ^ j ≤ x := Nat.div_le_self _ _
  have e := and_one (q := x / 2 ^ j) (by omega)
  rw [← e, Int.natCast_ediv, Int.natCast_pow]
  rfl
theorem bit_same {q x j : Nat} (hq : q < 4294967296) (hx : x < 256) (h : (bits .and .u32 ((x : Int) / 2 ^ j) 1 != bits .and .u32 (q : Int) 1) = false) : x / 2 ^ j % 2 = q % 2 := by
  rw [bit_of hx, and_one hq] at h
  simp only [bne_eq_false_iff_eq] at h
  omega
theorem bit_other {q x j : Nat} (hq : q < 4294967296) (hx : x < 256) (h : (bits .and .u32 ((x : Int) / 2 ^ j) 1 != bits .and .u32 (q : Int) 1) = true) : ¬ x / 2 ^ j % 2 = q % 2 := by
  rw [bit_of hx, and_one hq] at h
  simp only [bne_iff_ne, ne_eq] at h
  omega
theorem half_pow (x j : Nat) : x / 2 ^ j / 2 = x / 2 ^ (j + 1) := by rw [Nat.div_div_eq_div_mul, Nat.pow_succ]
theorem refSum_same {j q t x : Nat} (h : OM.shN (8 - j) (q ^^^ x / 2 ^ j) = t) (hj : j < 8) (hp : x / 2 ^ j % 2 = q % 2) : OM.shN (8 - (j + 1)) (q / 2 ^^^ x / 2 ^ (j + 1)) = t := by
  have e := shN_step h hj
  rw [OM.sh_xor, if_pos hp, half_pow] at e
  exact e
theorem refSum_other {j q t x : Nat} (h : OM.shN (8 - j) (q ^^^ x / 2 ^ j) = t) (hj : j < 8) (hp : ¬ x / 2 ^ j % 2 = q % 2) : OM.shN (8 - (j + 1)) (q / 2 ^^^ 3988292384 ^^^ x / 2 ^ (j + 1)) = t := by
  have e := shN_step h hj
  rw [OM.sh_xor, if_neg hp, half_pow] at e
  exact e
theorem refSum_end {j q t x : Nat} (h : OM.shN (8 - j) (q ^^^ x / 2 ^ j) = t) (hj : ¬ j < 8) (hj' : j ≤ 8) (hx : x < 256) : q = t := by
  have e : j = 8 := by omega
  subst e
  rw [show x / 2 ^ 8 = 0 by rw [show (2 : Nat) ^ 8 = 256 by decide]; omega, Nat.xor_zero] at h
  exact h
set_option maxRecDepth 100000 in
set_option maxHeartbeats 2000000 in
theorem RefSum_any (A : Option Addr) (c : Nat) (l : List UInt8) (w : World) (h : BytesAt w A l) (hl : l.length ≤ 9223372036854775807) :
    Calls Try.prog 38 #[.slice A l.length c] w fun e w' => e = .returned (.int .u32 (OM.sum l : Int)) ∧ w = w' := by
  have H := Lib.hid h; clear h
  go_enter Try.func38, Try.ntmps38
  go_wp2_with fail
  go_loop [4, 3] (fun i x => ∃ (k r : Nat), i = .int .i64 (k : Int) ∧ x = .int .u32 (r : Int) ∧ k ≤ l.length ∧ r < 4294967296 ∧ Hid (OM.crc l 4294967295 = OM.crc (l.drop k) r)) (fun i _ => l.length - (intOf i).toNat)
  case atStart => exact ⟨0, 4294967295, rfl, rfl, by omega, by omega, Lib.hid rfl⟩
  case round =>
    obtain ⟨k, r, rfl, rfl, hk, hr, HE⟩ := hrel
    by_cases hlt : k < l.length
    · obtain ⟨b, o, hA, hcell⟩ := cell_at H.out hlt
      subst hA
      have hx : (l[k]).toNat < 256 := (l[k]).toNat_lt
      have hb := OM.xor_byte_lt l[k] hr
      generalize hxe : (l[k]).toNat = x at hcell hx hb
      have HX := Lib.hid hxe; clear hxe
      have HB := Lib.hid hb; clear hb
      go_wp2_with fail
      go_loop [5, 3] (fun i y => ∃ (j q : Nat), i = .int .i64 (j : Int) ∧ y = .int .u32 (q : Int) ∧ j ≤ 8 ∧ q < 4294967296 ∧ Hid (OM.shN (8 - j) (q ^^^ x / 2 ^ j) = OM.shN 8 (r ^^^ x))) (fun i _ => 8 - (intOf i).toNat)
      case atStart => exact ⟨0, r, rfl, rfl, by omega, hr, Lib.hid (by rw [Nat.pow_zero, Nat.div_one])⟩
      case round =>
        obtain ⟨j, q, rfl, rfl, hj, hq, HS⟩ := hrel
        by_cases hj8 : j < 8
        · go_wp2_with fail
          · have hp := Lib.hid (bit_other hq hx ‹_›)
            go_round
            case rel => exact ⟨j + 1, q / 2 ^^^ 3988292384, rfl, congrArg (Value.int .u32) (xor_half_poly hq), by omega, Nat.xor_lt_two_pow (n := 32) (by omega) (by omega), Lib.hid (refSum_other HS.out hj8 hp.out)⟩
            case measure => simp only [intOf]; omega
          · have hp := Lib.hid (bit_same hq hx ‹_›)
            go_round
            case rel => exact ⟨j + 1, q / 2, rfl, congrArg (Value.int .u32) (Int.natCast_ediv q 2).symm, by omega, by omega, Lib.hid (refSum_same HS.out hj8 hp.out)⟩
            case measure => simp only [intOf]; omega
        · have hq2 := Lib.hid (refSum_end HS.out hj8 hj hx)
          go_wp2_with fail
          go_round
          case rel => exact ⟨k + 1, q, rfl, rfl, by omega, hq, Lib.hid (crc_step HE.out hlt HX.out hq2.out)⟩
          case measure => simp only [intOf]; omega
    · go_wp2_with fail
      go_ret
      exact ⟨congrArg (fun z => Ending.returned (.int .u32 z)) (sum_xor HE.out (by omega) hr), rfl⟩
end Go.Proofs.Ytlnahmgcjaodkaa
