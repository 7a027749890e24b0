/- The document's own answers of layer 4: a number's digits. -/
import Derived.Test.YthhkgdknmehaoaaDoorStampsW4
import Derived.Laws.BytesArg
import Derived.WideShapes
namespace Go.Proofs.YthhkgdknmehaoaaDoor
open Go.RowKit
set_option linter.unusedVariables false
set_option maxRecDepth 100000
theorem digits_len : ∀ (k n : Nat), n < 10 ^ (k + 1) → (SM.digits n).length ≤ k + 1
  | 0, n, h => by rw [SM.digits_low (by simpa using h)]; simp
  | k + 1, n, h => by
    by_cases h1 : n < 10
    · rw [SM.digits_low h1]; simp
    · rw [SM.digits_high h1, List.length_append]
      have := digits_len k (n / 10) (by rw [Nat.pow_succ] at h; omega)
      simp only [List.length_cons, List.length_nil]
      omega
/-- Bytes as a text. -/
def txt (l : List UInt8) : ByteArray := ⟨l.toArray⟩
theorem txt_size (l : List UInt8) : (txt l).size = l.length := by simp [txt, ByteArray.size]
theorem txt_cat (l m : List UInt8) : txt l ++ txt m = txt (l ++ m) := WideShapes.bytes_inj (by rw [ByteArray.data_append]; simp [txt])
theorem conv_dig (w : World) (n : Nat) : (convert 52 9 (.slice (some ⟨w.heap.size, 0, none⟩) 1 1)).run Tryd.prog (w.alloc (.cells #[.int .u8 (48 + (n : Int) % 10)] 5)) = .ok (.string (txt [SM.dig (n % 10)])) (w.alloc (.cells #[.int .u8 (48 + (n : Int) % 10)] 5)) := by
  rw [run_convert_bytes_arg _ 52 5 Tryd.underlying52 Tryd.underlying5 w.heap.size 0 1 1 [48 + (n : Int) % 10] rfl (fun i hi => by
    have e : i = 0 := by omega
    subst e
    rw [World.cell?_alloc_at _ _ _ _ (by simp)]
    rfl) 9 Tryd.underlying9]
  have e : UInt8.ofNat (48 + (n : Int) % 10).toNat = SM.dig (n % 10) := by
    apply UInt8.toNat_inj.1
    rw [SM.dig_nat (by omega), UInt8.toNat_ofNat']
    omega
  have e2 : strOfNums [48 + (n : Int) % 10] = txt [SM.dig (n % 10)] := by
    unfold strOfNums txt
    simp only [List.map_cons, List.map_nil, e]
  rw [e2]
theorem digits_high_txt {n : Nat} (h : ¬ n < 10) : txt (SM.digits (n / 10)) ++ txt [SM.dig (n % 10)] = txt (SM.digits n) := by
  rw [txt_cat, ← SM.digits_high h]
theorem ret_txt {a b : ByteArray} (h : a = b) : Ending.returned (.string a) = .returned (.string b) := by rw [h]
set_option maxHeartbeats 1000000 in
theorem Decimal_nat (n : Nat) (w : World) (hn : n ≤ 9223372036854775807) :
    Calls Tryd.prog 39 #[.int .i64 (n : Int)] w fun e w' => e = .returned (.string (txt (SM.digits n))) ∧ Below w.heap.size w w' := by
  induction n using Nat.strongRecOn generalizing w with
  | ind n ih =>
    have hd0 : ((n : Int) == -9223372036854775808) = false := by simp
    have HC := conv_dig w n
    by_cases h : n < 10
    · have HE := Lib.hid (show txt [SM.dig (n % 10)] = txt (SM.digits n) by rw [SM.digits_low h, Nat.mod_eq_of_lt h])
      go_enter Tryd.func39, Tryd.ntmps39
      go_wp2_with fail
      go_ret
      exact ⟨ret_txt HE.out, (Below.refl _ _).alloc (Nat.le_refl _) _⟩
    · have HE := Lib.hid (digits_high_txt h)
      have HR := Lib.hid (fun w' => ih (n / 10) (by omega) w' (by omega))
      have hs1 : (txt (SM.digits (n / 10))).size ≤ 19 := by rw [txt_size]; exact digits_len 18 (n / 10) (by omega)
      have hs2 : (txt [SM.dig (n % 10)]).size = 1 := by rw [txt_size]; rfl
      clear ih
      generalize txt (SM.digits (n / 10)) = t1 at *
      generalize txt [SM.dig (n % 10)] = t2 at *
      generalize txt (SM.digits n) = t3 at *
      go_enter Tryd.func39, Tryd.ntmps39
      go_wp2_with fail
      rw [show (n : Int) / 10 = ((n / 10 : Nat) : Int) by omega]
      refine (HR.out _).mono ?_
      rintro x w2 ⟨rfl, hb⟩
      have HB := Lib.hid (Below.trans ((Below.refl _ w).alloc (Nat.le_refl _) (.cells #[.int .u8 (48 + (n : Int) % 10)] 5)) (hb.mono (by rw [World.size_alloc]; omega)))
      clear hb HC
      go_wp2_with fail
      go_ret
      exact ⟨ret_txt HE.out, HB.out⟩
theorem dec_low : SM.dec (-9223372036854775808) = [45, 57, 50, 50, 51, 51, 55, 50, 48, 51, 54, 56, 53, 52, 55, 55, 53, 56, 48, 56] := by
  have e : SM.digits 9223372036854775808 = [57, 50, 50, 51, 51, 55, 50, 48, 51, 54, 56, 53, 52, 55, 55, 53, 56, 48, 56] := by
    iterate 18
      rw [SM.digits_high (by decide)]
      simp only [Nat.reduceDiv, Nat.reduceMod]
    rw [SM.digits_low (by decide)]
    decide
  unfold SM.dec
  rw [if_pos (by decide)]
  show 45 :: SM.digits 9223372036854775808 = _
  rw [e]
theorem dec_len {n : Int} (h : -9223372036854775808 ≤ n ∧ n ≤ 9223372036854775807) : (SM.dec n).length ≤ 20 := by
  unfold SM.dec
  split
  · have := digits_len 18 n.natAbs (by omega)
    rw [List.length_cons]; omega
  · have := digits_len 18 n.toNat (by omega)
    omega
theorem dec_neg {n : Nat} (h : 0 < n) : txt [45] ++ txt (SM.digits n) = txt (SM.dec (-(n : Int))) := by
  rw [txt_cat]
  unfold SM.dec
  rw [if_pos (by omega), Int.natAbs_neg, Int.natAbs_natCast]
  rfl
set_option maxHeartbeats 1000000 in
theorem RefDecimal_any (n : Int) (w : World) (hn : -9223372036854775808 ≤ n ∧ n ≤ 9223372036854775807) :
    Calls Tryd.prog 39 #[.int .i64 n] w fun e w' => e = .returned (.string (txt (SM.dec n))) ∧ Below w.heap.size w w' := by
  by_cases h : n < 0
  · by_cases hl : n = -9223372036854775808
    · subst hl
      have HE := Lib.hid dec_low
      generalize SM.dec (-9223372036854775808) = l at *
      go_enter Tryd.func39, Tryd.ntmps39
      go_wp2_with fail
      go_ret
      exact ⟨ret_txt (by rw [HE.out]; rfl), Below.refl _ _⟩
    · obtain ⟨m, rfl⟩ : ∃ m : Nat, n = -(m : Int) := ⟨n.natAbs, by omega⟩
      have hd0 : (-(m : Int) == -9223372036854775808) = false := by simpa using hl
      have HR := Lib.hid (fun w' => Decimal_nat m w' (by omega))
      have HE := Lib.hid (dec_neg (n := m) (by omega))
      have hs1 : (txt (SM.digits m)).size ≤ 19 := by rw [txt_size]; exact digits_len 18 m (by omega)
      generalize txt (SM.digits m) = t1 at *
      generalize txt (SM.dec (-(m : Int))) = t3 at *
      have hm : (m : Int) ≤ 9223372036854775807 := by omega
      clear hl
      go_enter Tryd.func39, Tryd.ntmps39
      go_wp2_with fail
      refine (HR.out _).mono ?_
      rintro x w2 ⟨rfl, hb⟩
      have HB := Lib.hid hb
      clear hb
      go_wp2_with fail
      go_ret
      exact ⟨ret_txt HE.out, HB.out⟩
  · obtain ⟨m, rfl⟩ : ∃ m : Nat, n = (m : Int) := ⟨n.toNat, by omega⟩
    rw [SM.dec_pos (by omega), Int.toNat_natCast]
    exact Decimal_nat m w (by omega)
end Go.Proofs.YthhkgdknmehaoaaDoor
