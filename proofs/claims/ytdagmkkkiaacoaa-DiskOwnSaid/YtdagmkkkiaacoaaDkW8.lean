/- The statement's bytes (filled); a disk and the document's disk side by side. -/
import Derived.Test.YtdagmkkkiaacoaaDkW7
namespace Go.Proofs.Ytdagmkkkiaacoaa
open Go.RowKit
open By (BytesAt u8s own_shape)
set_option linter.unusedVariables false
set_option linter.unusedSimpArgs false
set_option maxRecDepth 100000
/-- So many bytes, rising from c on. -/
def fl (c : UInt8) (m : Nat) : List UInt8 := (List.range m).map fun i => c + UInt8.ofNat i
theorem fl_len (c : UInt8) (m : Nat) : (fl c m).length = m := by simp [fl]
theorem fl_take (c : UInt8) {k m : Nat} (h : k < m) : (fl c m).take (k + 1) = (fl c m).take k ++ [c + UInt8.ofNat k] := by
  have hk : k < (fl c m).length := by rw [fl_len]; exact h
  rw [List.take_succ_eq_append_getElem hk]
  congr 1
  simp [fl]
/-- How many bytes filled makes. -/
def fm (n : Int) : Nat := (min (max n 0) 100).toNat
theorem fm_le (n : Int) : fm n ≤ 100 := by unfold fm; omega
theorem fm_int (n : Int) : ((fm n : Nat) : Int) = min (max n 0) 100 := by unfold fm; omega
set_option maxHeartbeats 2000000 in
theorem filled_any (c : UInt8) (n : Int) (m : Nat) (hm : min (max n 0) 100 = (m : Int)) (w : World) (hn : -9223372036854775808 ≤ n ∧ n ≤ 9223372036854775807) :
    Calls Try.prog 22 #[.int .u8 (c.toNat : Int), .int .i64 n] w fun e w' => e = .returned (.slice (some ⟨w.heap.size, 0, none⟩) m m) ∧ Hid (Whole w' w.heap.size 5 (u8s (fl c m)).toArray) ∧ Hid (Below w.heap.size w w') := by
  have hm100 : m ≤ 100 := by omega
  have hmk : ∀ (z : Int) (hz : z = (m : Int)) (w' : World), (Instr.makeSlice 35 (.int .i64 z) (.int .i64 z)).run Try.prog w' = .ok (.slice (some ⟨w'.heap.size, 0, none⟩) m m) (w'.alloc (.cells (madeCells #[.int .u8 0] m) 5)) := fun z hz w' => by
    subst hz
    exact run_make_row' (P := Try.prog) 35 5 (.int .u8 0) 1 Try.underlying35 By.info_u8 rfl .i64 .i64 m (by omega) (by omega) w'
  have h3 : (n < 0 ∧ m = 0) ∨ (100 < n ∧ m = 100) ∨ n = (m : Int) := by omega
  have HW : Hid (∀ k : Nat, k < 100 → ((c.toNat : Int) + (k : Int)) % 256 = ((c + UInt8.ofNat k).toNat : Int)) := Lib.hid (fun k hk => by
    rw [UInt8.toNat_add, UInt8.toNat_ofNat']
    omega)
  clear hm
  rcases h3 with ⟨h0, e0⟩ | ⟨h0, e0⟩ | e0
  all_goals
    first | (replace hmk := hmk n e0; subst e0) | (replace hmk := hmk 0 (by omega); clear e0) | (replace hmk := hmk 100 (by omega); clear e0)
    go_enter Try.func22, Try.ntmps22
    go_wp2_with fail
    go_loopw [13] (fun i wr => ∃ k : Nat, i = .int .i64 (k : Int) ∧ k ≤ m ∧ Hid (Whole wr w.heap.size 5 (u8s ((fl c m).take k) ++ List.replicate (m - k) (Value.int .u8 0)).toArray) ∧ Hid (Below w.heap.size w wr)) (fun i _ => m - (intOf i).toNat)
    case atStart => exact ⟨0, rfl, Nat.zero_le _, Lib.hid (by
      have h := Whole.new w 5 (madeCells #[.int .u8 0] m)
      have e : madeCells #[Value.int .u8 0] m = (u8s ((fl c m).take 0) ++ List.replicate (m - 0) (Value.int .u8 0)).toArray := by
        apply Array.ext'
        rw [toList_madeCells_one]
        simp [u8s]
      rw [← e]
      exact h), Lib.hid ((Below.refl _ w).alloc (Nat.le_refl _) _)⟩
    case round =>
      obtain ⟨k, rfl, hk, HC, HB⟩ := hrel
      by_cases hlt : k < m
      · have HE := Lib.hid (show (u8s ((fl c m).take k) ++ List.replicate (m - k) (Value.int .u8 0)).toArray.setIfInBounds k (.int .u8 (((c.toNat : Int) + (k : Int)) % 256)) = (u8s ((fl c m).take (k + 1)) ++ List.replicate (m - (k + 1)) (Value.int .u8 0)).toArray by
          have hlen : (u8s ((fl c m).take k)).length = k := by rw [By.u8s_len, List.length_take, fl_len]; omega
          rw [HW.out k (by omega), List.setIfInBounds_toArray, List.set_append_right _ _ (by omega), hlen, Nat.sub_self, show m - k = (m - (k + 1)) + 1 by omega, List.replicate_succ, List.set_cons_zero, fl_take c hlt, By.u8s_append, List.append_assoc]
          rfl)
        have z0 : wr.cell? ⟨w.heap.size, k, none⟩ = some (.int .u8 0) := by
          have hlen : (u8s ((fl c m).take k)).length = k := by rw [By.u8s_len, List.length_take, fl_len]; omega
          rw [HC.out.cell, List.getElem?_toArray, List.getElem?_append_right (by omega), hlen, Nat.sub_self, List.getElem?_replicate, if_pos (by omega)]
        have f0 := HC.out.frozen k
        go_wp2_with fail
        go_roundw
        case rel => exact ⟨k + 1, rfl, hlt, Lib.hid (by rw [← HE.out]; exact HC.out.store k _), Lib.hid (HB.out.setCell (Nat.le_refl _) _)⟩
        case measure => simp only [intOf]; omega
      · obtain rfl : k = m := by omega
        have HW2 := Lib.hid (show Whole wr w.heap.size 5 (u8s (fl c k)).toArray by
          have := HC.out
          rw [List.take_of_length_le (by rw [fl_len]; exact Nat.le_refl _), Nat.sub_self, List.replicate_zero, List.append_nil] at this
          exact this)
        go_wp2_with fail
        go_ret
        exact ⟨rfl, HW2, HB⟩
end Go.Proofs.Ytdagmkkkiaacoaa
