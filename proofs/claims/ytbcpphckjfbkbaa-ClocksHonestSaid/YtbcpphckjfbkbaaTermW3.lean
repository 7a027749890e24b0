/- What a call leaves that lays new blocks and no more; the products of the package and of the document, and how they are compared. -/
import Derived.Test.YtbcpphckjfbkbaaTermW1
import Derived.Test.YtbcpphckjfbkbaaShelf
import Derived.Below
namespace Go.Proofs.Ytbcpphckjfbkbaa.Tm
open Go.RowKit Go.Lib Go.Shelf Go.Sort
/-- Only blocks that are new, and orders that were drawn, tell the worlds apart. -/
def Up (w w' : World) : Prop := ∃ (q : Nat) (os : Array Obj), w' = grow (w.drewN q) os
theorem Up.refl (w : World) : Up w w := ⟨0, #[], by rw [grow_empty]; rfl⟩
theorem Up.trans {a b c : World} (h : Up a b) (k : Up b c) : Up a c := by
  obtain ⟨q, os, rfl⟩ := h
  obtain ⟨p, ps, rfl⟩ := k
  exact ⟨q + p, os ++ ps, by show grow (grow ((a.drewN q).drewN p) os) ps = _; rw [grow_grow, World.drewN_drewN]⟩
theorem Up.alloc {a b : World} (h : Up a b) (o : Obj) : Up a (b.alloc o) := h.trans ⟨0, #[o], alloc_eq_grow b o⟩
theorem Up.drew {a b : World} (h : Up a b) : Up a b.drew := h.trans ⟨1, #[], by rw [grow_empty]; rfl⟩
theorem Up.size {a b : World} (h : Up a b) : a.heap.size ≤ b.heap.size := by
  obtain ⟨q, os, rfl⟩ := h
  show a.heap.size ≤ (a.heap ++ os).size
  rw [Array.size_append]; omega
theorem Up.cell {a b : World} (h : Up a b) {x : Addr} {v : Value} (hc : a.cell? x = some v) : b.cell? x = some v := by
  obtain ⟨q, os, rfl⟩ := h
  exact cell_grown (World.block_lt_of_cell? _ _ hc) hc q os
theorem Up.below {a b : World} (h : Up a b) {B : Nat} (hB : B ≤ a.heap.size) : Below B a b := by
  obtain ⟨q, os, rfl⟩ := h
  exact below_grown_sl B a q os hB

theorem results_cell {fn : Func} {p : Tmp} {ty : TypeId} (h : fn.results = #[.cell p ty]) (tmps : Array Value) (P : Program) (w : World) :
    (results fn tmps).run P w =
      ((asAddr (tmps.getD p undef)).run P w).andThen fun a w₁ => (loadVar ty a).run P w₁ := by
  simp only [results, h]
  simp [Sem.run_bind, Result.andThen]
theorem times_real (n k : Int) (w : World) (hn : 0 ≤ n ∧ n ≤ 9223372036854775807) (hk : 0 ≤ k ∧ k ≤ 9223372036854775807) :
    Calls Try.prog 33 #[.int .u64 n, .int .u64 k] w fun e w' => e = .returned (.tuple #[.int .u64 (n * k / 18446744073709551616), .int .u64 (n * k % 18446744073709551616)]) ∧ w = w' := by
  obtain ⟨a, rfl⟩ : ∃ a : Nat, n = (a : Int) := ⟨n.toNat, by omega⟩
  obtain ⟨b, rfl⟩ : ∃ b : Nat, k = (b : Int) := ⟨k.toNat, by omega⟩
  refine (Try.bits_Mul64 a b (by omega) (by omega) w).mono ?_
  rintro e w' ⟨rfl, rfl⟩
  refine ⟨?_, rfl⟩
  rw [← Int.natCast_mul, Int.natCast_ediv, Int.natCast_emod]
  rfl
set_option maxHeartbeats 400000 in
theorem times_any (n k : Int) (w : World) (hn : 0 ≤ n ∧ n ≤ 9223372036854775807) (hk : 0 ≤ k ∧ k ≤ 9223372036854775807) :
    Calls Try.prog 27 #[.int .i64 n, .int .i64 k] w fun e w' => e = .returned (.agg #[.int .u64 (n * k / 18446744073709551616), .int .u64 (n * k % 18446744073709551616)]) ∧ Up w w' := by
  have HM := Lib.hid (fun w' => times_real n k w' hn hk)
  generalize n * k / 18446744073709551616 = a at *
  generalize n * k % 18446744073709551616 = b at *
  go_enter Try.func27, Try.ntmps27
  go_wp2_with (go_at_call 33; refine (HM.out _).mono ?_; rintro e w' ⟨rfl, rfl⟩)
  refine bodyPost_ret (v := .agg #[.int .u64 a, .int .u64 b]) ?_ rfl ⟨rfl, (Up.refl w).alloc _⟩
  rw [results_cell rfl]
  go_simp
theorem u64_less {a b c d : Int} (h : (a == c) = true) : decide (b < d) = decide (a < c ∨ a = c ∧ b < d) := by
  have e : a = c := by simpa using h
  exact decide_eq_decide.2 ⟨fun h => .inr ⟨e, h⟩, fun h => h.elim (fun h => absurd h (by omega)) (fun h => h.2)⟩
theorem u64_less' {a b c d : Int} (h : (a == c) = false) : decide (a < c) = decide (a < c ∨ a = c ∧ b < d) := by
  have e : a ≠ c := by simpa using h
  exact decide_eq_decide.2 ⟨fun h => .inl h, fun h => h.elim id (fun h => absurd h.1 e)⟩
set_option maxHeartbeats 400000 in
theorem below_any (a b c d : Int) (w : World) :
    Calls Try.prog 34 #[.agg #[.int .u64 a, .int .u64 b], .agg #[.int .u64 c, .int .u64 d]] w fun e w' => e = .returned (.bool (decide (a < c ∨ a = c ∧ b < d))) ∧ Up w w' := by
  go_enter Try.func34, Try.ntmps34
  go_wp2_with fail
  · go_ret
    exact ⟨ret_bool (u64_less ‹_›), ((Up.refl w).alloc _).alloc _⟩
  · go_ret
    exact ⟨ret_bool (u64_less' ‹_›), ((Up.refl w).alloc _).alloc _⟩
theorem agg_back {a b c d : Int} (h1 : a = c) (h2 : b = d) : Ending.returned (.agg #[.int .i64 a, .int .i64 b]) = .returned (.agg #[.int .i64 c, .int .i64 d]) := by rw [h1, h2]
theorem mask31 (n : Int) (h : 0 ≤ n ∧ n ≤ 9223372036854775807) : bits .and .i64 n 2147483647 = n % 2147483648 := by
  obtain ⟨a, rfl⟩ : ∃ a : Nat, n = (a : Int) := ⟨n.toNat, by omega⟩
  show IntKind.i64.wrap ((BitVec.ofInt 64 (a : Int) &&& BitVec.ofInt 64 (2147483647 : Int)).toNat : Int) = _
  have e1 : (BitVec.ofInt 64 (a : Int)).toNat = a := by
    rw [BitVec.ofInt_natCast, BitVec.toNat_ofNat]
    exact Nat.mod_eq_of_lt (by omega)
  have e2 : (BitVec.ofInt 64 (2147483647 : Int)).toNat = 2147483647 := by decide
  rw [BitVec.toNat_and, e1, e2, IntKind.wrap_i64, show (2147483647 : Nat) = 2 ^ 31 - 1 from rfl, Nat.and_two_pow_sub_one_eq_mod]
  omega
set_option maxHeartbeats 400000 in
theorem RefTimes_any (n k : Int) (w : World) (hn : 0 ≤ n ∧ n ≤ 9223372036854775807) (hk : 0 ≤ k ∧ k ≤ 2000) :
    Calls Try.prog 36 #[.int .i64 n, .int .i64 k] w fun e w' => e = .returned (.agg #[.int .i64 (n * k / 4611686018427387904), .int .i64 (n * k % 4611686018427387904)]) ∧ Up w w' := by
  have HW := Lib.hid (TM.wide_mul n k)
  have E1 := mask31 n hn
  have b1 : 0 ≤ n / 2147483648 * k ∧ n / 2147483648 * k ≤ 8589934590000 :=
    ⟨Int.mul_nonneg (by omega) hk.1, by have := Int.mul_le_mul (show n / 2147483648 ≤ 4294967295 by omega) hk.2 hk.1 (by omega); omega⟩
  have b2 : 0 ≤ n % 2147483648 * k ∧ n % 2147483648 * k ≤ 4294967294000 :=
    ⟨Int.mul_nonneg (by omega) hk.1, by have := Int.mul_le_mul (show n % 2147483648 ≤ 2147483647 by omega) hk.2 hk.1 (by omega); omega⟩
  have E2 := mask31 (n % 2147483648 * k) (by omega)
  have E3 := mask31 (n / 2147483648 * k + n % 2147483648 * k / 2147483648) (by omega)
  go_enter Try.func36, Try.ntmps36
  go_wp2_with fail
  refine bodyPost_ret (v := .agg #[.int .i64 ((n / 2147483648 * k + n % 2147483648 * k / 2147483648) / 2147483648), .int .i64 ((n / 2147483648 * k + n % 2147483648 * k / 2147483648) % 2147483648 * 2147483648 + n % 2147483648 * k % 2147483648)]) ?_ rfl ⟨agg_back (by have := HW.out; omega) (by have := HW.out; omega), (Up.refl w).alloc _⟩
  rw [results_cell rfl]
  go_simp
end Go.Proofs.Ytbcpphckjfbkbaa.Tm
