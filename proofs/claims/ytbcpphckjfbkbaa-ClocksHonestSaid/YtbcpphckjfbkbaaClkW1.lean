/- The package's calls on clocks, but Tick: New, True, Now, Len, Drift; whether a clock would pass its end; the clocks go on. -/
import Derived.Test.YtbcpphckjfbkbaaClkMem
import Derived.Test.YtbcpphckjfbkbaaIdx
namespace Go.Proofs.Ytbcpphckjfbkbaa
open Go.RowKit
open CK (Ck)
set_option linter.unusedVariables false
set_option linter.unusedSimpArgs false
set_option maxRecDepth 100000
theorem new_cells (n : Nat) (h : 1 ≤ n ∧ n ≤ 8) : ckCells (CK.zero n) = #[.int .i64 0, .int .i64 0, .int .i64 0, .int .i64 0, .int .i64 0, .int .i64 0, .int .i64 0, .int .i64 0, .int .i64 n, .int .i64 0, .int .i64 0] := by
  obtain ⟨h1, h8⟩ := h
  have h : n = 1 ∨ n = 2 ∨ n = 3 ∨ n = 4 ∨ n = 5 ∨ n = 6 ∨ n = 7 ∨ n = 8 := by omega
  rcases h with rfl | rfl | rfl | rfl | rfl | rfl | rfl | rfl <;> rfl
set_option maxHeartbeats 1000000 in
theorem New_ok (n : Nat) (w : World) (h : 1 ≤ n ∧ n ≤ 8) :
    Calls Try.prog 8 #[.int .i64 (n : Int)] w fun e w' => e = .returned (.tuple #[.pointer (some ⟨w.heap.size, 0, none⟩), .int .i64 0]) ∧ ClkAt w' w.heap.size (CK.zero n) ∧ Below w.heap.size w w' := by
  have HC := Lib.hid (new_cells n h)
  have HS := Lib.hid (CK.zero_sound h.1 h.2)
  obtain ⟨h1, h8⟩ := h
  go_enter Try.func8, Try.ntmps8
  go_wp2_with fail
  go_ret2
  refine ⟨rfl, ⟨?_, HS.out⟩, (Below.refl _ w).alloc (Nat.le_refl _) _⟩
  rw [HC.out]
  exact Whole.new w _ _
set_option maxHeartbeats 1000000 in
theorem New_no (n : Int) (w : World) (h : n < 1 ∨ 8 < n) (hn : -9223372036854775808 ≤ n ∧ n ≤ 9223372036854775807) :
    Calls Try.prog 8 #[.int .i64 n] w fun e w' => e = .returned (.tuple #[.pointer none, .int .i64 2]) ∧ w = w' := by
  rcases h with h | h
  all_goals
    go_enter Try.func8, Try.ntmps8
    go_wp2_with fail
    go_ret2
    exact ⟨rfl, rfl⟩
section
variable {w : World} {g : Nat} {c : Ck}
theorem Len_nil (w : World) : Calls Try.prog 16 #[.pointer none] w fun e w' => e = .returned (.int .i64 0) ∧ w = w' := by
  go_enter Try.func16, Try.ntmps16
  go_wp2_with fail
  go_ret
  exact ⟨rfl, rfl⟩
theorem True_nil (w : World) : Calls Try.prog 15 #[.pointer none] w fun e w' => e = .returned (.int .i64 0) ∧ w = w' := by
  go_enter Try.func15, Try.ntmps15
  go_wp2_with fail
  go_ret
  exact ⟨rfl, rfl⟩
theorem Drift_nil (w : World) : Calls Try.prog 12 #[.pointer none] w fun e w' => e = .returned (.int .i64 0) ∧ w = w' := by
  go_enter Try.func12, Try.ntmps12
  go_wp2_with fail
  go_ret
  exact ⟨rfl, rfl⟩
theorem Len_any (h : ClkAt w g c) : Calls Try.prog 16 #[.pointer (some ⟨g, 0, none⟩)] w fun e w' => e = .returned (.int .i64 c.ts.length) ∧ w = w' := by
  have c8 := h.size
  clear h
  go_enter Try.func16, Try.ntmps16
  go_wp2_with fail
  go_ret
  exact ⟨rfl, rfl⟩
theorem True_any (h : ClkAt w g c) : Calls Try.prog 15 #[.pointer (some ⟨g, 0, none⟩)] w fun e w' => e = .returned (.int .i64 c.tr) ∧ w = w' := by
  have c8 := h.tr
  clear h
  go_enter Try.func15, Try.ntmps15
  go_wp2_with fail
  go_ret
  exact ⟨rfl, rfl⟩
theorem Drift_any (h : ClkAt w g c) : Calls Try.prog 12 #[.pointer (some ⟨g, 0, none⟩)] w fun e w' => e = .returned (.int .i64 c.dr) ∧ w = w' := by
  have c8 := h.dr
  clear h
  go_enter Try.func12, Try.ntmps12
  go_wp2_with fail
  go_ret
  exact ⟨rfl, rfl⟩
theorem Now_nil (k : Int) (w : World) (hk : -9223372036854775808 ≤ k ∧ k ≤ 9223372036854775807) : Calls Try.prog 11 #[.pointer none, .int .i64 k] w fun e w' => e = .returned (.int .i64 0) ∧ w = w' := by
  by_cases h : k < 0
  all_goals
    go_enter Try.func11, Try.ntmps11
    go_wp2_with (go_at_call 16; refine (Len_nil _).mono ?_; rintro e w' ⟨rfl, rfl⟩)
    go_ret
    exact ⟨rfl, rfl⟩
/-- What a clock says: 0, if there is none. -/
def CK.now (c : Ck) (k : Int) : Int := if k < 0 then 0 else (c.ts[k.toNat]?).getD 0
theorem CK.now_at {i : Nat} (hi : i < c.ts.length) : CK.now c (i : Int) = c.ts[i] := by
  unfold CK.now
  rw [if_neg (by omega), Int.toNat_natCast, List.getElem?_eq_getElem hi]; rfl
theorem CK.now_no {k : Int} (hk : k < 0 ∨ (c.ts.length : Int) ≤ k) : CK.now c k = 0 := by
  unfold CK.now
  split
  · rfl
  · rw [List.getElem?_eq_none (by omega)]; rfl
set_option maxHeartbeats 1000000 in
theorem Now_any (h : ClkAt w g c) (k : Int) (hk : -9223372036854775808 ≤ k ∧ k ≤ 9223372036854775807) :
    Calls Try.prog 11 #[.pointer (some ⟨g, 0, none⟩), .int .i64 k] w fun e w' => e = .returned (.int .i64 (CK.now c k)) ∧ w = w' := by
  have H := Lib.hid h
  have h8 := h.ok.le
  clear h
  by_cases h0 : k < 0
  · have HN := Lib.hid (CK.now_no (c := c) (.inl h0))
    go_enter Try.func11, Try.ntmps11
    go_wp2_with fail
    go_ret
    exact ⟨ret_int HN.out.symm, rfl⟩
  by_cases h1 : (c.ts.length : Int) ≤ k
  · have HN := Lib.hid (CK.now_no (c := c) (.inr h1))
    go_enter Try.func11, Try.ntmps11
    go_wp2_with (go_at_call 16; refine (Len_any H.out).mono ?_; rintro e w' ⟨rfl, rfl⟩)
    go_ret
    exact ⟨ret_int HN.out.symm, rfl⟩
  obtain ⟨i, rfl⟩ : ∃ i : Nat, k = (i : Int) := ⟨k.toNat, by omega⟩
  have hi : i < c.ts.length := by omega
  have HN := Lib.hid (CK.now_at hi)
  have c0 := H.out.time hi
  generalize c.ts[i] = x at c0 HN
  go_enter Try.func11, Try.ntmps11
  go_wp2_with (go_at_call 16; refine (Len_any H.out).mono ?_; rintro e w' ⟨rfl, rfl⟩)
  go_ret
  exact ⟨ret_int HN.out.symm, rfl⟩
theorem passesEnd_any (t a : Int) (w : World) (ht : 0 ≤ t ∧ t ≤ 1152921504606846976) (ha : -9223372036854775808 ≤ a ∧ a ≤ 9223372036854775807) :
    Calls Try.prog 21 #[.int .i64 t, .int .i64 a] w fun e w' => e = .returned (.bool (CK.late t a)) ∧ w = w' := by
  have HW := Lib.hid (show IntKind.i64.wrap (1152921504606846976 - t) = 1152921504606846976 - t by rw [IntKind.wrap_i64]; omega)
  go_enter Try.func21, Try.ntmps21
  go_wp2_with fail
  go_ret
  exact ⟨rfl, rfl⟩
theorem goesBack_any (a : Int) (w : World) (ha : -9223372036854775808 ≤ a ∧ a ≤ 9223372036854775807) :
    Calls Try.prog 20 #[.int .i64 a] w fun e w' => e = .returned (.bool (CK.back a)) ∧ w = w' := by
  go_enter Try.func20, Try.ntmps20
  go_wp2_with fail
  go_ret
  exact ⟨rfl, rfl⟩
def In64 (bs : List Int) : Prop := ∀ x ∈ bs, -9223372036854775808 ≤ x ∧ x ≤ 9223372036854775807
theorem hit_neg (bs : List Int) : decide (0 ≤ hit CK.back bs) = CK.neg bs := by
  rcases hit_cases CK.back bs with ⟨e, h⟩ | ⟨k, hk, e, h, _⟩
  · rw [e]
    refine (Eq.trans (by decide) (b := false) ?_)
    refine (List.any_eq_false.2 fun x hx => ?_).symm
    rw [h x hx]; decide
  · rw [e]
    rw [show CK.neg bs = true from List.any_eq_true.2 ⟨bs[k], List.getElem_mem hk, h⟩]
    simp
set_option maxHeartbeats 1000000 in
theorem Contains_any (bs : List Int) (A : Option Addr) (n : Nat) (w : World) (hA : IntsAt w A bs) (hl : bs.length ≤ n) (hn : n ≤ 9223372036854775807) (hi : In64 bs) :
    Calls Try.prog 19 #[.slice A bs.length n, .func (.func 20) #[] #[]] w fun e w' => e = .returned (.bool (CK.neg bs)) ∧ Below w.heap.size w w' := by
  have eg : ∀ args w, (callFunc 20 args).run Try.prog w = .ok (.enter 20 args) w := enters_of Try.func20 (by kernel_rfl) rfl
  have HT := Lib.hid (IndexFunc_row 20 #[] CK.back eg bs A n w hA hl hn (fun x hx W hW => by
    refine (goesBack_any x W (hi x hx)).mono ?_
    rintro e w' ⟨rfl, rfl⟩
    exact ⟨rfl, Below.refl _ _⟩))
  have HH := Lib.hid (hit_neg bs)
  generalize hit CK.back bs = y at *
  go_enter Try.func19, Try.ntmps19
  go_wp2_with (go_at_call 29; refine HT.out.mono ?_; rintro e w' ⟨rfl, hb⟩; have HB := Lib.hid hb; clear hb)
  go_ret
  exact ⟨ret_bool HH.out, HB.out⟩
end
end Go.Proofs.Ytbcpphckjfbkbaa
