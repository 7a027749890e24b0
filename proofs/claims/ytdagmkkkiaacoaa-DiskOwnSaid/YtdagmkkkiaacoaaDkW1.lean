/- The package's calls on a disk that change no sector: New, Len, Writes, Off, Arm, On, refuses, bytes, Read. -/
import Derived.Test.YtdagmkkkiaacoaaDkMem
namespace Go.Proofs.Ytdagmkkkiaacoaa
open Go.RowKit
open By (BytesAt u8 u8s own_shape)
set_option linter.unusedVariables false
set_option linter.unusedSimpArgs false
set_option maxRecDepth 100000
theorem built_at (n : Nat) (a : Act) (x : Operand) (h : a.eval x = .int .i64 (n : Int)) : Try.prog.built 59 ((#[(1, x)] : Array (Nat × Operand)).map fun (i, y) => (i, a.eval y)).toList = some (disk0 n) := by
  have e : ((#[(1, x)] : Array (Nat × Operand)).map fun (i, y) => (i, a.eval y)).toList = [(1, .int .i64 (n : Int))] := by simp [h]
  rw [e]
  exact built_disk n
set_option maxHeartbeats 1000000 in
theorem New_ok (n : Nat) (w : World) (h : 1 ≤ n ∧ n ≤ 512) :
    Calls Try.prog 8 #[.int .i64 (n : Int)] w fun e w' => e = .returned (.tuple #[.pointer (some ⟨w.heap.size, 0, none⟩), .int .i64 0]) ∧ w' = w.alloc (.cells (disk0 n) 59) := by
  have HB := Lib.hid (built_at n)
  obtain ⟨h1, h2⟩ := h
  go_enter Try.func8, Try.ntmps8
  go_wp2_with (refine wpList_buildTo rfl 59 #[(1, .tmp 10)] rfl (some 11) rfl (disk0 n) (HB.out _ _ rfl) ?_)
  go_ret2
  exact ⟨rfl, rfl⟩
set_option maxHeartbeats 1000000 in
theorem New_no (n : Int) (w : World) (h : n < 1 ∨ 512 < n) (hn : -9223372036854775808 ≤ n ∧ n ≤ 9223372036854775807) :
    Calls Try.prog 8 #[.int .i64 n] w fun e w' => e = .returned (.tuple #[.pointer none, .int .i64 2]) ∧ w = w' := by
  rcases h with h | h
  all_goals
    go_enter Try.func8, Try.ntmps8
    go_wp2_with fail
    go_ret2
    exact ⟨rfl, rfl⟩
section
variable {w : World} {g : Nat} {d : Dk}
theorem Len_any (h : DkAt w g d) : Calls Try.prog 11 #[.pointer (some ⟨g, 0, none⟩)] w fun e w' => e = .returned (.int .i64 (d.ss.length : Int)) ∧ w = w' := by
  obtain ⟨c0, _⟩ := h.nums
  clear h
  go_enter Try.func11, Try.ntmps11
  go_wp2_with fail
  go_ret
  exact ⟨rfl, rfl⟩
theorem Writes_any (h : DkAt w g d) : Calls Try.prog 24 #[.pointer (some ⟨g, 0, none⟩)] w fun e w' => e = .returned (.int .i64 d.wr) ∧ w = w' := by
  obtain ⟨_, c0, _⟩ := h.nums
  clear h
  go_enter Try.func24, Try.ntmps24
  go_wp2_with fail
  go_ret
  exact ⟨rfl, rfl⟩
theorem Off_any (h : DkAt w g d) : Calls Try.prog 25 #[.pointer (some ⟨g, 0, none⟩)] w fun e w' => e = .returned (.bool d.off) ∧ w = w' := by
  obtain ⟨_, _, c0, _⟩ := h.nums
  clear h
  go_enter Try.func25, Try.ntmps25
  go_wp2_with fail
  go_ret
  exact ⟨rfl, rfl⟩
theorem Len_nil (w : World) : Calls Try.prog 11 #[.pointer none] w fun e w' => e = .returned (.int .i64 0) ∧ w = w' := by
  go_enter Try.func11, Try.ntmps11
  go_wp2_with fail
  go_ret
  exact ⟨rfl, rfl⟩
theorem Writes_nil (w : World) : Calls Try.prog 24 #[.pointer none] w fun e w' => e = .returned (.int .i64 0) ∧ w = w' := by
  go_enter Try.func24, Try.ntmps24
  go_wp2_with fail
  go_ret
  exact ⟨rfl, rfl⟩
theorem Off_nil (w : World) : Calls Try.prog 25 #[.pointer none] w fun e w' => e = .returned (.bool false) ∧ w = w' := by
  go_enter Try.func25, Try.ntmps25
  go_wp2_with fail
  go_ret
  exact ⟨rfl, rfl⟩
theorem Arm_nil (k : Int) (w : World) : Calls Try.prog 15 #[.pointer none, .int .i64 k] w fun e w' => e = .returned (.tuple #[]) ∧ w = w' := by
  go_enter Try.func15, Try.ntmps15
  go_wp2_with fail
  refine bodyPost_ret (results_none rfl _ _ _) rfl ?_
  exact ⟨rfl, rfl⟩
theorem On_nil (w : World) : Calls Try.prog 17 #[.pointer none] w fun e w' => e = .returned (.tuple #[]) ∧ w = w' := by
  go_enter Try.func17, Try.ntmps17
  go_wp2_with fail
  refine bodyPost_ret (results_none rfl _ _ _) rfl ?_
  exact ⟨rfl, rfl⟩
/-- Two numbers of a disk are stored. -/
theorem DkAt.set2 (h : DkAt w g d) (b : Bool) (k : Int) (hb : b = decide (0 ≤ k)) (hk : -1 ≤ k ∧ k ≤ 9223372036854775807) : DkAt ((w.setCell ⟨g, 32771, none⟩ (.bool b)).setCell ⟨g, 32772, none⟩ (.int .i64 (max k 0))) g ⟨d.ss, d.wr, d.off, k⟩ := by
  obtain ⟨cs, h1, h2, h3, h4, h5, h6, h7, h8⟩ := h.ex
  subst hb
  refine ⟨⟨_, (h1.store 32771 _).store 32772 _, by simp [h2], ?_, ?_, ?_, ?_, ?_, fun i x hx j c hc => ?_⟩, ⟨h.ok.lo, h.ok.le, h.ok.len, hk, h.ok.wr⟩⟩
  · rw [Array.getElem?_setIfInBounds_ne (by decide), Array.getElem?_setIfInBounds_ne (by decide)]; exact h3
  · rw [Array.getElem?_setIfInBounds_ne (by decide), Array.getElem?_setIfInBounds_ne (by decide)]; exact h4
  · rw [Array.getElem?_setIfInBounds_ne (by decide), Array.getElem?_setIfInBounds_ne (by decide)]; exact h5
  · rw [Array.getElem?_setIfInBounds_ne (by decide), Array.getElem?_setIfInBounds_self_of_lt (by rw [h2]; decide)]
  · rw [Array.getElem?_setIfInBounds_self_of_lt (by rw [Array.size_setIfInBounds, h2]; decide)]
  · have hx : d.ss[i]? = some x := hx
    have hi := (List.getElem?_eq_some_iff.1 hx).1
    have hj := (List.getElem?_eq_some_iff.1 hc).1
    have hl := h.ok.len i x hx
    have := h.ok.le
    have n1 : 32771 ≠ i * 64 + j := by omega
    have n2 : 32772 ≠ i * 64 + j := by omega
    rw [Array.getElem?_setIfInBounds_ne n2, Array.getElem?_setIfInBounds_ne n1]
    exact h8 i x hx j c hc
theorem DkAt.setOff (h : DkAt w g d) (b : Bool) : DkAt (w.setCell ⟨g, 32770, none⟩ (.bool b)) g ⟨d.ss, d.wr, b, d.am⟩ := by
  obtain ⟨cs, h1, h2, h3, h4, h5, h6, h7, h8⟩ := h.ex
  refine ⟨⟨_, h1.store 32770 _, by simp [h2], ?_, ?_, ?_, ?_, ?_, fun i x hx j c hc => ?_⟩, ⟨h.ok.lo, h.ok.le, h.ok.len, h.ok.am, h.ok.wr⟩⟩
  · rw [Array.getElem?_setIfInBounds_ne (by decide)]; exact h3
  · rw [Array.getElem?_setIfInBounds_ne (by decide)]; exact h4
  · rw [Array.getElem?_setIfInBounds_self_of_lt (by rw [h2]; decide)]
  · rw [Array.getElem?_setIfInBounds_ne (by decide)]; exact h6
  · rw [Array.getElem?_setIfInBounds_ne (by decide)]; exact h7
  · have hx : d.ss[i]? = some x := hx
    have hi := (List.getElem?_eq_some_iff.1 hx).1
    have hj := (List.getElem?_eq_some_iff.1 hc).1
    have hl := h.ok.len i x hx
    have := h.ok.le
    have n1 : 32770 ≠ i * 64 + j := by omega
    rw [Array.getElem?_setIfInBounds_ne n1]
    exact h8 i x hx j c hc
set_option maxHeartbeats 1000000 in
theorem Arm_any (h : DkAt w g d) (k : Int) (hk : -9223372036854775808 ≤ k ∧ k ≤ 9223372036854775807) :
    Calls Try.prog 15 #[.pointer (some ⟨g, 0, none⟩), .int .i64 k] w fun e w' => e = .returned (.tuple #[]) ∧ DkAt w' g (DK.arm d k) ∧ Mod [g] w w' := by
  obtain ⟨_, _, _, c3, c4⟩ := h.nums
  have f3 := h.fr 32771
  have f4 := h.fr 32772
  by_cases h0 : 0 ≤ k
  · have HM := Lib.hid (((Mod.refl [g] w).store (p := ⟨g, 32771, none⟩) (.inl (by simp)) (.bool true)).store (p := ⟨g, 32772, none⟩) (.inl (by simp)) (.int .i64 k))
    have HR := Lib.hid (h.set2 true k (by simp [h0]) (by omega))
    have HX := Lib.hid (show max k 0 = k by omega)
    have HK := Lib.hid (show max k (-1) = k by omega)
    clear h
    go_enter Try.func15, Try.ntmps15
    go_wp2_with fail
    go_end0
    have hr := HR.out
    rw [HX.out] at hr
    unfold DK.arm
    rw [HK.out]
    exact ⟨rfl, hr, HM.out⟩
  · have HM := Lib.hid (((Mod.refl [g] w).store (p := ⟨g, 32771, none⟩) (.inl (by simp)) (.bool false)).store (p := ⟨g, 32772, none⟩) (.inl (by simp)) (.int .i64 0))
    have HR := Lib.hid (h.set2 false (-1) (by decide) (by omega))
    have HK := Lib.hid (show max k (-1) = -1 by omega)
    clear h
    go_enter Try.func15, Try.ntmps15
    go_wp2_with fail
    go_end0
    unfold DK.arm
    rw [HK.out]
    exact ⟨rfl, HR.out, HM.out⟩
set_option maxHeartbeats 1000000 in
theorem On_any (h : DkAt w g d) :
    Calls Try.prog 17 #[.pointer (some ⟨g, 0, none⟩)] w fun e w' => e = .returned (.tuple #[]) ∧ DkAt w' g (DK.on d) ∧ Mod [g] w w' := by
  obtain ⟨_, _, c2, _⟩ := h.nums
  have f2 := h.fr 32770
  have HM := Lib.hid ((Mod.refl [g] w).store (p := ⟨g, 32770, none⟩) (.inl (by simp)) (.bool false))
  have HR := Lib.hid (h.setOff false)
  clear h
  go_enter Try.func17, Try.ntmps17
  go_wp2_with fail
  go_end0
  exact ⟨rfl, HR.out, HM.out⟩
theorem refuses_nil (i : Int) (w : World) : Calls Try.prog 29 #[.pointer none, .int .i64 i] w fun e w' => e = .returned (.int .i64 1) ∧ w = w' := by
  go_enter Try.func29, Try.ntmps29
  go_wp2_with fail
  go_ret
  exact ⟨rfl, rfl⟩
set_option maxHeartbeats 1000000 in
theorem refuses_any (h : DkAt w g d) (i : Int) : Calls Try.prog 29 #[.pointer (some ⟨g, 0, none⟩), .int .i64 i] w fun e w' => e = .returned (.int .i64 (DK.rerr d i)) ∧ w = w' := by
  obtain ⟨c0, _, c2, _⟩ := h.nums
  clear h
  cases ho : d.off with
  | true =>
    have HE := Lib.hid (DK.rerr_off (i := i) ho)
    rw [ho] at c2
    clear ho
    go_enter Try.func29, Try.ntmps29
    go_wp2_with fail
    go_ret
    exact ⟨ret_int HE.out.symm, rfl⟩
  | false =>
    rw [ho] at c2
    by_cases h0 : i < 0
    · have HE := Lib.hid (DK.rerr_no ho (.inl h0))
      clear ho
      go_enter Try.func29, Try.ntmps29
      go_wp2_with fail
      go_ret
      exact ⟨ret_int HE.out.symm, rfl⟩
    by_cases h1 : (d.ss.length : Int) ≤ i
    · have HE := Lib.hid (DK.rerr_no ho (.inr h1))
      clear ho
      go_enter Try.func29, Try.ntmps29
      go_wp2_with fail
      go_ret
      exact ⟨ret_int HE.out.symm, rfl⟩
    · have HE := Lib.hid (DK.rerr_ok ho (fun hh => hh.elim h0 h1))
      clear ho
      go_enter Try.func29, Try.ntmps29
      go_wp2_with fail
      go_ret
      exact ⟨ret_int HE.out.symm, rfl⟩
theorem isNo_any (A : Option Addr) (n c : Nat) (w : World) : Calls Try.prog 28 #[.slice A n c] w fun e w' => e = .returned (.bool (!decide (n = 64))) ∧ w = w' := by
  have HE := Lib.hid (show (!((n : Int) == 64)) = !decide (n = 64) by
    by_cases h : n = 64
    · subst h; rfl
    · rw [decide_eq_false h, show ((n : Int) == 64) = false by simp; omega])
  go_enter Try.func28, Try.ntmps28
  go_wp2_with fail
  go_ret
  exact ⟨ret_bool HE.out, rfl⟩
set_option maxHeartbeats 1000000 in
theorem bytes_any (x : List UInt8) (hx : x.length = 64) (w : World) : Calls Try.prog 30 #[.agg (u8s x).toArray] w fun e w' => e = .returned (.slice (some ⟨w.heap.size, 0, none⟩) 64 64) ∧ w' = w.alloc (.cells (u8s x).toArray 56) := by
  go_enter Try.func30, Try.ntmps30
  go_wp2_with fail
  go_ret
  exact ⟨rfl, rfl⟩
end
end Go.Proofs.Ytdagmkkkiaacoaa
