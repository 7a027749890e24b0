/- The least drift that will do: the package, which searches by halves; the document, whether one will do and the least, one after the other. -/
import Derived.Test.YtbcpphckjfbkbaaTermW5
import Derived.LoopN
namespace Go.Proofs.Ytbcpphckjfbkbaa.Tm
open Go.RowKit Go.Lib Go.Shelf Go.Sort
/-- The closure that is searched: it reads two boxes. -/
theorem closure_any (d a : Int) (i : Nat) (x y : Nat) (w : World) (hd : -9223372036854775808 ≤ d ∧ d ≤ 9223372036854775807) (ha : -9223372036854775808 ≤ a ∧ a ≤ 9223372036854775807) (hi : i < 1000)
    (hx : w.cell? ⟨x, 0, none⟩ = some (.int .i64 d)) (hy : w.cell? ⟨y, 0, none⟩ = some (.int .i64 a)) :
    Calls Try.prog 31 #[.int .i64 (i : Int), .pointer (some ⟨x, 0, none⟩), .pointer (some ⟨y, 0, none⟩)] w fun e w' => e = .returned (.bool (TM.honest d a (i : Int))) ∧ Up w w' := by
  have HM := Lib.hid (fun w' => Honest_any d a (i : Int) w' hd ha (by omega))
  generalize TM.honest d a (i : Int) = p at *
  go_enter Try.func31, Try.ntmps31
  go_wp2_with (go_at_call 18; refine (HM.out _).mono ?_; rintro e w' ⟨rfl, hU⟩; have HU := Lib.hid hU; clear hU)
  go_ret
  exact ⟨rfl, HU.out⟩
theorem search_any (d a : Int) (x y : Nat) (w : World) (hd : -9223372036854775808 ≤ d ∧ d ≤ 9223372036854775807) (ha : -9223372036854775808 ≤ a ∧ a ≤ 9223372036854775807)
    (hx : w.cell? ⟨x, 0, none⟩ = some (.int .i64 d)) (hy : w.cell? ⟨y, 0, none⟩ = some (.int .i64 a)) :
    Calls Try.prog 30 #[.int .i64 1000, .func (.func 31) #[] #[.pointer (some ⟨x, 0, none⟩), .pointer (some ⟨y, 0, none⟩)]] w fun e w' => e = .returned (.int .i64 (TM.least d a : Int)) ∧ Up w w' := by
  have eg : ∀ args w, (callFunc 31 args).run Try.prog w = .ok (.enter 31 args) w := enters_of Try.func31 (by kernel_rfl) rfl
  exact Any.sort_Search Try.search 31 #[.pointer (some ⟨x, 0, none⟩), .pointer (some ⟨y, 0, none⟩)] 1000 (fun i => TM.honest d a (i : Int)) w eg (by decide)
    (fun m os i hi => closure_any d a i x y _ hd ha hi (Up.cell ⟨m, os, rfl⟩ hx) (Up.cell ⟨m, os, rfl⟩ hy))
    (fun i j hij hj h => TM.honest_mono h hij hj)
set_option maxHeartbeats 1000000 in
theorem Least_any (d a : Int) (w : World) (hd : -9223372036854775808 ≤ d ∧ d ≤ 9223372036854775807) (ha : -9223372036854775808 ≤ a ∧ a ≤ 9223372036854775807) :
    Calls Try.prog 24 #[.int .i64 d, .int .i64 a] w fun e w' => e = .returned (.int .i64 (TM.least d a : Int)) ∧ Up w w' := by
  have h0 : ((w.alloc (.cells #[.int .i64 d] 3)).alloc (.cells #[.int .i64 a] 3)).cell? ⟨w.heap.size, 0, none⟩ = some (.int .i64 d) := cell_alloc_sl _ (cell_new_sl w _ _)
  have h1 : ((w.alloc (.cells #[.int .i64 d] 3)).alloc (.cells #[.int .i64 a] 3)).cell? ⟨w.heap.size + 1, 0, none⟩ = some (.int .i64 a) := by
    have := cell_new_sl (w.alloc (.cells #[.int .i64 d] 3)) (.int .i64 a) 3
    rwa [World.size_alloc] at this
  have HS := Lib.hid (search_any d a w.heap.size (w.heap.size + 1) _ hd ha h0 h1)
  have HU0 := Lib.hid (((Up.refl w).alloc (.cells #[.int .i64 d] 3)).alloc (.cells #[.int .i64 a] 3))
  clear h0 h1
  generalize (TM.least d a : Int) = n at *
  go_enter Try.func24, Try.ntmps24
  go_wp2_with (go_at_call 30; refine HS.out.mono ?_; rintro e w' ⟨rfl, hU⟩; have HU := Lib.hid hU; clear hU)
  go_ret
  exact ⟨rfl, HU0.out.trans HU.out⟩

theorem refTimes_at {n k : Int} (hn : 0 ≤ n ∧ n ≤ 9223372036854775807) (hk : 0 ≤ k ∧ k ≤ 2000) {X a b : Int} (hX : n * k = X) (ha : X / 4611686018427387904 = a) (hb : X % 4611686018427387904 = b) (w : World) :
    Calls Try.prog 36 #[.int .i64 n, .int .i64 k] w fun e w' => e = .returned (.agg #[.int .i64 a, .int .i64 b]) ∧ Up w w' := by
  have h := RefTimes_any n k w hn hk
  rw [hX, ha, hb] at h
  exact h
theorem refBelow_at {X Y a b c d : Int} (ha : X / 4611686018427387904 = a) (hb : X % 4611686018427387904 = b) (hc : Y / 4611686018427387904 = c) (hd : Y % 4611686018427387904 = d) {p : Bool} (hp : decide (X ≤ Y) = p) (w : World) :
    Calls Try.prog 35 #[.agg #[.int .i64 a, .int .i64 b], .agg #[.int .i64 c, .int .i64 d]] w fun e w' => e = .returned (.bool p) ∧ Up w w' := by
  have h := RefBelow_any a b c d w
  rw [← ha, ← hb, ← hc, ← hd] at h ⊢
  rw [decide_eq_decide.2 (halves62 X Y), hp] at h
  exact h
set_option maxHeartbeats 4000000 in
theorem RefHonest_any (d a r : Int) (w : World) (hd : -9223372036854775808 ≤ d ∧ d ≤ 9223372036854775807) (ha : -9223372036854775808 ≤ a ∧ a ≤ 9223372036854775807) (hr : -9223372036854775808 ≤ r ∧ r ≤ 9223372036854775807) :
    Calls Try.prog 32 #[.int .i64 d, .int .i64 a, .int .i64 r] w fun e w' => e = .returned (.bool (TM.honest d a r)) ∧ Up w w' := by
  by_cases h : d < 0 ∨ a < 0 ∨ ¬ (0 ≤ r ∧ r ≤ 999)
  · have HF := Lib.hid (honest_not h)
    have h' : d < 0 ∨ a < 0 ∨ r < 0 ∨ 999 < r := by omega
    clear h
    rcases h' with h1 | h1 | h1 | h1
    all_goals
      go_enter Try.func32, Try.ntmps32
      go_wp2_with fail
      all_goals
        go_ret
        exact ⟨ret_bool HF.out, Up.refl w⟩
  · have h3 : 0 ≤ r ∧ r ≤ 999 := by omega
    have hk1 : 0 ≤ 1000 - r ∧ 1000 - r ≤ 2000 := by omega
    have hk2 : 0 ≤ 1000 + r ∧ 1000 + r ≤ 2000 := by omega
    have hD : 0 ≤ d ∧ d ≤ 9223372036854775807 := by omega
    have hA : 0 ≤ a ∧ a ≤ 9223372036854775807 := by omega
    clear h
    obtain ⟨x1, hx1⟩ : ∃ x, d * (1000 - r) / 4611686018427387904 = x := ⟨_, rfl⟩
    obtain ⟨x2, hx2⟩ : ∃ x, d * (1000 - r) % 4611686018427387904 = x := ⟨_, rfl⟩
    obtain ⟨y1, hy1⟩ : ∃ x, a * 1000 / 4611686018427387904 = x := ⟨_, rfl⟩
    obtain ⟨y2, hy2⟩ : ∃ x, a * 1000 % 4611686018427387904 = x := ⟨_, rfl⟩
    obtain ⟨z1, hz1⟩ : ∃ x, d * (1000 + r) / 4611686018427387904 = x := ⟨_, rfl⟩
    obtain ⟨z2, hz2⟩ : ∃ x, d * (1000 + r) % 4611686018427387904 = x := ⟨_, rfl⟩
    obtain ⟨p, hp⟩ : ∃ p, decide (d * (1000 - r) ≤ a * 1000) = p := ⟨_, rfl⟩
    obtain ⟨q, hq⟩ : ∃ q, decide (a * 1000 ≤ d * (1000 + r)) = q := ⟨_, rfl⟩
    have HX := Lib.hid (refTimes_at hD hk1 rfl hx1 hx2)
    have HY := Lib.hid (refTimes_at hA (show (0 : Int) ≤ 1000 ∧ (1000 : Int) ≤ 2000 by decide) rfl hy1 hy2)
    have HZ := Lib.hid (refTimes_at hD hk2 rfl hz1 hz2)
    have HP := Lib.hid (refBelow_at hx1 hx2 hy1 hy2 hp)
    have HQ := Lib.hid (refBelow_at hy1 hy2 hz1 hz2 hq)
    have HH := Lib.hid (honest_when (s := p && q) hD.1 hA.1 h3 hp hq rfl)
    clear hx1 hx2 hy1 hy2 hz1 hz2 hp hq
    have HU := Lib.hid (Up.refl w)
    go_enter Try.func32, Try.ntmps32
    go_wp2_with fail
    refine (HX.out _).mono ?_
    rintro e w' ⟨rfl, hU⟩
    have HU := Lib.hid (HU.out.trans hU)
    clear hU
    go_wp2_with fail
    refine (HY.out _).mono ?_
    rintro e w' ⟨rfl, hU⟩
    have HU := Lib.hid (HU.out.trans hU)
    clear hU
    go_wp2_with fail
    refine (HP.out _).mono ?_
    rintro e w' ⟨rfl, hU⟩
    have HU := Lib.hid (HU.out.trans hU)
    clear hU
    go_wp2_with fail
    refine (HY.out _).mono ?_
    rintro e w' ⟨rfl, hU⟩
    have HU := Lib.hid (HU.out.trans hU)
    clear hU
    go_wp2_with fail
    refine (HZ.out _).mono ?_
    rintro e w' ⟨rfl, hU⟩
    have HU := Lib.hid (HU.out.trans hU)
    clear hU
    go_wp2_with fail
    refine (HQ.out _).mono ?_
    rintro e w' ⟨rfl, hU⟩
    have HU := Lib.hid (HU.out.trans hU)
    clear hU
    go_wp2_with fail
    all_goals
      rename_i hpp
      go_ret
      exact ⟨ret_bool (by rw [← HH.out]; cases p <;> simp at hpp ⊢), HU.out⟩
set_option maxHeartbeats 1000000 in
theorem RefLeast_any (d a : Int) (w : World) (hd : -9223372036854775808 ≤ d ∧ d ≤ 9223372036854775807) (ha : -9223372036854775808 ≤ a ∧ a ≤ 9223372036854775807) :
    Calls Try.prog 25 #[.int .i64 d, .int .i64 a] w fun e w' => e = .returned (.int .i64 (TM.least d a : Int)) ∧ Up w w' := by
  obtain ⟨n, hn⟩ : ∃ n, (TM.least d a : Int) = n := ⟨_, rfl⟩
  rw [hn]
  have HN0 := Lib.hid hn; clear hn
  go_enter Try.func25, Try.ntmps25
  go_wp2_with fail
  go_loopw [5] (fun i wr => ∃ k : Nat, i = .int .i64 (k : Int) ∧ k ≤ 1000 ∧ Up w wr ∧ Hid (∀ j : Nat, j < k → TM.honest d a (j : Int) = false)) (fun i _ => 1000 - (intOf i).toNat)
  case atStart => exact ⟨0, rfl, by omega, Up.refl w, Lib.hid (fun j hj => absurd hj (Nat.not_lt_zero _))⟩
  case round =>
    obtain ⟨k, rfl, hk, hU, HN⟩ := hrel
    have HU := Lib.hid hU; clear hU
    by_cases hlt : k < 1000
    · have HM := Lib.hid (fun w' => RefHonest_any d a (k : Int) w' hd ha (by omega))
      cases hp : TM.honest d a (k : Int) with
      | true =>
        rw [hp] at HM
        have HL := Lib.hid (show (k : Int) = n by rw [← HN0.out, TM.least_first hlt HN.out hp])
        clear hp
        go_wp2_with (go_at_call 32; refine (HM.out _).mono ?_; rintro e w' ⟨rfl, hU⟩; have HU := Lib.hid (HU.out.trans hU); clear hU)
        go_ret
        exact ⟨ret_int HL.out, HU.out⟩
      | false =>
        rw [hp] at HM
        have HN2 := Lib.hid (fun (j : Nat) (hj : j < k + 1) => (Nat.lt_succ_iff_lt_or_eq.1 hj).elim (HN.out j) (fun e => by rw [e]; exact hp))
        clear hp
        go_wp2_with (go_at_call 32; refine (HM.out _).mono ?_; rintro e w' ⟨rfl, hU⟩; have HU := Lib.hid (HU.out.trans hU); clear hU)
        go_roundw
        case rel => exact ⟨k + 1, rfl, by omega, HU.out, HN2⟩
        case measure => simp only [intOf]; omega
    · have HL := Lib.hid (show (1000 : Int) = n by rw [← HN0.out, TM.least_none (d := d) (a := a) (fun j hj => HN.out j (by omega))]; rfl)
      go_wp2_with fail
      go_ret
      exact ⟨ret_int HL.out, HU.out⟩
end Go.Proofs.Ytbcpphckjfbkbaa.Tm
