/- container/heap's up and down over the agenda's queue: a heap of the same items. -/
import Derived.Test.YtkgipdhbaiaaeaaAgW2
namespace Go.Proofs.Ytkgipdhbaiaaeaa
open Go.RowKit Go.Sort
open AM (It HS g sw)
set_option linter.unusedVariables false
set_option linter.unusedSimpArgs false
set_option maxRecDepth 100000
def Q (b : Nat) : Value := .iface 63 (.pointer (some ⟨b, 0, none⟩))
/-- What up, down and what calls them leave behind: a heap of the same items. -/
def HpPost (w : World) (b : Nat) (h : List It) (n m : Nat) (w' : World) : Prop := ∃ h', AgH w' b h' n ∧ AM.Heap h' m ∧ (h'.take m).Perm (h.take m) ∧ Mod [b] w w'
section
variable {w : World} {b n m i j : Nat} {h : List It}
theorem quo_par {k : Nat} (h0 : 0 < k) (hk : k < 32) : IntKind.i64.wrap (((k : Int) - 1).tdiv 2) = ((AM.par k : Nat) : Int) := by
  rw [IntWalk.i64_quo _ _ (by omega)]
  unfold AM.par
  omega
theorem qLess_at (H : AgH w b h n) (hi : i < 32) (hj : j < 32) {x y : Int} (hx : x = (i : Int)) (hy : y = (j : Int)) : Calls Try.prog 81 #[.pointer (some ⟨b, 0, none⟩), .int .i64 x, .int .i64 y] w fun e w' => e = .returned (.bool (AM.before (g h i) (g h j))) ∧ Below w.heap.size w w' := by
  subst hx hy
  exact qLess H hi hj
theorem qSwap_at (H : AgH w b h n) (hi : i < 32) (hj : j < 32) {x y : Int} (hx : x = (i : Int)) (hy : y = (j : Int)) : Calls Try.prog 84 #[.pointer (some ⟨b, 0, none⟩), .int .i64 x, .int .i64 y] w fun e w' => (∃ v, e = .returned v) ∧ AgH w' b (sw h i j) n ∧ Mod [b] w w' := by
  subst hx hy
  by_cases e : i = j
  · subst e; exact qSwap_eq H hi
  · exact qSwap_ne H hi hj e
set_option maxHeartbeats 2000000 in
theorem up_any (H : AgH w b h n) (hm : m ≤ 32) (hj : j < m) (HU : AM.Up h m j) : Calls Try.prog 36 #[Q b, .int .i64 (j : Int)] w fun e w' => (∃ v, e = .returned v) ∧ HpPost w b h n m w' := by
  have H0 := Lib.hid H
  have HU0 := Lib.hid HU
  clear H HU
  unfold Q
  go_enter Try.func36, Try.ntmps36
  go_wp2_with fail
  go_loopw [1] (fun jv wr => ∃ (k : Nat) (h' : List It), jv = .int .i64 (k : Int) ∧ k < m ∧ Hid (AgH wr b h' n) ∧ Hid (AM.Up h' m k) ∧ Hid ((h'.take m).Perm (h.take m)) ∧ Hid (Mod [b] w wr)) (fun jv _ => (intOf jv).toNat)
  case atStart => exact ⟨j, h, rfl, hj, H0, HU0, Lib.hid (List.Perm.refl _), Lib.hid (Mod.refl _ _)⟩
  case round =>
    obtain ⟨k, h', rfl, hk, HA, HU, HP, HM⟩ := hrel
    by_cases h0 : k = 0
    · subst h0
      have e1 : IntKind.i64.wrap (((0 : Nat) : Int) - 1) = -1 := by decide
      go_wp2_with fail
      go_end0
      exact ⟨⟨_, rfl⟩, h', HA.out, HU.out.heap (fun h0 _ => absurd h0 (Nat.lt_irrefl 0)), HP.out, HM.out⟩
    · have e1 : IntKind.i64.wrap ((k : Int) - 1) = (k : Int) - 1 := IntWalk.i64_in _ (by omega)
      have e2 := quo_par (k := k) (by omega) (by omega)
      have hpk : AM.par k < k := by unfold AM.par; omega
      have e3 : (((AM.par k : Nat) : Int) == (k : Int)) = false := by rw [beq_eq_false_iff_ne]; omega
      have HPK := Lib.hid hpk
      clear hpk
      go_wp2_with fail
      refine (qLess_at HA.out (i := k) (j := AM.par k) (by omega) (by have := HPK.out; omega) rfl rfl).mono ?_
      rintro e w1 ⟨rfl, hb1⟩
      have HA1 := Lib.hid (HA.out.below hb1)
      have HM1 := Lib.hid (HM.out.trans (Mod.of_below hb1 []) (by simp))
      clear hb1 HA HM
      cases hr : AM.before (g h' k) (g h' (AM.par k)) with
      | false =>
        have HR := Lib.hid (of_decide_eq_false hr)
        clear hr
        go_wp2_with fail
        go_end0
        exact ⟨⟨_, rfl⟩, h', HA1.out, HU.out.heap (fun _ _ => HR.out), HP.out, HM1.out⟩
      | true =>
        have HR := Lib.hid (of_decide_eq_true hr)
        clear hr
        go_wp2_with fail
        refine (qSwap_at HA1.out (i := AM.par k) (j := k) (by have := HPK.out; omega) (by omega) rfl rfl).mono ?_
        rintro e w2 ⟨⟨v, rfl⟩, h2, hm2⟩
        have HA2 := Lib.hid h2
        have HM2 := Lib.hid (HM1.out.trans hm2 (fun x hx => .inl hx))
        clear h2 hm2 HA1 HM1
        go_wp2_with fail
        go_roundw
        case rel =>
          have hl := HA2.out.len
          rw [AM.sw_len] at hl
          exact ⟨AM.par k, sw h' (AM.par k) k, rfl, by have := HPK.out; omega, HA2, Lib.hid (HU.out.step (by omega) (by omega) hk HR.out), Lib.hid ((AM.sw_take (by have := HPK.out; omega) hk (by omega)).trans HP.out), HM2⟩
        case measure => have := HPK.out; simp [intOf]; omega
/-- What down leaves behind, from i on. -/
def DnPost (w : World) (b : Nat) (h : List It) (n m i : Nat) (e : Ending) (w' : World) : Prop := ∃ h' r, e = .returned (.bool r) ∧ AgH w' b h' n ∧ (h'.take m).Perm (h.take m) ∧ Mod [b] w w' ∧ (r = true → AM.Heap h' m) ∧ (r = false → AM.Up h' m i)
theorem DnPost.of {h' : List It} {k : Nat} {w' : World} (HA : AgH w' b h' n) (HD : AM.Down h' m i k) (HP : (h'.take m).Perm (h.take m)) (HM : Mod [b] w w') (hd : ∀ c, 0 < c → c < m → AM.par c = k → ¬ AM.lt (g h' c) (g h' k)) : DnPost w b h n m i (.returned (.bool (decide (i < k)))) w' := by
  have hU := HD.done hd
  refine ⟨h', _, rfl, HA, HP, HM, fun e => hU.heap (fun k0 km => (HD.up (fun e2 => ?_)).2), fun e => ?_⟩
  · subst e2; simp at e
  · have hk : k = i := by
      apply Decidable.byContradiction
      intro hne
      have := (HD.up hne).1
      simp at e
      omega
    rw [← hk]; exact hU
theorem min_two {h' : List It} {k j : Nat} (hj : j = 2 * k + 1 ∨ j = 2 * k + 2) (ho : ∀ c, (c = 2 * k + 1 ∨ c = 2 * k + 2) → c < m → ¬ AM.lt (g h' c) (g h' j)) : ∀ c, 0 < c → c < m → AM.par c = k → ¬ AM.lt (g h' c) (g h' j) := fun c c0 cm pc => ho c (by unfold AM.par at pc; omega) cm
set_option maxHeartbeats 4000000 in
theorem down_any (H : AgH w b h n) (hm : m ≤ 32) (hi : i < 32) (HD : AM.Down h m i i) : Calls Try.prog 35 #[Q b, .int .i64 (i : Int), .int .i64 (m : Int)] w (DnPost w b h n m i) := by
  have H0 := Lib.hid H
  have HD0 := Lib.hid HD
  clear H HD
  unfold Q
  go_enter Try.func35, Try.ntmps35
  go_wp2_with fail
  go_loopw [7] (fun iv wr => ∃ (k : Nat) (h' : List It), iv = .int .i64 (k : Int) ∧ k < 32 ∧ Hid (AgH wr b h' n) ∧ Hid (AM.Down h' m i k) ∧ Hid ((h'.take m).Perm (h.take m)) ∧ Hid (Mod [b] w wr)) (fun iv _ => 32 - (intOf iv).toNat)
  case atStart => exact ⟨i, h, rfl, hi, H0, HD0, Lib.hid (List.Perm.refl _), Lib.hid (Mod.refl _ _)⟩
  case round =>
    obtain ⟨k, h', rfl, hk, HA, HD, HP, HM⟩ := hrel
    have e1 : IntKind.i64.wrap (2 * (k : Int)) = 2 * (k : Int) := IntWalk.i64_in _ (by omega)
    have e2 : IntKind.i64.wrap (2 * (k : Int) + 1) = 2 * (k : Int) + 1 := IntWalk.i64_in _ (by omega)
    have e3 : IntKind.i64.wrap (2 * (k : Int) + 1 + 1) = 2 * (k : Int) + 1 + 1 := IntWalk.i64_in _ (by omega)
    by_cases hc : 2 * k + 1 < m
    · have d1 : ((m : Int) ≤ 2 * (k : Int) + 1) = False := by simp; omega
      have d2 : (2 * (k : Int) + 1 < 0) = False := by simp; omega
      by_cases hc2 : 2 * k + 2 < m
      · have d3 : (2 * (k : Int) + 1 + 1 < (m : Int)) = True := by simp; omega
        go_wp2_with fail
        refine (qLess_at HA.out (i := 2 * k + 2) (j := 2 * k + 1) (by omega) (by omega) (by omega) (by omega)).mono ?_
        rintro e w1 ⟨rfl, hb1⟩
        have HA1 := Lib.hid (HA.out.below hb1)
        have HM1 := Lib.hid (HM.out.trans (Mod.of_below hb1 []) (by simp))
        clear hb1 HA HM
        cases hr : AM.before (g h' (2 * k + 2)) (g h' (2 * k + 1)) with
        | false =>
          have HR := Lib.hid (of_decide_eq_false hr)
          clear hr
          have HMIN := Lib.hid (min_two (m := m) (h' := h') (k := k) (j := 2 * k + 1) (.inl rfl) (fun c hc _ => by rcases hc with rfl | rfl; exact AM.lt_irrefl _; exact HR.out))
          go_wp2_with fail
          refine (qLess_at HA1.out (i := 2 * k + 1) (j := k) (by omega) (by omega) (by omega) rfl).mono ?_
          rintro e wz ⟨rfl, hbz⟩
          have HAz := Lib.hid (HA1.out.below hbz)
          have HMz := Lib.hid (HM1.out.trans (Mod.of_below hbz []) (by simp))
          clear hbz HA1 HM1
          cases hq : AM.before (g h' (2 * k + 1)) (g h' k) with
          | false =>
            have HQ := Lib.hid (of_decide_eq_false hq)
            clear hq
            go_wp2_with fail
            go_ret
            exact DnPost.of HAz.out HD.out HP.out HMz.out (fun c c0 cm pc => AM.le_trans HQ.out (HMIN.out c c0 cm pc))
          | true =>
            have HQ := Lib.hid (of_decide_eq_true hq)
            clear hq
            go_wp2_with fail
            refine (qSwap_at HAz.out (i := k) (j := 2 * k + 1) (by omega) (by omega) rfl (by omega)).mono ?_
            rintro e wy ⟨⟨v, rfl⟩, h2, hm2⟩
            have HAy := Lib.hid h2
            have HMy := Lib.hid (HMz.out.trans hm2 (fun x hx => .inl hx))
            clear h2 hm2 HAz HMz
            go_wp2_with fail
            go_roundw
            case rel =>
              have hl := HAy.out.len
              rw [AM.sw_len] at hl
              exact ⟨2 * k + 1, sw h' k (2 * k + 1), by congr 1 <;> omega, by omega, HAy, Lib.hid (HD.out.step (by omega) (by unfold AM.par; omega) (by omega) (by omega) HMIN.out HQ.out), Lib.hid ((AM.sw_take (by omega) (by omega) (by omega)).trans HP.out), HMy⟩
            case measure => simp [intOf]; omega
        | true =>
          have HR := Lib.hid (of_decide_eq_true hr)
          clear hr
          have HMIN := Lib.hid (min_two (m := m) (h' := h') (k := k) (j := 2 * k + 2) (.inr rfl) (fun c hc _ => by rcases hc with rfl | rfl; exact AM.lt_asymm HR.out; exact AM.lt_irrefl _))
          go_wp2_with fail
          refine (qLess_at HA1.out (i := 2 * k + 2) (j := k) (by omega) (by omega) (by omega) rfl).mono ?_
          rintro e wz ⟨rfl, hbz⟩
          have HAz := Lib.hid (HA1.out.below hbz)
          have HMz := Lib.hid (HM1.out.trans (Mod.of_below hbz []) (by simp))
          clear hbz HA1 HM1
          cases hq : AM.before (g h' (2 * k + 2)) (g h' k) with
          | false =>
            have HQ := Lib.hid (of_decide_eq_false hq)
            clear hq
            go_wp2_with fail
            go_ret
            exact DnPost.of HAz.out HD.out HP.out HMz.out (fun c c0 cm pc => AM.le_trans HQ.out (HMIN.out c c0 cm pc))
          | true =>
            have HQ := Lib.hid (of_decide_eq_true hq)
            clear hq
            go_wp2_with fail
            refine (qSwap_at HAz.out (i := k) (j := 2 * k + 2) (by omega) (by omega) rfl (by omega)).mono ?_
            rintro e wy ⟨⟨v, rfl⟩, h2, hm2⟩
            have HAy := Lib.hid h2
            have HMy := Lib.hid (HMz.out.trans hm2 (fun x hx => .inl hx))
            clear h2 hm2 HAz HMz
            go_wp2_with fail
            go_roundw
            case rel =>
              have hl := HAy.out.len
              rw [AM.sw_len] at hl
              exact ⟨2 * k + 2, sw h' k (2 * k + 2), by congr 1 <;> omega, by omega, HAy, Lib.hid (HD.out.step (by omega) (by unfold AM.par; omega) (by omega) (by omega) HMIN.out HQ.out), Lib.hid ((AM.sw_take (by omega) (by omega) (by omega)).trans HP.out), HMy⟩
            case measure => simp [intOf]; omega
      · have d3 : (2 * (k : Int) + 1 + 1 < (m : Int)) = False := by simp; omega
        have HMIN := Lib.hid (min_two (m := m) (h' := h') (k := k) (j := 2 * k + 1) (.inl rfl) (fun c hc hcm => by rcases hc with rfl | rfl; exact AM.lt_irrefl _; exact absurd hcm hc2))
        go_wp2_with fail
        refine (qLess_at HA.out (i := 2 * k + 1) (j := k) (by omega) (by omega) (by omega) rfl).mono ?_
        rintro e wz ⟨rfl, hbz⟩
        have HAz := Lib.hid (HA.out.below hbz)
        have HMz := Lib.hid (HM.out.trans (Mod.of_below hbz []) (by simp))
        clear hbz HA HM
        cases hq : AM.before (g h' (2 * k + 1)) (g h' k) with
        | false =>
          have HQ := Lib.hid (of_decide_eq_false hq)
          clear hq
          go_wp2_with fail
          go_ret
          exact DnPost.of HAz.out HD.out HP.out HMz.out (fun c c0 cm pc => AM.le_trans HQ.out (HMIN.out c c0 cm pc))
        | true =>
          have HQ := Lib.hid (of_decide_eq_true hq)
          clear hq
          go_wp2_with fail
          refine (qSwap_at HAz.out (i := k) (j := 2 * k + 1) (by omega) (by omega) rfl (by omega)).mono ?_
          rintro e wy ⟨⟨v, rfl⟩, h2, hm2⟩
          have HAy := Lib.hid h2
          have HMy := Lib.hid (HMz.out.trans hm2 (fun x hx => .inl hx))
          clear h2 hm2 HAz HMz
          go_wp2_with fail
          go_roundw
          case rel =>
            have hl := HAy.out.len
            rw [AM.sw_len] at hl
            exact ⟨2 * k + 1, sw h' k (2 * k + 1), by congr 1 <;> omega, by omega, HAy, Lib.hid (HD.out.step (by omega) (by unfold AM.par; omega) (by omega) (by omega) HMIN.out HQ.out), Lib.hid ((AM.sw_take (by omega) (by omega) (by omega)).trans HP.out), HMy⟩
          case measure => simp [intOf]; omega
    · have d1 : ((m : Int) ≤ 2 * (k : Int) + 1) = True := by simp; omega
      go_wp2_with fail
      go_ret
      exact DnPost.of HA.out HD.out HP.out HM.out (fun c c0 cm pc => by unfold AM.par at pc; omega)
end
end Go.Proofs.Ytkgipdhbaiaaeaa
