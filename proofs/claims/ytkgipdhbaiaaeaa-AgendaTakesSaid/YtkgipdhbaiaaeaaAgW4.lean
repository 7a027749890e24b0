/- container/heap's Fix, Push, Pop and Remove over the agenda's queue. -/
import Derived.Test.YtkgipdhbaiaaeaaAgW3
namespace Go.Proofs.Ytkgipdhbaiaaeaa
open Go.RowKit Go.Sort
open AM (It HS g sw)
set_option linter.unusedVariables false
set_option linter.unusedSimpArgs false
set_option maxRecDepth 100000
section
variable {w : World} {b n m i j : Nat} {h : List It}
set_option maxHeartbeats 1000000 in
theorem Fix_any (H : AgH w b h n) (hi : i < n) (HD : AM.Down h n i i) : Calls Try.prog 25 #[Q b, .int .i64 (i : Int)] w fun e w' => (∃ v, e = .returned v) ∧ HpPost w b h n n w' := by
  have H0 := Lib.hid H
  have HD0 := Lib.hid HD
  have hn := H.n32
  clear H HD
  unfold Q
  go_enter Try.func25, Try.ntmps25
  go_wp2_with fail
  refine (qLen H0.out).mono ?_
  rintro e w0 ⟨rfl, e0⟩
  obtain rfl := e0.symm
  go_wp2_with fail
  refine (down_any H0.out hn (by omega) HD0.out).mono ?_
  rintro e w1 ⟨h', r, rfl, h1, h2, h3, h4, h5⟩
  cases r with
  | true =>
    have HR := Lib.hid (show HpPost w b h n n w1 from ⟨h', h1, h4 rfl, h2, h3⟩)
    clear h1 h2 h3 h4 h5
    go_wp2_with fail
    go_end0
    exact ⟨⟨_, rfl⟩, HR.out⟩
  | false =>
    have H1 := Lib.hid h1
    have HP1 := Lib.hid h2
    have HM1 := Lib.hid h3
    have HU := Lib.hid (h5 rfl)
    clear h1 h2 h3 h4 h5
    go_wp2_with fail
    refine (up_any H1.out hn hi HU.out).mono ?_
    rintro e w2 ⟨⟨v, rfl⟩, h'', k1, k2, k3, k4⟩
    have HR := Lib.hid (show HpPost w b h n n w2 from ⟨h'', k1, k2, k3.trans HP1.out, HM1.out.trans k4 (fun x hx => .inl hx)⟩)
    clear k1 k2 k3 k4
    go_wp2_with fail
    go_end0
    exact ⟨⟨_, rfl⟩, HR.out⟩
set_option maxHeartbeats 1000000 in
theorem Push_any (H : AgH w b h n) (hn : n < 32) (HH : AM.Heap h n) (x : It) : Calls Try.prog 26 #[Q b, .iface 29 (agg x)] w fun e w' => (∃ v, e = .returned v) ∧ HpPost w b (h.set n x) (n + 1) (n + 1) w' := by
  have H0 := Lib.hid H
  have HH0 := Lib.hid HH
  have HC := Lib.hid (qPush H hn x)
  have hl := H.len
  clear H HH
  unfold Q
  unfold agg at *
  go_enter Try.func26, Try.ntmps26
  go_wp2_with fail
  refine HC.out.mono ?_
  rintro e w1 ⟨⟨v, rfl⟩, h1, hm1⟩
  have H1 := Lib.hid h1
  have HM1 := Lib.hid hm1
  clear h1 hm1 HC
  have hw : IntKind.i64.wrap (((n + 1 : Nat) : Int) - 1) = (n : Int) := by rw [IntWalk.i64_in _ (by omega)]; omega
  go_wp2_with fail
  refine (qLen H1.out).mono ?_
  rintro e w0 ⟨rfl, e0⟩
  obtain rfl := e0.symm
  go_wp2_with fail
  refine (up_any (m := n + 1) H1.out (by omega) (by omega) (HH0.out.more (by omega))).mono ?_
  rintro e w2 ⟨⟨v, rfl⟩, h'', k1, k2, k3, k4⟩
  have HR := Lib.hid (show HpPost w b (h.set n x) (n + 1) (n + 1) w2 from ⟨h'', k1, k2, k3, HM1.out.trans k4 (fun x hx => .inl hx)⟩)
  clear k1 k2 k3 k4
  go_wp2_with fail
  go_end0
  exact ⟨⟨_, rfl⟩, HR.out⟩
/-- What Pop and Remove leave behind: the one at i is out. -/
def OutPost (w : World) (b : Nat) (h : List It) (n i : Nat) (w' : World) : Prop := ∃ h', AgH w' b h' (n - 1) ∧ AM.Heap h' (n - 1) ∧ (h'.take (n - 1)).Perm ((sw h i (n - 1)).take (n - 1)) ∧ Mod [b] w w'
theorem out_of {w1 w2 : World} {h1 : List It} (hm : Mod [b] w w1) (hh : AM.Heap h1 (n - 1)) (hl : n - 1 < h1.length) (hp : (h1.take (n - 1)).Perm ((sw h i (n - 1)).take (n - 1))) (k1 : AgH w2 b (h1.set (n - 1) default) (n - 1)) (k2 : Mod [b] w1 w2) : OutPost w b h n i w2 :=
  ⟨_, k1, hh.congr (fun k hk => by rw [AM.g_set hl, if_neg (by omega)]), by rw [List.take_set, List.set_eq_of_length_le (by rw [List.length_take]; omega)]; exact hp, hm.trans k2 (fun x hx => .inl hx)⟩
set_option maxHeartbeats 1000000 in
theorem Pop_any (H : AgH w b h n) (hn : 0 < n) (HH : AM.Heap h n) : Calls Try.prog 29 #[Q b] w fun e w' => (∃ v, e = .returned v) ∧ OutPost w b h n 0 w' := by
  have H0 := Lib.hid H
  have HH0 := Lib.hid HH
  have hl := H.len
  have hn2 := H.n32
  clear H HH
  unfold Q
  obtain ⟨m, rfl⟩ : ∃ m, n = m + 1 := ⟨n - 1, by omega⟩
  have hw : IntKind.i64.wrap (((m + 1 : Nat) : Int) - 1) = (m : Int) := by rw [IntWalk.i64_in _ (by omega)]; omega
  go_enter Try.func29, Try.ntmps29
  go_wp2_with fail
  refine (qLen H0.out).mono ?_
  rintro e w0 ⟨rfl, e0⟩
  obtain rfl := e0.symm
  go_wp2_with fail
  refine (qSwap_at H0.out (i := 0) (j := m) (by omega) (by omega) rfl rfl).mono ?_
  rintro e w1 ⟨⟨v, rfl⟩, h1, hm1⟩
  have H1 := Lib.hid h1
  have HM1 := Lib.hid hm1
  clear h1 hm1
  have HD := Lib.hid (show AM.Down (sw h 0 m) m 0 0 by
    by_cases h0 : m = 0
    · subst h0
      exact ⟨fun k k0 km => absurd km (by omega), fun c c0 cm => absurd cm (by omega), fun e => absurd rfl e⟩
    · exact HH0.out.swapped (by omega) (by omega))
  go_wp2_with fail
  refine (down_any (m := m) (i := 0) H1.out (by omega) (by omega) HD.out).mono ?_
  rintro e w2 ⟨h', r, rfl, k1, k2, k3, k4, k5⟩
  have hh : AM.Heap h' m := by
    cases r with
    | true => exact k4 rfl
    | false => exact (k5 rfl).heap (fun h0 => absurd h0 (by omega))
  have H2 := Lib.hid k1
  have HP2 := Lib.hid k2
  have HHH := Lib.hid hh
  have HM2 := Lib.hid (HM1.out.trans k3 (fun x hx => .inl hx))
  clear k1 k2 k3 k4 k5 hh
  go_wp2_with fail
  refine (qPop H2.out (by omega)).mono ?_
  rintro e w3 ⟨⟨v, rfl⟩, h3, hm3⟩
  have HR := Lib.hid (out_of (n := m + 1) (i := 0) HM2.out HHH.out (by have := H2.out.len; omega) HP2.out h3 hm3)
  clear h3 hm3
  go_wp2_with fail
  go_ret
  exact ⟨⟨_, rfl⟩, HR.out⟩
set_option maxHeartbeats 1000000 in
theorem Remove_any (H : AgH w b h n) (hi : i < n) (HH : AM.Heap h n) : Calls Try.prog 28 #[Q b, .int .i64 (i : Int)] w fun e w' => (∃ v, e = .returned v) ∧ OutPost w b h n i w' := by
  have H0 := Lib.hid H
  have HH0 := Lib.hid HH
  have hl := H.len
  have hn2 := H.n32
  clear H HH
  unfold Q
  obtain ⟨m, rfl⟩ : ∃ m, n = m + 1 := ⟨n - 1, by omega⟩
  have hw : IntKind.i64.wrap (((m + 1 : Nat) : Int) - 1) = (m : Int) := by rw [IntWalk.i64_in _ (by omega)]; omega
  go_enter Try.func28, Try.ntmps28
  go_wp2_with fail
  refine (qLen H0.out).mono ?_
  rintro e w0 ⟨rfl, e0⟩
  obtain rfl := e0.symm
  by_cases hmi : m = i
  · subst hmi
    go_wp2_with fail
    refine (qPop H0.out (by omega)).mono ?_
    rintro e w3 ⟨⟨v, rfl⟩, h3, hm3⟩
    have HR := Lib.hid (out_of (n := m + 1) (i := m) (Mod.refl [b] w) (HH0.out.mono (by omega)) (by omega) (by
      have e : sw h m m = h := by
        apply List.ext_getElem?
        intro k
        by_cases hk : k < h.length
        · rw [AM.g_get (by rw [AM.sw_len]; exact hk), AM.g_get hk, AM.g_sw (by omega) (by omega)]
          by_cases e : k = m
          · rw [if_pos e, e]
          · rw [if_neg e, if_neg e]
        · rw [List.getElem?_eq_none (by rw [AM.sw_len]; omega), List.getElem?_eq_none (by omega)]
      show (h.take m).Perm ((sw h m m).take m)
      rw [e]) h3 hm3)
    clear h3 hm3
    go_wp2_with fail
    go_ret
    exact ⟨⟨_, rfl⟩, HR.out⟩
  · have hne : (((m : Nat) : Int) == (i : Int)) = false := by rw [beq_eq_false_iff_ne]; omega
    have hne2 : ¬ ((m : Nat) : Int) = (i : Int) := by omega
    go_wp2_with fail
    refine (qSwap_at H0.out (i := i) (j := m) (by omega) (by omega) rfl rfl).mono ?_
    rintro e w1 ⟨⟨v, rfl⟩, h1, hm1⟩
    have H1 := Lib.hid h1
    have HM1 := Lib.hid hm1
    clear h1 hm1
    have HD := Lib.hid (show AM.Down (sw h i m) m i i from HH0.out.swapped (by omega) (by omega))
    go_wp2_with fail
    refine (down_any (m := m) (i := i) H1.out (by omega) (by omega) HD.out).mono ?_
    rintro e w2 ⟨h', r, rfl, k1, k2, k3, k4, k5⟩
    have H2 := Lib.hid k1
    have HP2 := Lib.hid k2
    have HM2 := Lib.hid (HM1.out.trans k3 (fun x hx => .inl hx))
    cases r with
    | true =>
      have HHH := Lib.hid (k4 rfl)
      clear k1 k2 k3 k4 k5
      go_wp2_with fail
      refine (qPop H2.out (by omega)).mono ?_
      rintro e w3 ⟨⟨v, rfl⟩, h3, hm3⟩
      have HR := Lib.hid (out_of (n := m + 1) (i := i) HM2.out HHH.out (by have := H2.out.len; omega) HP2.out h3 hm3)
      clear h3 hm3
      go_wp2_with fail
      go_ret
      exact ⟨⟨_, rfl⟩, HR.out⟩
    | false =>
      have HU := Lib.hid (k5 rfl)
      clear k1 k2 k3 k4 k5
      go_wp2_with fail
      refine (up_any (m := m) H2.out (by omega) (by omega) HU.out).mono ?_
      rintro e w4 ⟨⟨v, rfl⟩, h'', k1, k2, k3, k4⟩
      have H4 := Lib.hid k1
      have HHH := Lib.hid k2
      have HP4 := Lib.hid (k3.trans HP2.out)
      have HM4 := Lib.hid (HM2.out.trans k4 (fun x hx => .inl hx))
      clear k1 k2 k3 k4
      go_wp2_with fail
      refine (qPop H4.out (by omega)).mono ?_
      rintro e w3 ⟨⟨v, rfl⟩, h3, hm3⟩
      have HR := Lib.hid (out_of (n := m + 1) (i := i) HM4.out HHH.out (by have := H4.out.len; omega) HP4.out h3 hm3)
      clear h3 hm3
      go_wp2_with fail
      go_ret
      exact ⟨⟨_, rfl⟩, HR.out⟩
end
end Go.Proofs.Ytkgipdhbaiaaeaa
