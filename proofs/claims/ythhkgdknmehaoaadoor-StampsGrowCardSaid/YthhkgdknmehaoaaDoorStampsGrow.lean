/- An extended stamp is under its stamp and ahead of the next one, and lesser counters come first; for any list and two numbers. -/
import Derived.Deep.DeepCutAuto
import Derived.Test.YthhkgdknmehaoaaDoorRows
import Derived.Test.YthhkgdknmehaoaaDoorStampsW9
import Derived.Test.YthhkgdknmehaoaaDoorStampsMath2
import Derived.Test.YthhkgdknmehaoaaDoorLawLaid
import Derived.Test.YthhkgdknmehaoaaDoorBulk
import Derived.Test.YthhkgdknmehaoaaDoorCards
import Derived.Test.YthhkgdknmehaoaaDoorTie
import Derived.SevenTiedAt
import Derived.JoinedCond
import Derived.OpenShut
import Derived.ChangeMaps5
namespace Go.Proofs.YthhkgdknmehaoaaDoor.lawStampsGrow
open Go Go.RowKit Go.ChangeShapes Go.WideShapes Go.ChangeAt
open Go.ChangeMaps (open_string)
set_option linter.unusedVariables false
set_option linter.unusedSimpArgs false
set_option maxRecDepth 100000
theorem cmp_at {w : World} {A B : Option Addr} {n c m d : Nat} {a b : List Int} {r : Int} (e : SM.cmp a b = r) (h : Lst w A n c a) (k : Lst w B m d b) : Calls Tryd.prog 17 #[.slice A n c, .slice B m d] w fun e w' => e = .returned (.int .i64 r) ∧ Below w.heap.size w w' := by
  have h := Compare_in h k
  rw [e] at h
  exact h
theorem under_at {w : World} {A B : Option Addr} {n c m d : Nat} {a b : List Int} {r : Bool} (e : SM.under a b = r) (h : Lst w A n c a) (k : Lst w B m d b) : Calls Tryd.prog 19 #[.slice A n c, .slice B m d] w fun e w' => e = .returned (.bool r) ∧ Below w.heap.size w w' := by
  have h := Under_in h k
  rw [e] at h
  exact h
theorem same_at {w : World} {A B : Option Addr} {n c m d : Nat} {a b : List Int} {r : Bool} (e : decide (a = b) = r) (h : Lst w A n c a) (k : Lst w B m d b) : Calls Tryd.prog 21 #[.slice A n c, .slice B m d] w fun e w' => e = .returned (.bool r) ∧ Below w.heap.size w w' := by
  have h := same_in h k
  rw [e] at h
  exact h
theorem ext_at {w : World} {A : Option Addr} {k c : Nat} {l x : List Int} {n e : Int} (h : SM.extend l n = (x, e)) (hn : -9223372036854775808 ≤ n ∧ n ≤ 9223372036854775807) (g : Lst w A k c l) : Calls Tryd.prog 11 #[.slice A k c, .int .i64 n] w fun e' w' => ∃ A n c, e' = .returned (.tuple #[.slice A n c, .int .i64 e]) ∧ Lst w' A n c x ∧ Below w.heap.size w w' := by
  have h2 := Extend_in n hn g
  rw [h] at h2
  exact h2
theorem next_at {w : World} {A : Option Addr} {k c : Nat} {l x : List Int} {e : Int} (h : SM.next l = (x, e)) (g : Lst w A k c l) : Calls Tryd.prog 12 #[.slice A k c] w fun e' w' => ∃ A n c, e' = .returned (.tuple #[.slice A n c, .int .i64 e]) ∧ Lst w' A n c x ∧ Below w.heap.size w w' := by
  have h2 := Next_in g
  rw [h] at h2
  exact h2
theorem valid_at {w : World} {A : Option Addr} {n c : Nat} {a : List Int} {r : Bool} (e : SM.valid a = r) (h : Lst w A n c a) : Calls Tryd.prog 14 #[.slice A n c] w fun e w' => e = .returned (.bool r) ∧ Below w.heap.size w w' := by
  have h := Valid_in h
  rw [e] at h
  exact h
/-- What is known of the next stamp. -/
structure Nexts (s nx : List Int) : Prop where
  len : nx.length = s.length
  cmp : SM.cmp s nx = -1
  under : SM.under s nx = false
  ahead : ∀ n : Int, SM.cmp (s ++ [n]) nx = -1
theorem nexts {s : List Int} (h : (SM.next s).2 = 0) : Nexts s (SM.next s).1 := by
  unfold SM.next at h ⊢
  split at h
  · cases h
  · split at h
    · cases h
    · rename_i h1 h2
      rw [if_neg h1, if_neg h2]
      have hne : s ≠ [] := fun e => h1 (.inr e)
      have hs := SM.snoc_of hne
      obtain ⟨p, z, e1, e2⟩ : ∃ p z, s.dropLast = p ∧ SM.last s = z := ⟨_, _, rfl, rfl⟩
      simp only [e1, e2] at hs ⊢
      have hc : SM.cmp (p ++ [z]) (p ++ [z + 1]) = -1 := by
        rw [SM.cmp_append, SM.cmp_cons, if_pos (by omega)]
      refine ⟨?_, ?_, ?_, fun n => ?_⟩
      · rw [hs]; simp
      · rw [hs]; exact hc
      · cases hu : SM.under s (p ++ [z + 1]) with
        | false => rfl
        | true =>
          have hp := SM.under_iff.1 hu
          have he := List.IsPrefix.eq_of_length hp (by rw [hs]; simp)
          rw [hs] at he
          have := List.append_cancel_left he
          injection this with h3
          omega
      · rw [hs, List.append_assoc, SM.cmp_append]
        show SM.cmp (z :: [n]) ((z + 1) :: []) = -1
        rw [SM.cmp_cons, if_pos (by omega)]
theorem ext_ok {s : List Int} {n : Int} (hv : SM.valid s = true) (h4 : s.length ≠ 4) (hk : SM.count n = true) : SM.extend s n = (s ++ [n], 0) := by
  unfold SM.extend
  rw [if_neg (by rw [hv]; decide), if_neg h4, if_neg (by rw [hk]; decide)]
theorem ext_valid {s : List Int} {n : Int} (hv : SM.valid s = true) (h4 : s.length ≠ 4) (hk : SM.count n = true) : SM.valid (s ++ [n]) = true := by
  rw [SM.valid_iff] at hv ⊢
  refine ⟨by rw [List.length_append, List.length_singleton]; omega, fun x hx => ?_⟩
  rcases List.mem_append.1 hx with h | h
  · exact hv.2 x h
  · rw [List.mem_singleton.1 h]; exact SM.count_iff.1 hk
theorem ext_under (s : List Int) (n : Int) : SM.under s (s ++ [n]) = true := SM.under_iff.2 (List.prefix_append _ _)
theorem ext_zero {s : List Int} {m : Int} (h : (SM.extend s m).2 = 0) : (SM.extend s m).1 = s ++ [m] := by
  unfold SM.extend at h ⊢
  split at h
  · cases h
  · split at h
    · cases h
    · split at h
      · cases h
      · rename_i h1 h2 h3
        rw [if_neg h1, if_neg h2, if_neg h3]
theorem ext_less {s : List Int} {n m : Int} (h : n < m) : SM.cmp (s ++ [n]) (s ++ [m]) = -1 := by rw [SM.cmp_append, SM.cmp_cons, if_pos h]
theorem ext_cell {w : World} {A : Option Addr} {k c : Nat} {s : List Int} {n : Int} (h : Lst w A k c (s ++ [n])) : ∃ b o, A = some ⟨b, o, none⟩ ∧ w.cell? ⟨b, o + s.length, none⟩ = some (.int .i64 n) := by
  obtain ⟨b, o, e, _, hc⟩ := h.at_ (by simp)
  exact ⟨b, o, e, hc s.length n (by simp)⟩
theorem nil_len {w : World} {A : Option Addr} {n c : Nat} (h : Lst w A n c []) : n = 0 := h.len
set_option maxRecDepth 100000 in
set_option maxHeartbeats 4000000 in
theorem walk (As : Option Addr) (ns cs : Nat) (s : List Int) (n m : Int) (w : World) (Hs : Lst w As ns cs s) (hn : -9223372036854775808 ≤ n ∧ n ≤ 9223372036854775807) (hm : -9223372036854775808 ≤ m ∧ m ≤ 9223372036854775807) (hT : Tabs w) :
    Calls Tryd.prog 9 #[.slice As ns cs, .int .i64 n, .int .i64 m] w (LK.True_ w) := by
  have hns := Hs.len
  subst hns
  have Hs := Lib.hid Hs
  have HT := Lib.hid hT; clear hT
  obtain ⟨y, f, ey⟩ : ∃ y f, SM.extend s m = (y, f) := ⟨_, _, rfl⟩
  have EY := Lib.hid ey
  cases hv : SM.valid s with
  | false =>
    have EX := Lib.hid (show SM.extend s n = ([], 13) from if_pos hv)
    have EN := Lib.hid (show SM.next s = ([], 13) from if_pos (.inl hv))
    have EV := Lib.hid hv
    clear hv ey
    have HB := Lib.hid (Below.refl w.heap.size w)
    go_enter Tryd.func9, Tryd.ntmps9
    go_wp2_with fail
    refine (awake_any _ (HT.out.below HB.out)).mono ?_
    rintro x9 w1 ⟨rfl, hb⟩
    have Hs := Lib.hid (Hs.out.below hb)
    have HB := Lib.hid (below_on HB.out hb)
    clear hb
    go_wp2_with fail
    refine (own_in Hs.out).mono ?_
    rintro x9 w2 ⟨AP, nP, cP, rfl, hl, hb⟩
    have Hs := Lib.hid (Hs.out.below hb)
    have HB := Lib.hid (below_on HB.out hb)
    have HP := Lib.hid hl
    clear hl
    clear hb
    go_wp2_with fail
    refine (ext_at EX.out hn HP.out).mono ?_
    rintro x9 w3 ⟨AX, nX, cX, rfl, hl, hb⟩
    have Hs := Lib.hid (Hs.out.below hb)
    have HP := Lib.hid (HP.out.below hb)
    have HB := Lib.hid (below_on HB.out hb)
    have HX := Lib.hid hl
    clear hl
    clear hb
    have hq := nil_len HX.out
    subst hq
    go_wp2_with fail
    refine (own_in Hs.out).mono ?_
    rintro x9 w4 ⟨AP, nP, cP, rfl, hl, hb⟩
    have Hs := Lib.hid (Hs.out.below hb)
    have HX := Lib.hid (HX.out.below hb)
    have HB := Lib.hid (below_on HB.out hb)
    have HP := Lib.hid hl
    clear hl
    clear hb
    go_wp2_with fail
    refine (ext_at EY.out hm HP.out).mono ?_
    rintro x9 w5 ⟨AY, nY, cY, rfl, hl, hb⟩
    have Hs := Lib.hid (Hs.out.below hb)
    have HX := Lib.hid (HX.out.below hb)
    have HP := Lib.hid (HP.out.below hb)
    have HB := Lib.hid (below_on HB.out hb)
    have HY := Lib.hid hl
    clear hl
    clear hb
    go_wp2_with fail
    refine (own_in Hs.out).mono ?_
    rintro x9 w6 ⟨AP, nP, cP, rfl, hl, hb⟩
    have Hs := Lib.hid (Hs.out.below hb)
    have HX := Lib.hid (HX.out.below hb)
    have HY := Lib.hid (HY.out.below hb)
    have HB := Lib.hid (below_on HB.out hb)
    have HP := Lib.hid hl
    clear hl
    clear hb
    go_wp2_with fail
    refine (next_at EN.out HP.out).mono ?_
    rintro x9 w7 ⟨AN, nN, cN, rfl, hl, hb⟩
    have Hs := Lib.hid (Hs.out.below hb)
    have HX := Lib.hid (HX.out.below hb)
    have HY := Lib.hid (HY.out.below hb)
    have HP := Lib.hid (HP.out.below hb)
    have HB := Lib.hid (below_on HB.out hb)
    have HN := Lib.hid hl
    clear hl
    clear hb
    go_wp2_with fail
    refine (own_in Hs.out).mono ?_
    rintro x9 w8 ⟨AP, nP, cP, rfl, hl, hb⟩
    have Hs := Lib.hid (Hs.out.below hb)
    have HX := Lib.hid (HX.out.below hb)
    have HY := Lib.hid (HY.out.below hb)
    have HN := Lib.hid (HN.out.below hb)
    have HB := Lib.hid (below_on HB.out hb)
    have HP := Lib.hid hl
    clear hl
    clear hb
    go_wp2_with fail
    refine (valid_at EV.out HP.out).mono ?_
    rintro x9 w9 ⟨rfl, hb⟩
    have Hs := Lib.hid (Hs.out.below hb)
    have HX := Lib.hid (HX.out.below hb)
    have HY := Lib.hid (HY.out.below hb)
    have HN := Lib.hid (HN.out.below hb)
    have HP := Lib.hid (HP.out.below hb)
    have HB := Lib.hid (below_on HB.out hb)
    clear hb
    go_wp2_with fail
    all_goals
      go_ret
      exact ⟨rfl, HB.out⟩
  | true =>
    have h4 := (SM.valid_iff.1 hv).1
    obtain ⟨nx, g, en⟩ : ∃ nx g, SM.next s = (nx, g) := ⟨_, _, rfl⟩
    have EN := Lib.hid en
    by_cases hg : g = 0
    · subst hg
      have HNX := Lib.hid (show Nexts s nx by have := nexts (s := s) (by rw [en]); rw [en] at this; exact this)
      clear en
      by_cases hl4 : s.length = 4
      · have EX := Lib.hid (show SM.extend s n = ([], 14) by unfold SM.extend; rw [if_neg (by rw [hv]; decide), if_pos hl4])
        have hz : ((s.length : Int) == 4) = true := by simpa using (show (s.length : Int) = 4 by omega)
        clear hv ey hl4
        have HB := Lib.hid (Below.refl w.heap.size w)
        go_enter Tryd.func9, Tryd.ntmps9
        go_wp2_with fail
        refine (awake_any _ (HT.out.below HB.out)).mono ?_
        rintro x9 w1 ⟨rfl, hb⟩
        have Hs := Lib.hid (Hs.out.below hb)
        have HB := Lib.hid (below_on HB.out hb)
        clear hb
        go_wp2_with fail
        refine (own_in Hs.out).mono ?_
        rintro x9 w2 ⟨AP, nP, cP, rfl, hl, hb⟩
        have Hs := Lib.hid (Hs.out.below hb)
        have HB := Lib.hid (below_on HB.out hb)
        have HP := Lib.hid hl
        clear hl
        clear hb
        go_wp2_with fail
        refine (ext_at EX.out hn HP.out).mono ?_
        rintro x9 w3 ⟨AX, nX, cX, rfl, hl, hb⟩
        have Hs := Lib.hid (Hs.out.below hb)
        have HP := Lib.hid (HP.out.below hb)
        have HB := Lib.hid (below_on HB.out hb)
        have HX := Lib.hid hl
        clear hl
        clear hb
        have hq := nil_len HX.out
        subst hq
        go_wp2_with fail
        refine (own_in Hs.out).mono ?_
        rintro x9 w4 ⟨AP, nP, cP, rfl, hl, hb⟩
        have Hs := Lib.hid (Hs.out.below hb)
        have HX := Lib.hid (HX.out.below hb)
        have HB := Lib.hid (below_on HB.out hb)
        have HP := Lib.hid hl
        clear hl
        clear hb
        go_wp2_with fail
        refine (ext_at EY.out hm HP.out).mono ?_
        rintro x9 w5 ⟨AY, nY, cY, rfl, hl, hb⟩
        have Hs := Lib.hid (Hs.out.below hb)
        have HX := Lib.hid (HX.out.below hb)
        have HP := Lib.hid (HP.out.below hb)
        have HB := Lib.hid (below_on HB.out hb)
        have HY := Lib.hid hl
        clear hl
        clear hb
        go_wp2_with fail
        refine (own_in Hs.out).mono ?_
        rintro x9 w6 ⟨AP, nP, cP, rfl, hl, hb⟩
        have Hs := Lib.hid (Hs.out.below hb)
        have HX := Lib.hid (HX.out.below hb)
        have HY := Lib.hid (HY.out.below hb)
        have HB := Lib.hid (below_on HB.out hb)
        have HP := Lib.hid hl
        clear hl
        clear hb
        go_wp2_with fail
        refine (next_at EN.out HP.out).mono ?_
        rintro x9 w7 ⟨AN, nN, cN, rfl, hl, hb⟩
        have Hs := Lib.hid (Hs.out.below hb)
        have HX := Lib.hid (HX.out.below hb)
        have HY := Lib.hid (HY.out.below hb)
        have HP := Lib.hid (HP.out.below hb)
        have HB := Lib.hid (below_on HB.out hb)
        have HN := Lib.hid hl
        clear hl
        clear hb
        have hq := HN.out.len.trans HNX.out.len
        subst hq
        go_wp2_with fail
        refine (own_in Hs.out).mono ?_
        rintro x9 w8 ⟨AP, nP, cP, rfl, hl, hb⟩
        have Hs := Lib.hid (Hs.out.below hb)
        have HX := Lib.hid (HX.out.below hb)
        have HY := Lib.hid (HY.out.below hb)
        have HN := Lib.hid (HN.out.below hb)
        have HB := Lib.hid (below_on HB.out hb)
        have HP := Lib.hid hl
        clear hl
        clear hb
        go_wp2_with fail
        refine (own_in HN.out).mono ?_
        rintro x9 w9 ⟨AQ, nQ, cQ, rfl, hl, hb⟩
        have Hs := Lib.hid (Hs.out.below hb)
        have HX := Lib.hid (HX.out.below hb)
        have HY := Lib.hid (HY.out.below hb)
        have HN := Lib.hid (HN.out.below hb)
        have HP := Lib.hid (HP.out.below hb)
        have HB := Lib.hid (below_on HB.out hb)
        have HQ := Lib.hid hl
        clear hl
        clear hb
        go_wp2_with fail
        refine (cmp_at HNX.out.cmp HP.out HQ.out).mono ?_
        rintro x9 w10 ⟨rfl, hb⟩
        have Hs := Lib.hid (Hs.out.below hb)
        have HX := Lib.hid (HX.out.below hb)
        have HY := Lib.hid (HY.out.below hb)
        have HN := Lib.hid (HN.out.below hb)
        have HP := Lib.hid (HP.out.below hb)
        have HQ := Lib.hid (HQ.out.below hb)
        have HB := Lib.hid (below_on HB.out hb)
        clear hb
        go_wp2_with fail
        refine (own_in Hs.out).mono ?_
        rintro x9 w11 ⟨AP, nP, cP, rfl, hl, hb⟩
        have Hs := Lib.hid (Hs.out.below hb)
        have HX := Lib.hid (HX.out.below hb)
        have HY := Lib.hid (HY.out.below hb)
        have HN := Lib.hid (HN.out.below hb)
        have HB := Lib.hid (below_on HB.out hb)
        have HP := Lib.hid hl
        clear hl
        clear hb
        go_wp2_with fail
        refine (own_in HN.out).mono ?_
        rintro x9 w12 ⟨AQ, nQ, cQ, rfl, hl, hb⟩
        have Hs := Lib.hid (Hs.out.below hb)
        have HX := Lib.hid (HX.out.below hb)
        have HY := Lib.hid (HY.out.below hb)
        have HN := Lib.hid (HN.out.below hb)
        have HP := Lib.hid (HP.out.below hb)
        have HB := Lib.hid (below_on HB.out hb)
        have HQ := Lib.hid hl
        clear hl
        clear hb
        go_wp2_with fail
        refine (under_at HNX.out.under HP.out HQ.out).mono ?_
        rintro x9 w13 ⟨rfl, hb⟩
        have Hs := Lib.hid (Hs.out.below hb)
        have HX := Lib.hid (HX.out.below hb)
        have HY := Lib.hid (HY.out.below hb)
        have HN := Lib.hid (HN.out.below hb)
        have HP := Lib.hid (HP.out.below hb)
        have HQ := Lib.hid (HQ.out.below hb)
        have HB := Lib.hid (below_on HB.out hb)
        clear hb
        go_wp2_with fail
        all_goals
          go_ret
          exact ⟨rfl, HB.out⟩
      · cases hk : SM.count n with
        | false =>
          have EX := Lib.hid (show SM.extend s n = ([], 66) by unfold SM.extend; rw [if_neg (by rw [hv]; decide), if_neg hl4, if_pos hk])
          have hor : n < 1 ∨ 1099511627776 < n := by
            refine Decidable.byContradiction fun hh => ?_
            rw [SM.count_iff.2 (by omega)] at hk
            cases hk
          clear hv ey hk
          rcases hor with h1 | h1
          all_goals
            have HB := Lib.hid (Below.refl w.heap.size w)
            go_enter Tryd.func9, Tryd.ntmps9
            go_wp2_with fail
            refine (awake_any _ (HT.out.below HB.out)).mono ?_
            rintro x9 w1 ⟨rfl, hb⟩
            have Hs := Lib.hid (Hs.out.below hb)
            have HB := Lib.hid (below_on HB.out hb)
            clear hb
            go_wp2_with fail
            refine (own_in Hs.out).mono ?_
            rintro x9 w2 ⟨AP, nP, cP, rfl, hl, hb⟩
            have Hs := Lib.hid (Hs.out.below hb)
            have HB := Lib.hid (below_on HB.out hb)
            have HP := Lib.hid hl
            clear hl
            clear hb
            go_wp2_with fail
            refine (ext_at EX.out hn HP.out).mono ?_
            rintro x9 w3 ⟨AX, nX, cX, rfl, hl, hb⟩
            have Hs := Lib.hid (Hs.out.below hb)
            have HP := Lib.hid (HP.out.below hb)
            have HB := Lib.hid (below_on HB.out hb)
            have HX := Lib.hid hl
            clear hl
            clear hb
            have hq := nil_len HX.out
            subst hq
            go_wp2_with fail
            refine (own_in Hs.out).mono ?_
            rintro x9 w4 ⟨AP, nP, cP, rfl, hl, hb⟩
            have Hs := Lib.hid (Hs.out.below hb)
            have HX := Lib.hid (HX.out.below hb)
            have HB := Lib.hid (below_on HB.out hb)
            have HP := Lib.hid hl
            clear hl
            clear hb
            go_wp2_with fail
            refine (ext_at EY.out hm HP.out).mono ?_
            rintro x9 w5 ⟨AY, nY, cY, rfl, hl, hb⟩
            have Hs := Lib.hid (Hs.out.below hb)
            have HX := Lib.hid (HX.out.below hb)
            have HP := Lib.hid (HP.out.below hb)
            have HB := Lib.hid (below_on HB.out hb)
            have HY := Lib.hid hl
            clear hl
            clear hb
            go_wp2_with fail
            refine (own_in Hs.out).mono ?_
            rintro x9 w6 ⟨AP, nP, cP, rfl, hl, hb⟩
            have Hs := Lib.hid (Hs.out.below hb)
            have HX := Lib.hid (HX.out.below hb)
            have HY := Lib.hid (HY.out.below hb)
            have HB := Lib.hid (below_on HB.out hb)
            have HP := Lib.hid hl
            clear hl
            clear hb
            go_wp2_with fail
            refine (next_at EN.out HP.out).mono ?_
            rintro x9 w7 ⟨AN, nN, cN, rfl, hl, hb⟩
            have Hs := Lib.hid (Hs.out.below hb)
            have HX := Lib.hid (HX.out.below hb)
            have HY := Lib.hid (HY.out.below hb)
            have HP := Lib.hid (HP.out.below hb)
            have HB := Lib.hid (below_on HB.out hb)
            have HN := Lib.hid hl
            clear hl
            clear hb
            have hq := HN.out.len.trans HNX.out.len
            subst hq
            go_wp2_with fail
            refine (own_in Hs.out).mono ?_
            rintro x9 w8 ⟨AP, nP, cP, rfl, hl, hb⟩
            have Hs := Lib.hid (Hs.out.below hb)
            have HX := Lib.hid (HX.out.below hb)
            have HY := Lib.hid (HY.out.below hb)
            have HN := Lib.hid (HN.out.below hb)
            have HB := Lib.hid (below_on HB.out hb)
            have HP := Lib.hid hl
            clear hl
            clear hb
            go_wp2_with fail
            refine (own_in HN.out).mono ?_
            rintro x9 w9 ⟨AQ, nQ, cQ, rfl, hl, hb⟩
            have Hs := Lib.hid (Hs.out.below hb)
            have HX := Lib.hid (HX.out.below hb)
            have HY := Lib.hid (HY.out.below hb)
            have HN := Lib.hid (HN.out.below hb)
            have HP := Lib.hid (HP.out.below hb)
            have HB := Lib.hid (below_on HB.out hb)
            have HQ := Lib.hid hl
            clear hl
            clear hb
            go_wp2_with fail
            refine (cmp_at HNX.out.cmp HP.out HQ.out).mono ?_
            rintro x9 w10 ⟨rfl, hb⟩
            have Hs := Lib.hid (Hs.out.below hb)
            have HX := Lib.hid (HX.out.below hb)
            have HY := Lib.hid (HY.out.below hb)
            have HN := Lib.hid (HN.out.below hb)
            have HP := Lib.hid (HP.out.below hb)
            have HQ := Lib.hid (HQ.out.below hb)
            have HB := Lib.hid (below_on HB.out hb)
            clear hb
            go_wp2_with fail
            refine (own_in Hs.out).mono ?_
            rintro x9 w11 ⟨AP, nP, cP, rfl, hl, hb⟩
            have Hs := Lib.hid (Hs.out.below hb)
            have HX := Lib.hid (HX.out.below hb)
            have HY := Lib.hid (HY.out.below hb)
            have HN := Lib.hid (HN.out.below hb)
            have HB := Lib.hid (below_on HB.out hb)
            have HP := Lib.hid hl
            clear hl
            clear hb
            go_wp2_with fail
            refine (own_in HN.out).mono ?_
            rintro x9 w12 ⟨AQ, nQ, cQ, rfl, hl, hb⟩
            have Hs := Lib.hid (Hs.out.below hb)
            have HX := Lib.hid (HX.out.below hb)
            have HY := Lib.hid (HY.out.below hb)
            have HN := Lib.hid (HN.out.below hb)
            have HP := Lib.hid (HP.out.below hb)
            have HB := Lib.hid (below_on HB.out hb)
            have HQ := Lib.hid hl
            clear hl
            clear hb
            go_wp2_with fail
            refine (under_at HNX.out.under HP.out HQ.out).mono ?_
            rintro x9 w13 ⟨rfl, hb⟩
            have Hs := Lib.hid (Hs.out.below hb)
            have HX := Lib.hid (HX.out.below hb)
            have HY := Lib.hid (HY.out.below hb)
            have HN := Lib.hid (HN.out.below hb)
            have HP := Lib.hid (HP.out.below hb)
            have HQ := Lib.hid (HQ.out.below hb)
            have HB := Lib.hid (below_on HB.out hb)
            clear hb
            go_wp2_with fail
            all_goals
              go_ret
              exact ⟨rfl, HB.out⟩
        | true =>
          have EX := Lib.hid (ext_ok hv hl4 hk)
          have EVX := Lib.hid (ext_valid hv hl4 hk)
          have HXL := Lib.hid (show (s ++ [n]).length = s.length + 1 by simp)
          have r1 := SM.count_iff.1 hk
          by_cases hf : f = 0
          · subst hf
            have e1 := ext_zero (s := s) (m := m) (by rw [ey])
            rw [ey] at e1
            simp only at e1
            subst e1
            clear hv ey hk
            by_cases hnm : n < m
            · have ELT := Lib.hid (ext_less (s := s) hnm)
              have HB := Lib.hid (Below.refl w.heap.size w)
              go_enter Tryd.func9, Tryd.ntmps9
              go_wp2_with fail
              refine (awake_any _ (HT.out.below HB.out)).mono ?_
              rintro x9 w1 ⟨rfl, hb⟩
              have Hs := Lib.hid (Hs.out.below hb)
              have HB := Lib.hid (below_on HB.out hb)
              clear hb
              go_wp2_with fail
              refine (own_in Hs.out).mono ?_
              rintro x9 w2 ⟨AP, nP, cP, rfl, hl, hb⟩
              have Hs := Lib.hid (Hs.out.below hb)
              have HB := Lib.hid (below_on HB.out hb)
              have HP := Lib.hid hl
              clear hl
              clear hb
              go_wp2_with fail
              refine (ext_at EX.out hn HP.out).mono ?_
              rintro x9 w3 ⟨AX, nX, cX, rfl, hl, hb⟩
              have Hs := Lib.hid (Hs.out.below hb)
              have HP := Lib.hid (HP.out.below hb)
              have HB := Lib.hid (below_on HB.out hb)
              have HX := Lib.hid hl
              clear hl
              clear hb
              have hq := HX.out.len.trans HXL.out
              subst hq
              go_wp2_with fail
              refine (own_in Hs.out).mono ?_
              rintro x9 w4 ⟨AP, nP, cP, rfl, hl, hb⟩
              have Hs := Lib.hid (Hs.out.below hb)
              have HX := Lib.hid (HX.out.below hb)
              have HB := Lib.hid (below_on HB.out hb)
              have HP := Lib.hid hl
              clear hl
              clear hb
              go_wp2_with fail
              refine (ext_at EY.out hm HP.out).mono ?_
              rintro x9 w5 ⟨AY, nY, cY, rfl, hl, hb⟩
              have Hs := Lib.hid (Hs.out.below hb)
              have HX := Lib.hid (HX.out.below hb)
              have HP := Lib.hid (HP.out.below hb)
              have HB := Lib.hid (below_on HB.out hb)
              have HY := Lib.hid hl
              clear hl
              clear hb
              go_wp2_with fail
              refine (own_in Hs.out).mono ?_
              rintro x9 w6 ⟨AP, nP, cP, rfl, hl, hb⟩
              have Hs := Lib.hid (Hs.out.below hb)
              have HX := Lib.hid (HX.out.below hb)
              have HY := Lib.hid (HY.out.below hb)
              have HB := Lib.hid (below_on HB.out hb)
              have HP := Lib.hid hl
              clear hl
              clear hb
              go_wp2_with fail
              refine (next_at EN.out HP.out).mono ?_
              rintro x9 w7 ⟨AN, nN, cN, rfl, hl, hb⟩
              have Hs := Lib.hid (Hs.out.below hb)
              have HX := Lib.hid (HX.out.below hb)
              have HY := Lib.hid (HY.out.below hb)
              have HP := Lib.hid (HP.out.below hb)
              have HB := Lib.hid (below_on HB.out hb)
              have HN := Lib.hid hl
              clear hl
              clear hb
              have hq := HN.out.len.trans HNX.out.len
              subst hq
              go_wp2_with fail
              refine (own_in Hs.out).mono ?_
              rintro x9 w8 ⟨AP, nP, cP, rfl, hl, hb⟩
              have Hs := Lib.hid (Hs.out.below hb)
              have HX := Lib.hid (HX.out.below hb)
              have HY := Lib.hid (HY.out.below hb)
              have HN := Lib.hid (HN.out.below hb)
              have HB := Lib.hid (below_on HB.out hb)
              have HP := Lib.hid hl
              clear hl
              clear hb
              go_wp2_with fail
              refine (own_in HN.out).mono ?_
              rintro x9 w9 ⟨AQ, nQ, cQ, rfl, hl, hb⟩
              have Hs := Lib.hid (Hs.out.below hb)
              have HX := Lib.hid (HX.out.below hb)
              have HY := Lib.hid (HY.out.below hb)
              have HN := Lib.hid (HN.out.below hb)
              have HP := Lib.hid (HP.out.below hb)
              have HB := Lib.hid (below_on HB.out hb)
              have HQ := Lib.hid hl
              clear hl
              clear hb
              go_wp2_with fail
              refine (cmp_at HNX.out.cmp HP.out HQ.out).mono ?_
              rintro x9 w10 ⟨rfl, hb⟩
              have Hs := Lib.hid (Hs.out.below hb)
              have HX := Lib.hid (HX.out.below hb)
              have HY := Lib.hid (HY.out.below hb)
              have HN := Lib.hid (HN.out.below hb)
              have HP := Lib.hid (HP.out.below hb)
              have HQ := Lib.hid (HQ.out.below hb)
              have HB := Lib.hid (below_on HB.out hb)
              clear hb
              go_wp2_with fail
              refine (own_in Hs.out).mono ?_
              rintro x9 w11 ⟨AP, nP, cP, rfl, hl, hb⟩
              have Hs := Lib.hid (Hs.out.below hb)
              have HX := Lib.hid (HX.out.below hb)
              have HY := Lib.hid (HY.out.below hb)
              have HN := Lib.hid (HN.out.below hb)
              have HB := Lib.hid (below_on HB.out hb)
              have HP := Lib.hid hl
              clear hl
              clear hb
              go_wp2_with fail
              refine (own_in HN.out).mono ?_
              rintro x9 w12 ⟨AQ, nQ, cQ, rfl, hl, hb⟩
              have Hs := Lib.hid (Hs.out.below hb)
              have HX := Lib.hid (HX.out.below hb)
              have HY := Lib.hid (HY.out.below hb)
              have HN := Lib.hid (HN.out.below hb)
              have HP := Lib.hid (HP.out.below hb)
              have HB := Lib.hid (below_on HB.out hb)
              have HQ := Lib.hid hl
              clear hl
              clear hb
              go_wp2_with fail
              refine (under_at HNX.out.under HP.out HQ.out).mono ?_
              rintro x9 w13 ⟨rfl, hb⟩
              have Hs := Lib.hid (Hs.out.below hb)
              have HX := Lib.hid (HX.out.below hb)
              have HY := Lib.hid (HY.out.below hb)
              have HN := Lib.hid (HN.out.below hb)
              have HP := Lib.hid (HP.out.below hb)
              have HQ := Lib.hid (HQ.out.below hb)
              have HB := Lib.hid (below_on HB.out hb)
              clear hb
              go_wp2_with fail
              refine (own_in HX.out).mono ?_
              rintro x9 w14 ⟨AP, nP, cP, rfl, hl, hb⟩
              have Hs := Lib.hid (Hs.out.below hb)
              have HX := Lib.hid (HX.out.below hb)
              have HY := Lib.hid (HY.out.below hb)
              have HN := Lib.hid (HN.out.below hb)
              have HB := Lib.hid (below_on HB.out hb)
              have HP := Lib.hid hl
              clear hl
              clear hb
              go_wp2_with fail
              refine (valid_at EVX.out HP.out).mono ?_
              rintro x9 w15 ⟨rfl, hb⟩
              have Hs := Lib.hid (Hs.out.below hb)
              have HX := Lib.hid (HX.out.below hb)
              have HY := Lib.hid (HY.out.below hb)
              have HN := Lib.hid (HN.out.below hb)
              have HP := Lib.hid (HP.out.below hb)
              have HB := Lib.hid (below_on HB.out hb)
              clear hb
              go_wp2_with fail
              refine (own_in Hs.out).mono ?_
              rintro x9 w16 ⟨AP, nP, cP, rfl, hl, hb⟩
              have Hs := Lib.hid (Hs.out.below hb)
              have HX := Lib.hid (HX.out.below hb)
              have HY := Lib.hid (HY.out.below hb)
              have HN := Lib.hid (HN.out.below hb)
              have HB := Lib.hid (below_on HB.out hb)
              have HP := Lib.hid hl
              clear hl
              clear hb
              go_wp2_with fail
              refine (own_in HX.out).mono ?_
              rintro x9 w17 ⟨AQ, nQ, cQ, rfl, hl, hb⟩
              have Hs := Lib.hid (Hs.out.below hb)
              have HX := Lib.hid (HX.out.below hb)
              have HY := Lib.hid (HY.out.below hb)
              have HN := Lib.hid (HN.out.below hb)
              have HP := Lib.hid (HP.out.below hb)
              have HB := Lib.hid (below_on HB.out hb)
              have HQ := Lib.hid hl
              clear hl
              clear hb
              go_wp2_with fail
              refine (under_at (ext_under s n) HP.out HQ.out).mono ?_
              rintro x9 w18 ⟨rfl, hb⟩
              have Hs := Lib.hid (Hs.out.below hb)
              have HX := Lib.hid (HX.out.below hb)
              have HY := Lib.hid (HY.out.below hb)
              have HN := Lib.hid (HN.out.below hb)
              have HP := Lib.hid (HP.out.below hb)
              have HQ := Lib.hid (HQ.out.below hb)
              have HB := Lib.hid (below_on HB.out hb)
              clear hb
              go_wp2_with fail
              refine (own_in Hs.out).mono ?_
              rintro x9 w19 ⟨AP, nP, cP, rfl, hl, hb⟩
              have Hs := Lib.hid (Hs.out.below hb)
              have HX := Lib.hid (HX.out.below hb)
              have HY := Lib.hid (HY.out.below hb)
              have HN := Lib.hid (HN.out.below hb)
              have HB := Lib.hid (below_on HB.out hb)
              have HP := Lib.hid hl
              clear hl
              clear hb
              go_wp2_with fail
              refine (own_in HX.out).mono ?_
              rintro x9 w20 ⟨AQ, nQ, cQ, rfl, hl, hb⟩
              have Hs := Lib.hid (Hs.out.below hb)
              have HX := Lib.hid (HX.out.below hb)
              have HY := Lib.hid (HY.out.below hb)
              have HN := Lib.hid (HN.out.below hb)
              have HP := Lib.hid (HP.out.below hb)
              have HB := Lib.hid (below_on HB.out hb)
              have HQ := Lib.hid hl
              clear hl
              clear hb
              go_wp2_with fail
              refine (cmp_at (SM.cmp_longer s n) HP.out HQ.out).mono ?_
              rintro x9 w21 ⟨rfl, hb⟩
              have Hs := Lib.hid (Hs.out.below hb)
              have HX := Lib.hid (HX.out.below hb)
              have HY := Lib.hid (HY.out.below hb)
              have HN := Lib.hid (HN.out.below hb)
              have HP := Lib.hid (HP.out.below hb)
              have HQ := Lib.hid (HQ.out.below hb)
              have HB := Lib.hid (below_on HB.out hb)
              clear hb
              obtain ⟨bX, oX, eX, cX0⟩ := ext_cell HX.out
              subst eX
              go_wp2_with fail
              refine (own_in HX.out).mono ?_
              rintro x9 w22 ⟨AP, nP, cP, rfl, hl, hb⟩
              have Hs := Lib.hid (Hs.out.below hb)
              have HX := Lib.hid (HX.out.below hb)
              have HY := Lib.hid (HY.out.below hb)
              have HN := Lib.hid (HN.out.below hb)
              have HB := Lib.hid (below_on HB.out hb)
              have HP := Lib.hid hl
              clear hl
              clear hb
              go_wp2_with fail
              refine (own_in HY.out).mono ?_
              rintro x9 w23 ⟨AQ, nQ, cQ, rfl, hl, hb⟩
              have Hs := Lib.hid (Hs.out.below hb)
              have HX := Lib.hid (HX.out.below hb)
              have HY := Lib.hid (HY.out.below hb)
              have HN := Lib.hid (HN.out.below hb)
              have HP := Lib.hid (HP.out.below hb)
              have HB := Lib.hid (below_on HB.out hb)
              have HQ := Lib.hid hl
              clear hl
              clear hb
              go_wp2_with fail
              refine (cmp_at ELT.out HP.out HQ.out).mono ?_
              rintro x9 w24 ⟨rfl, hb⟩
              have Hs := Lib.hid (Hs.out.below hb)
              have HX := Lib.hid (HX.out.below hb)
              have HY := Lib.hid (HY.out.below hb)
              have HN := Lib.hid (HN.out.below hb)
              have HP := Lib.hid (HP.out.below hb)
              have HQ := Lib.hid (HQ.out.below hb)
              have HB := Lib.hid (below_on HB.out hb)
              clear hb
              go_wp2_with fail
              refine (own_in HX.out).mono ?_
              rintro x9 w25 ⟨AP, nP, cP, rfl, hl, hb⟩
              have Hs := Lib.hid (Hs.out.below hb)
              have HX := Lib.hid (HX.out.below hb)
              have HY := Lib.hid (HY.out.below hb)
              have HN := Lib.hid (HN.out.below hb)
              have HB := Lib.hid (below_on HB.out hb)
              have HP := Lib.hid hl
              clear hl
              clear hb
              go_wp2_with fail
              refine (own_in HN.out).mono ?_
              rintro x9 w26 ⟨AQ, nQ, cQ, rfl, hl, hb⟩
              have Hs := Lib.hid (Hs.out.below hb)
              have HX := Lib.hid (HX.out.below hb)
              have HY := Lib.hid (HY.out.below hb)
              have HN := Lib.hid (HN.out.below hb)
              have HP := Lib.hid (HP.out.below hb)
              have HB := Lib.hid (below_on HB.out hb)
              have HQ := Lib.hid hl
              clear hl
              clear hb
              go_wp2_with fail
              refine (cmp_at (HNX.out.ahead n) HP.out HQ.out).mono ?_
              rintro x9 w27 ⟨rfl, hb⟩
              have Hs := Lib.hid (Hs.out.below hb)
              have HX := Lib.hid (HX.out.below hb)
              have HY := Lib.hid (HY.out.below hb)
              have HN := Lib.hid (HN.out.below hb)
              have HP := Lib.hid (HP.out.below hb)
              have HQ := Lib.hid (HQ.out.below hb)
              have HB := Lib.hid (below_on HB.out hb)
              clear hb
              go_wp2_with fail
              all_goals
                go_ret
                exact ⟨ret_bool (by first | rfl | (simp; done) | (simp; omega)), HB.out⟩
            · skip
              have HB := Lib.hid (Below.refl w.heap.size w)
              go_enter Tryd.func9, Tryd.ntmps9
              go_wp2_with fail
              refine (awake_any _ (HT.out.below HB.out)).mono ?_
              rintro x9 w1 ⟨rfl, hb⟩
              have Hs := Lib.hid (Hs.out.below hb)
              have HB := Lib.hid (below_on HB.out hb)
              clear hb
              go_wp2_with fail
              refine (own_in Hs.out).mono ?_
              rintro x9 w2 ⟨AP, nP, cP, rfl, hl, hb⟩
              have Hs := Lib.hid (Hs.out.below hb)
              have HB := Lib.hid (below_on HB.out hb)
              have HP := Lib.hid hl
              clear hl
              clear hb
              go_wp2_with fail
              refine (ext_at EX.out hn HP.out).mono ?_
              rintro x9 w3 ⟨AX, nX, cX, rfl, hl, hb⟩
              have Hs := Lib.hid (Hs.out.below hb)
              have HP := Lib.hid (HP.out.below hb)
              have HB := Lib.hid (below_on HB.out hb)
              have HX := Lib.hid hl
              clear hl
              clear hb
              have hq := HX.out.len.trans HXL.out
              subst hq
              go_wp2_with fail
              refine (own_in Hs.out).mono ?_
              rintro x9 w4 ⟨AP, nP, cP, rfl, hl, hb⟩
              have Hs := Lib.hid (Hs.out.below hb)
              have HX := Lib.hid (HX.out.below hb)
              have HB := Lib.hid (below_on HB.out hb)
              have HP := Lib.hid hl
              clear hl
              clear hb
              go_wp2_with fail
              refine (ext_at EY.out hm HP.out).mono ?_
              rintro x9 w5 ⟨AY, nY, cY, rfl, hl, hb⟩
              have Hs := Lib.hid (Hs.out.below hb)
              have HX := Lib.hid (HX.out.below hb)
              have HP := Lib.hid (HP.out.below hb)
              have HB := Lib.hid (below_on HB.out hb)
              have HY := Lib.hid hl
              clear hl
              clear hb
              go_wp2_with fail
              refine (own_in Hs.out).mono ?_
              rintro x9 w6 ⟨AP, nP, cP, rfl, hl, hb⟩
              have Hs := Lib.hid (Hs.out.below hb)
              have HX := Lib.hid (HX.out.below hb)
              have HY := Lib.hid (HY.out.below hb)
              have HB := Lib.hid (below_on HB.out hb)
              have HP := Lib.hid hl
              clear hl
              clear hb
              go_wp2_with fail
              refine (next_at EN.out HP.out).mono ?_
              rintro x9 w7 ⟨AN, nN, cN, rfl, hl, hb⟩
              have Hs := Lib.hid (Hs.out.below hb)
              have HX := Lib.hid (HX.out.below hb)
              have HY := Lib.hid (HY.out.below hb)
              have HP := Lib.hid (HP.out.below hb)
              have HB := Lib.hid (below_on HB.out hb)
              have HN := Lib.hid hl
              clear hl
              clear hb
              have hq := HN.out.len.trans HNX.out.len
              subst hq
              go_wp2_with fail
              refine (own_in Hs.out).mono ?_
              rintro x9 w8 ⟨AP, nP, cP, rfl, hl, hb⟩
              have Hs := Lib.hid (Hs.out.below hb)
              have HX := Lib.hid (HX.out.below hb)
              have HY := Lib.hid (HY.out.below hb)
              have HN := Lib.hid (HN.out.below hb)
              have HB := Lib.hid (below_on HB.out hb)
              have HP := Lib.hid hl
              clear hl
              clear hb
              go_wp2_with fail
              refine (own_in HN.out).mono ?_
              rintro x9 w9 ⟨AQ, nQ, cQ, rfl, hl, hb⟩
              have Hs := Lib.hid (Hs.out.below hb)
              have HX := Lib.hid (HX.out.below hb)
              have HY := Lib.hid (HY.out.below hb)
              have HN := Lib.hid (HN.out.below hb)
              have HP := Lib.hid (HP.out.below hb)
              have HB := Lib.hid (below_on HB.out hb)
              have HQ := Lib.hid hl
              clear hl
              clear hb
              go_wp2_with fail
              refine (cmp_at HNX.out.cmp HP.out HQ.out).mono ?_
              rintro x9 w10 ⟨rfl, hb⟩
              have Hs := Lib.hid (Hs.out.below hb)
              have HX := Lib.hid (HX.out.below hb)
              have HY := Lib.hid (HY.out.below hb)
              have HN := Lib.hid (HN.out.below hb)
              have HP := Lib.hid (HP.out.below hb)
              have HQ := Lib.hid (HQ.out.below hb)
              have HB := Lib.hid (below_on HB.out hb)
              clear hb
              go_wp2_with fail
              refine (own_in Hs.out).mono ?_
              rintro x9 w11 ⟨AP, nP, cP, rfl, hl, hb⟩
              have Hs := Lib.hid (Hs.out.below hb)
              have HX := Lib.hid (HX.out.below hb)
              have HY := Lib.hid (HY.out.below hb)
              have HN := Lib.hid (HN.out.below hb)
              have HB := Lib.hid (below_on HB.out hb)
              have HP := Lib.hid hl
              clear hl
              clear hb
              go_wp2_with fail
              refine (own_in HN.out).mono ?_
              rintro x9 w12 ⟨AQ, nQ, cQ, rfl, hl, hb⟩
              have Hs := Lib.hid (Hs.out.below hb)
              have HX := Lib.hid (HX.out.below hb)
              have HY := Lib.hid (HY.out.below hb)
              have HN := Lib.hid (HN.out.below hb)
              have HP := Lib.hid (HP.out.below hb)
              have HB := Lib.hid (below_on HB.out hb)
              have HQ := Lib.hid hl
              clear hl
              clear hb
              go_wp2_with fail
              refine (under_at HNX.out.under HP.out HQ.out).mono ?_
              rintro x9 w13 ⟨rfl, hb⟩
              have Hs := Lib.hid (Hs.out.below hb)
              have HX := Lib.hid (HX.out.below hb)
              have HY := Lib.hid (HY.out.below hb)
              have HN := Lib.hid (HN.out.below hb)
              have HP := Lib.hid (HP.out.below hb)
              have HQ := Lib.hid (HQ.out.below hb)
              have HB := Lib.hid (below_on HB.out hb)
              clear hb
              go_wp2_with fail
              refine (own_in HX.out).mono ?_
              rintro x9 w14 ⟨AP, nP, cP, rfl, hl, hb⟩
              have Hs := Lib.hid (Hs.out.below hb)
              have HX := Lib.hid (HX.out.below hb)
              have HY := Lib.hid (HY.out.below hb)
              have HN := Lib.hid (HN.out.below hb)
              have HB := Lib.hid (below_on HB.out hb)
              have HP := Lib.hid hl
              clear hl
              clear hb
              go_wp2_with fail
              refine (valid_at EVX.out HP.out).mono ?_
              rintro x9 w15 ⟨rfl, hb⟩
              have Hs := Lib.hid (Hs.out.below hb)
              have HX := Lib.hid (HX.out.below hb)
              have HY := Lib.hid (HY.out.below hb)
              have HN := Lib.hid (HN.out.below hb)
              have HP := Lib.hid (HP.out.below hb)
              have HB := Lib.hid (below_on HB.out hb)
              clear hb
              go_wp2_with fail
              refine (own_in Hs.out).mono ?_
              rintro x9 w16 ⟨AP, nP, cP, rfl, hl, hb⟩
              have Hs := Lib.hid (Hs.out.below hb)
              have HX := Lib.hid (HX.out.below hb)
              have HY := Lib.hid (HY.out.below hb)
              have HN := Lib.hid (HN.out.below hb)
              have HB := Lib.hid (below_on HB.out hb)
              have HP := Lib.hid hl
              clear hl
              clear hb
              go_wp2_with fail
              refine (own_in HX.out).mono ?_
              rintro x9 w17 ⟨AQ, nQ, cQ, rfl, hl, hb⟩
              have Hs := Lib.hid (Hs.out.below hb)
              have HX := Lib.hid (HX.out.below hb)
              have HY := Lib.hid (HY.out.below hb)
              have HN := Lib.hid (HN.out.below hb)
              have HP := Lib.hid (HP.out.below hb)
              have HB := Lib.hid (below_on HB.out hb)
              have HQ := Lib.hid hl
              clear hl
              clear hb
              go_wp2_with fail
              refine (under_at (ext_under s n) HP.out HQ.out).mono ?_
              rintro x9 w18 ⟨rfl, hb⟩
              have Hs := Lib.hid (Hs.out.below hb)
              have HX := Lib.hid (HX.out.below hb)
              have HY := Lib.hid (HY.out.below hb)
              have HN := Lib.hid (HN.out.below hb)
              have HP := Lib.hid (HP.out.below hb)
              have HQ := Lib.hid (HQ.out.below hb)
              have HB := Lib.hid (below_on HB.out hb)
              clear hb
              go_wp2_with fail
              refine (own_in Hs.out).mono ?_
              rintro x9 w19 ⟨AP, nP, cP, rfl, hl, hb⟩
              have Hs := Lib.hid (Hs.out.below hb)
              have HX := Lib.hid (HX.out.below hb)
              have HY := Lib.hid (HY.out.below hb)
              have HN := Lib.hid (HN.out.below hb)
              have HB := Lib.hid (below_on HB.out hb)
              have HP := Lib.hid hl
              clear hl
              clear hb
              go_wp2_with fail
              refine (own_in HX.out).mono ?_
              rintro x9 w20 ⟨AQ, nQ, cQ, rfl, hl, hb⟩
              have Hs := Lib.hid (Hs.out.below hb)
              have HX := Lib.hid (HX.out.below hb)
              have HY := Lib.hid (HY.out.below hb)
              have HN := Lib.hid (HN.out.below hb)
              have HP := Lib.hid (HP.out.below hb)
              have HB := Lib.hid (below_on HB.out hb)
              have HQ := Lib.hid hl
              clear hl
              clear hb
              go_wp2_with fail
              refine (cmp_at (SM.cmp_longer s n) HP.out HQ.out).mono ?_
              rintro x9 w21 ⟨rfl, hb⟩
              have Hs := Lib.hid (Hs.out.below hb)
              have HX := Lib.hid (HX.out.below hb)
              have HY := Lib.hid (HY.out.below hb)
              have HN := Lib.hid (HN.out.below hb)
              have HP := Lib.hid (HP.out.below hb)
              have HQ := Lib.hid (HQ.out.below hb)
              have HB := Lib.hid (below_on HB.out hb)
              clear hb
              obtain ⟨bX, oX, eX, cX0⟩ := ext_cell HX.out
              subst eX
              go_wp2_with fail
              refine (own_in HX.out).mono ?_
              rintro x9 w22 ⟨AP, nP, cP, rfl, hl, hb⟩
              have Hs := Lib.hid (Hs.out.below hb)
              have HX := Lib.hid (HX.out.below hb)
              have HY := Lib.hid (HY.out.below hb)
              have HN := Lib.hid (HN.out.below hb)
              have HB := Lib.hid (below_on HB.out hb)
              have HP := Lib.hid hl
              clear hl
              clear hb
              go_wp2_with fail
              refine (own_in HN.out).mono ?_
              rintro x9 w23 ⟨AQ, nQ, cQ, rfl, hl, hb⟩
              have Hs := Lib.hid (Hs.out.below hb)
              have HX := Lib.hid (HX.out.below hb)
              have HY := Lib.hid (HY.out.below hb)
              have HN := Lib.hid (HN.out.below hb)
              have HP := Lib.hid (HP.out.below hb)
              have HB := Lib.hid (below_on HB.out hb)
              have HQ := Lib.hid hl
              clear hl
              clear hb
              go_wp2_with fail
              refine (cmp_at (HNX.out.ahead n) HP.out HQ.out).mono ?_
              rintro x9 w24 ⟨rfl, hb⟩
              have Hs := Lib.hid (Hs.out.below hb)
              have HX := Lib.hid (HX.out.below hb)
              have HY := Lib.hid (HY.out.below hb)
              have HN := Lib.hid (HN.out.below hb)
              have HP := Lib.hid (HP.out.below hb)
              have HQ := Lib.hid (HQ.out.below hb)
              have HB := Lib.hid (below_on HB.out hb)
              clear hb
              go_wp2_with fail
              all_goals
                go_ret
                exact ⟨ret_bool (by first | rfl | (simp; done) | (simp; omega)), HB.out⟩
          · have hf0 : (f == 0) = false := by simpa using hf
            clear hv ey hk
            have HB := Lib.hid (Below.refl w.heap.size w)
            go_enter Tryd.func9, Tryd.ntmps9
            go_wp2_with fail
            refine (awake_any _ (HT.out.below HB.out)).mono ?_
            rintro x9 w1 ⟨rfl, hb⟩
            have Hs := Lib.hid (Hs.out.below hb)
            have HB := Lib.hid (below_on HB.out hb)
            clear hb
            go_wp2_with fail
            refine (own_in Hs.out).mono ?_
            rintro x9 w2 ⟨AP, nP, cP, rfl, hl, hb⟩
            have Hs := Lib.hid (Hs.out.below hb)
            have HB := Lib.hid (below_on HB.out hb)
            have HP := Lib.hid hl
            clear hl
            clear hb
            go_wp2_with fail
            refine (ext_at EX.out hn HP.out).mono ?_
            rintro x9 w3 ⟨AX, nX, cX, rfl, hl, hb⟩
            have Hs := Lib.hid (Hs.out.below hb)
            have HP := Lib.hid (HP.out.below hb)
            have HB := Lib.hid (below_on HB.out hb)
            have HX := Lib.hid hl
            clear hl
            clear hb
            have hq := HX.out.len.trans HXL.out
            subst hq
            go_wp2_with fail
            refine (own_in Hs.out).mono ?_
            rintro x9 w4 ⟨AP, nP, cP, rfl, hl, hb⟩
            have Hs := Lib.hid (Hs.out.below hb)
            have HX := Lib.hid (HX.out.below hb)
            have HB := Lib.hid (below_on HB.out hb)
            have HP := Lib.hid hl
            clear hl
            clear hb
            go_wp2_with fail
            refine (ext_at EY.out hm HP.out).mono ?_
            rintro x9 w5 ⟨AY, nY, cY, rfl, hl, hb⟩
            have Hs := Lib.hid (Hs.out.below hb)
            have HX := Lib.hid (HX.out.below hb)
            have HP := Lib.hid (HP.out.below hb)
            have HB := Lib.hid (below_on HB.out hb)
            have HY := Lib.hid hl
            clear hl
            clear hb
            go_wp2_with fail
            refine (own_in Hs.out).mono ?_
            rintro x9 w6 ⟨AP, nP, cP, rfl, hl, hb⟩
            have Hs := Lib.hid (Hs.out.below hb)
            have HX := Lib.hid (HX.out.below hb)
            have HY := Lib.hid (HY.out.below hb)
            have HB := Lib.hid (below_on HB.out hb)
            have HP := Lib.hid hl
            clear hl
            clear hb
            go_wp2_with fail
            refine (next_at EN.out HP.out).mono ?_
            rintro x9 w7 ⟨AN, nN, cN, rfl, hl, hb⟩
            have Hs := Lib.hid (Hs.out.below hb)
            have HX := Lib.hid (HX.out.below hb)
            have HY := Lib.hid (HY.out.below hb)
            have HP := Lib.hid (HP.out.below hb)
            have HB := Lib.hid (below_on HB.out hb)
            have HN := Lib.hid hl
            clear hl
            clear hb
            have hq := HN.out.len.trans HNX.out.len
            subst hq
            go_wp2_with fail
            refine (own_in Hs.out).mono ?_
            rintro x9 w8 ⟨AP, nP, cP, rfl, hl, hb⟩
            have Hs := Lib.hid (Hs.out.below hb)
            have HX := Lib.hid (HX.out.below hb)
            have HY := Lib.hid (HY.out.below hb)
            have HN := Lib.hid (HN.out.below hb)
            have HB := Lib.hid (below_on HB.out hb)
            have HP := Lib.hid hl
            clear hl
            clear hb
            go_wp2_with fail
            refine (own_in HN.out).mono ?_
            rintro x9 w9 ⟨AQ, nQ, cQ, rfl, hl, hb⟩
            have Hs := Lib.hid (Hs.out.below hb)
            have HX := Lib.hid (HX.out.below hb)
            have HY := Lib.hid (HY.out.below hb)
            have HN := Lib.hid (HN.out.below hb)
            have HP := Lib.hid (HP.out.below hb)
            have HB := Lib.hid (below_on HB.out hb)
            have HQ := Lib.hid hl
            clear hl
            clear hb
            go_wp2_with fail
            refine (cmp_at HNX.out.cmp HP.out HQ.out).mono ?_
            rintro x9 w10 ⟨rfl, hb⟩
            have Hs := Lib.hid (Hs.out.below hb)
            have HX := Lib.hid (HX.out.below hb)
            have HY := Lib.hid (HY.out.below hb)
            have HN := Lib.hid (HN.out.below hb)
            have HP := Lib.hid (HP.out.below hb)
            have HQ := Lib.hid (HQ.out.below hb)
            have HB := Lib.hid (below_on HB.out hb)
            clear hb
            go_wp2_with fail
            refine (own_in Hs.out).mono ?_
            rintro x9 w11 ⟨AP, nP, cP, rfl, hl, hb⟩
            have Hs := Lib.hid (Hs.out.below hb)
            have HX := Lib.hid (HX.out.below hb)
            have HY := Lib.hid (HY.out.below hb)
            have HN := Lib.hid (HN.out.below hb)
            have HB := Lib.hid (below_on HB.out hb)
            have HP := Lib.hid hl
            clear hl
            clear hb
            go_wp2_with fail
            refine (own_in HN.out).mono ?_
            rintro x9 w12 ⟨AQ, nQ, cQ, rfl, hl, hb⟩
            have Hs := Lib.hid (Hs.out.below hb)
            have HX := Lib.hid (HX.out.below hb)
            have HY := Lib.hid (HY.out.below hb)
            have HN := Lib.hid (HN.out.below hb)
            have HP := Lib.hid (HP.out.below hb)
            have HB := Lib.hid (below_on HB.out hb)
            have HQ := Lib.hid hl
            clear hl
            clear hb
            go_wp2_with fail
            refine (under_at HNX.out.under HP.out HQ.out).mono ?_
            rintro x9 w13 ⟨rfl, hb⟩
            have Hs := Lib.hid (Hs.out.below hb)
            have HX := Lib.hid (HX.out.below hb)
            have HY := Lib.hid (HY.out.below hb)
            have HN := Lib.hid (HN.out.below hb)
            have HP := Lib.hid (HP.out.below hb)
            have HQ := Lib.hid (HQ.out.below hb)
            have HB := Lib.hid (below_on HB.out hb)
            clear hb
            go_wp2_with fail
            refine (own_in HX.out).mono ?_
            rintro x9 w14 ⟨AP, nP, cP, rfl, hl, hb⟩
            have Hs := Lib.hid (Hs.out.below hb)
            have HX := Lib.hid (HX.out.below hb)
            have HY := Lib.hid (HY.out.below hb)
            have HN := Lib.hid (HN.out.below hb)
            have HB := Lib.hid (below_on HB.out hb)
            have HP := Lib.hid hl
            clear hl
            clear hb
            go_wp2_with fail
            refine (valid_at EVX.out HP.out).mono ?_
            rintro x9 w15 ⟨rfl, hb⟩
            have Hs := Lib.hid (Hs.out.below hb)
            have HX := Lib.hid (HX.out.below hb)
            have HY := Lib.hid (HY.out.below hb)
            have HN := Lib.hid (HN.out.below hb)
            have HP := Lib.hid (HP.out.below hb)
            have HB := Lib.hid (below_on HB.out hb)
            clear hb
            go_wp2_with fail
            refine (own_in Hs.out).mono ?_
            rintro x9 w16 ⟨AP, nP, cP, rfl, hl, hb⟩
            have Hs := Lib.hid (Hs.out.below hb)
            have HX := Lib.hid (HX.out.below hb)
            have HY := Lib.hid (HY.out.below hb)
            have HN := Lib.hid (HN.out.below hb)
            have HB := Lib.hid (below_on HB.out hb)
            have HP := Lib.hid hl
            clear hl
            clear hb
            go_wp2_with fail
            refine (own_in HX.out).mono ?_
            rintro x9 w17 ⟨AQ, nQ, cQ, rfl, hl, hb⟩
            have Hs := Lib.hid (Hs.out.below hb)
            have HX := Lib.hid (HX.out.below hb)
            have HY := Lib.hid (HY.out.below hb)
            have HN := Lib.hid (HN.out.below hb)
            have HP := Lib.hid (HP.out.below hb)
            have HB := Lib.hid (below_on HB.out hb)
            have HQ := Lib.hid hl
            clear hl
            clear hb
            go_wp2_with fail
            refine (under_at (ext_under s n) HP.out HQ.out).mono ?_
            rintro x9 w18 ⟨rfl, hb⟩
            have Hs := Lib.hid (Hs.out.below hb)
            have HX := Lib.hid (HX.out.below hb)
            have HY := Lib.hid (HY.out.below hb)
            have HN := Lib.hid (HN.out.below hb)
            have HP := Lib.hid (HP.out.below hb)
            have HQ := Lib.hid (HQ.out.below hb)
            have HB := Lib.hid (below_on HB.out hb)
            clear hb
            go_wp2_with fail
            refine (own_in Hs.out).mono ?_
            rintro x9 w19 ⟨AP, nP, cP, rfl, hl, hb⟩
            have Hs := Lib.hid (Hs.out.below hb)
            have HX := Lib.hid (HX.out.below hb)
            have HY := Lib.hid (HY.out.below hb)
            have HN := Lib.hid (HN.out.below hb)
            have HB := Lib.hid (below_on HB.out hb)
            have HP := Lib.hid hl
            clear hl
            clear hb
            go_wp2_with fail
            refine (own_in HX.out).mono ?_
            rintro x9 w20 ⟨AQ, nQ, cQ, rfl, hl, hb⟩
            have Hs := Lib.hid (Hs.out.below hb)
            have HX := Lib.hid (HX.out.below hb)
            have HY := Lib.hid (HY.out.below hb)
            have HN := Lib.hid (HN.out.below hb)
            have HP := Lib.hid (HP.out.below hb)
            have HB := Lib.hid (below_on HB.out hb)
            have HQ := Lib.hid hl
            clear hl
            clear hb
            go_wp2_with fail
            refine (cmp_at (SM.cmp_longer s n) HP.out HQ.out).mono ?_
            rintro x9 w21 ⟨rfl, hb⟩
            have Hs := Lib.hid (Hs.out.below hb)
            have HX := Lib.hid (HX.out.below hb)
            have HY := Lib.hid (HY.out.below hb)
            have HN := Lib.hid (HN.out.below hb)
            have HP := Lib.hid (HP.out.below hb)
            have HQ := Lib.hid (HQ.out.below hb)
            have HB := Lib.hid (below_on HB.out hb)
            clear hb
            obtain ⟨bX, oX, eX, cX0⟩ := ext_cell HX.out
            subst eX
            go_wp2_with fail
            refine (own_in HX.out).mono ?_
            rintro x9 w22 ⟨AP, nP, cP, rfl, hl, hb⟩
            have Hs := Lib.hid (Hs.out.below hb)
            have HX := Lib.hid (HX.out.below hb)
            have HY := Lib.hid (HY.out.below hb)
            have HN := Lib.hid (HN.out.below hb)
            have HB := Lib.hid (below_on HB.out hb)
            have HP := Lib.hid hl
            clear hl
            clear hb
            go_wp2_with fail
            refine (own_in HN.out).mono ?_
            rintro x9 w23 ⟨AQ, nQ, cQ, rfl, hl, hb⟩
            have Hs := Lib.hid (Hs.out.below hb)
            have HX := Lib.hid (HX.out.below hb)
            have HY := Lib.hid (HY.out.below hb)
            have HN := Lib.hid (HN.out.below hb)
            have HP := Lib.hid (HP.out.below hb)
            have HB := Lib.hid (below_on HB.out hb)
            have HQ := Lib.hid hl
            clear hl
            clear hb
            go_wp2_with fail
            refine (cmp_at (HNX.out.ahead n) HP.out HQ.out).mono ?_
            rintro x9 w24 ⟨rfl, hb⟩
            have Hs := Lib.hid (Hs.out.below hb)
            have HX := Lib.hid (HX.out.below hb)
            have HY := Lib.hid (HY.out.below hb)
            have HN := Lib.hid (HN.out.below hb)
            have HP := Lib.hid (HP.out.below hb)
            have HQ := Lib.hid (HQ.out.below hb)
            have HB := Lib.hid (below_on HB.out hb)
            clear hb
            go_wp2_with fail
            all_goals
              go_ret
              exact ⟨ret_bool (by first | rfl | (simp; done) | (simp; omega)), HB.out⟩
    · have hg0 : (g == 0) = false := by simpa using hg
      clear en
      by_cases hl4 : s.length = 4
      · have EX := Lib.hid (show SM.extend s n = ([], 14) by unfold SM.extend; rw [if_neg (by rw [hv]; decide), if_pos hl4])
        have hz : ((s.length : Int) == 4) = true := by simpa using (show (s.length : Int) = 4 by omega)
        clear hv ey hl4
        have HB := Lib.hid (Below.refl w.heap.size w)
        go_enter Tryd.func9, Tryd.ntmps9
        go_wp2_with fail
        refine (awake_any _ (HT.out.below HB.out)).mono ?_
        rintro x9 w1 ⟨rfl, hb⟩
        have Hs := Lib.hid (Hs.out.below hb)
        have HB := Lib.hid (below_on HB.out hb)
        clear hb
        go_wp2_with fail
        refine (own_in Hs.out).mono ?_
        rintro x9 w2 ⟨AP, nP, cP, rfl, hl, hb⟩
        have Hs := Lib.hid (Hs.out.below hb)
        have HB := Lib.hid (below_on HB.out hb)
        have HP := Lib.hid hl
        clear hl
        clear hb
        go_wp2_with fail
        refine (ext_at EX.out hn HP.out).mono ?_
        rintro x9 w3 ⟨AX, nX, cX, rfl, hl, hb⟩
        have Hs := Lib.hid (Hs.out.below hb)
        have HP := Lib.hid (HP.out.below hb)
        have HB := Lib.hid (below_on HB.out hb)
        have HX := Lib.hid hl
        clear hl
        clear hb
        have hq := nil_len HX.out
        subst hq
        go_wp2_with fail
        refine (own_in Hs.out).mono ?_
        rintro x9 w4 ⟨AP, nP, cP, rfl, hl, hb⟩
        have Hs := Lib.hid (Hs.out.below hb)
        have HX := Lib.hid (HX.out.below hb)
        have HB := Lib.hid (below_on HB.out hb)
        have HP := Lib.hid hl
        clear hl
        clear hb
        go_wp2_with fail
        refine (ext_at EY.out hm HP.out).mono ?_
        rintro x9 w5 ⟨AY, nY, cY, rfl, hl, hb⟩
        have Hs := Lib.hid (Hs.out.below hb)
        have HX := Lib.hid (HX.out.below hb)
        have HP := Lib.hid (HP.out.below hb)
        have HB := Lib.hid (below_on HB.out hb)
        have HY := Lib.hid hl
        clear hl
        clear hb
        go_wp2_with fail
        refine (own_in Hs.out).mono ?_
        rintro x9 w6 ⟨AP, nP, cP, rfl, hl, hb⟩
        have Hs := Lib.hid (Hs.out.below hb)
        have HX := Lib.hid (HX.out.below hb)
        have HY := Lib.hid (HY.out.below hb)
        have HB := Lib.hid (below_on HB.out hb)
        have HP := Lib.hid hl
        clear hl
        clear hb
        go_wp2_with fail
        refine (next_at EN.out HP.out).mono ?_
        rintro x9 w7 ⟨AN, nN, cN, rfl, hl, hb⟩
        have Hs := Lib.hid (Hs.out.below hb)
        have HX := Lib.hid (HX.out.below hb)
        have HY := Lib.hid (HY.out.below hb)
        have HP := Lib.hid (HP.out.below hb)
        have HB := Lib.hid (below_on HB.out hb)
        have HN := Lib.hid hl
        clear hl
        clear hb
        go_wp2_with fail
        all_goals
          go_ret
          exact ⟨rfl, HB.out⟩
      · cases hk : SM.count n with
        | false =>
          have EX := Lib.hid (show SM.extend s n = ([], 66) by unfold SM.extend; rw [if_neg (by rw [hv]; decide), if_neg hl4, if_pos hk])
          have hor : n < 1 ∨ 1099511627776 < n := by
            refine Decidable.byContradiction fun hh => ?_
            rw [SM.count_iff.2 (by omega)] at hk
            cases hk
          clear hv ey hk
          rcases hor with h1 | h1
          all_goals
            have HB := Lib.hid (Below.refl w.heap.size w)
            go_enter Tryd.func9, Tryd.ntmps9
            go_wp2_with fail
            refine (awake_any _ (HT.out.below HB.out)).mono ?_
            rintro x9 w1 ⟨rfl, hb⟩
            have Hs := Lib.hid (Hs.out.below hb)
            have HB := Lib.hid (below_on HB.out hb)
            clear hb
            go_wp2_with fail
            refine (own_in Hs.out).mono ?_
            rintro x9 w2 ⟨AP, nP, cP, rfl, hl, hb⟩
            have Hs := Lib.hid (Hs.out.below hb)
            have HB := Lib.hid (below_on HB.out hb)
            have HP := Lib.hid hl
            clear hl
            clear hb
            go_wp2_with fail
            refine (ext_at EX.out hn HP.out).mono ?_
            rintro x9 w3 ⟨AX, nX, cX, rfl, hl, hb⟩
            have Hs := Lib.hid (Hs.out.below hb)
            have HP := Lib.hid (HP.out.below hb)
            have HB := Lib.hid (below_on HB.out hb)
            have HX := Lib.hid hl
            clear hl
            clear hb
            have hq := nil_len HX.out
            subst hq
            go_wp2_with fail
            refine (own_in Hs.out).mono ?_
            rintro x9 w4 ⟨AP, nP, cP, rfl, hl, hb⟩
            have Hs := Lib.hid (Hs.out.below hb)
            have HX := Lib.hid (HX.out.below hb)
            have HB := Lib.hid (below_on HB.out hb)
            have HP := Lib.hid hl
            clear hl
            clear hb
            go_wp2_with fail
            refine (ext_at EY.out hm HP.out).mono ?_
            rintro x9 w5 ⟨AY, nY, cY, rfl, hl, hb⟩
            have Hs := Lib.hid (Hs.out.below hb)
            have HX := Lib.hid (HX.out.below hb)
            have HP := Lib.hid (HP.out.below hb)
            have HB := Lib.hid (below_on HB.out hb)
            have HY := Lib.hid hl
            clear hl
            clear hb
            go_wp2_with fail
            refine (own_in Hs.out).mono ?_
            rintro x9 w6 ⟨AP, nP, cP, rfl, hl, hb⟩
            have Hs := Lib.hid (Hs.out.below hb)
            have HX := Lib.hid (HX.out.below hb)
            have HY := Lib.hid (HY.out.below hb)
            have HB := Lib.hid (below_on HB.out hb)
            have HP := Lib.hid hl
            clear hl
            clear hb
            go_wp2_with fail
            refine (next_at EN.out HP.out).mono ?_
            rintro x9 w7 ⟨AN, nN, cN, rfl, hl, hb⟩
            have Hs := Lib.hid (Hs.out.below hb)
            have HX := Lib.hid (HX.out.below hb)
            have HY := Lib.hid (HY.out.below hb)
            have HP := Lib.hid (HP.out.below hb)
            have HB := Lib.hid (below_on HB.out hb)
            have HN := Lib.hid hl
            clear hl
            clear hb
            go_wp2_with fail
            all_goals
              go_ret
              exact ⟨rfl, HB.out⟩
        | true =>
          have EX := Lib.hid (ext_ok hv hl4 hk)
          have EVX := Lib.hid (ext_valid hv hl4 hk)
          have HXL := Lib.hid (show (s ++ [n]).length = s.length + 1 by simp)
          have r1 := SM.count_iff.1 hk
          by_cases hf : f = 0
          · subst hf
            have e1 := ext_zero (s := s) (m := m) (by rw [ey])
            rw [ey] at e1
            simp only at e1
            subst e1
            clear hv ey hk
            by_cases hnm : n < m
            · have ELT := Lib.hid (ext_less (s := s) hnm)
              have HB := Lib.hid (Below.refl w.heap.size w)
              go_enter Tryd.func9, Tryd.ntmps9
              go_wp2_with fail
              refine (awake_any _ (HT.out.below HB.out)).mono ?_
              rintro x9 w1 ⟨rfl, hb⟩
              have Hs := Lib.hid (Hs.out.below hb)
              have HB := Lib.hid (below_on HB.out hb)
              clear hb
              go_wp2_with fail
              refine (own_in Hs.out).mono ?_
              rintro x9 w2 ⟨AP, nP, cP, rfl, hl, hb⟩
              have Hs := Lib.hid (Hs.out.below hb)
              have HB := Lib.hid (below_on HB.out hb)
              have HP := Lib.hid hl
              clear hl
              clear hb
              go_wp2_with fail
              refine (ext_at EX.out hn HP.out).mono ?_
              rintro x9 w3 ⟨AX, nX, cX, rfl, hl, hb⟩
              have Hs := Lib.hid (Hs.out.below hb)
              have HP := Lib.hid (HP.out.below hb)
              have HB := Lib.hid (below_on HB.out hb)
              have HX := Lib.hid hl
              clear hl
              clear hb
              have hq := HX.out.len.trans HXL.out
              subst hq
              go_wp2_with fail
              refine (own_in Hs.out).mono ?_
              rintro x9 w4 ⟨AP, nP, cP, rfl, hl, hb⟩
              have Hs := Lib.hid (Hs.out.below hb)
              have HX := Lib.hid (HX.out.below hb)
              have HB := Lib.hid (below_on HB.out hb)
              have HP := Lib.hid hl
              clear hl
              clear hb
              go_wp2_with fail
              refine (ext_at EY.out hm HP.out).mono ?_
              rintro x9 w5 ⟨AY, nY, cY, rfl, hl, hb⟩
              have Hs := Lib.hid (Hs.out.below hb)
              have HX := Lib.hid (HX.out.below hb)
              have HP := Lib.hid (HP.out.below hb)
              have HB := Lib.hid (below_on HB.out hb)
              have HY := Lib.hid hl
              clear hl
              clear hb
              go_wp2_with fail
              refine (own_in Hs.out).mono ?_
              rintro x9 w6 ⟨AP, nP, cP, rfl, hl, hb⟩
              have Hs := Lib.hid (Hs.out.below hb)
              have HX := Lib.hid (HX.out.below hb)
              have HY := Lib.hid (HY.out.below hb)
              have HB := Lib.hid (below_on HB.out hb)
              have HP := Lib.hid hl
              clear hl
              clear hb
              go_wp2_with fail
              refine (next_at EN.out HP.out).mono ?_
              rintro x9 w7 ⟨AN, nN, cN, rfl, hl, hb⟩
              have Hs := Lib.hid (Hs.out.below hb)
              have HX := Lib.hid (HX.out.below hb)
              have HY := Lib.hid (HY.out.below hb)
              have HP := Lib.hid (HP.out.below hb)
              have HB := Lib.hid (below_on HB.out hb)
              have HN := Lib.hid hl
              clear hl
              clear hb
              go_wp2_with fail
              refine (own_in HX.out).mono ?_
              rintro x9 w8 ⟨AP, nP, cP, rfl, hl, hb⟩
              have Hs := Lib.hid (Hs.out.below hb)
              have HX := Lib.hid (HX.out.below hb)
              have HY := Lib.hid (HY.out.below hb)
              have HN := Lib.hid (HN.out.below hb)
              have HB := Lib.hid (below_on HB.out hb)
              have HP := Lib.hid hl
              clear hl
              clear hb
              go_wp2_with fail
              refine (valid_at EVX.out HP.out).mono ?_
              rintro x9 w9 ⟨rfl, hb⟩
              have Hs := Lib.hid (Hs.out.below hb)
              have HX := Lib.hid (HX.out.below hb)
              have HY := Lib.hid (HY.out.below hb)
              have HN := Lib.hid (HN.out.below hb)
              have HP := Lib.hid (HP.out.below hb)
              have HB := Lib.hid (below_on HB.out hb)
              clear hb
              go_wp2_with fail
              refine (own_in Hs.out).mono ?_
              rintro x9 w10 ⟨AP, nP, cP, rfl, hl, hb⟩
              have Hs := Lib.hid (Hs.out.below hb)
              have HX := Lib.hid (HX.out.below hb)
              have HY := Lib.hid (HY.out.below hb)
              have HN := Lib.hid (HN.out.below hb)
              have HB := Lib.hid (below_on HB.out hb)
              have HP := Lib.hid hl
              clear hl
              clear hb
              go_wp2_with fail
              refine (own_in HX.out).mono ?_
              rintro x9 w11 ⟨AQ, nQ, cQ, rfl, hl, hb⟩
              have Hs := Lib.hid (Hs.out.below hb)
              have HX := Lib.hid (HX.out.below hb)
              have HY := Lib.hid (HY.out.below hb)
              have HN := Lib.hid (HN.out.below hb)
              have HP := Lib.hid (HP.out.below hb)
              have HB := Lib.hid (below_on HB.out hb)
              have HQ := Lib.hid hl
              clear hl
              clear hb
              go_wp2_with fail
              refine (under_at (ext_under s n) HP.out HQ.out).mono ?_
              rintro x9 w12 ⟨rfl, hb⟩
              have Hs := Lib.hid (Hs.out.below hb)
              have HX := Lib.hid (HX.out.below hb)
              have HY := Lib.hid (HY.out.below hb)
              have HN := Lib.hid (HN.out.below hb)
              have HP := Lib.hid (HP.out.below hb)
              have HQ := Lib.hid (HQ.out.below hb)
              have HB := Lib.hid (below_on HB.out hb)
              clear hb
              go_wp2_with fail
              refine (own_in Hs.out).mono ?_
              rintro x9 w13 ⟨AP, nP, cP, rfl, hl, hb⟩
              have Hs := Lib.hid (Hs.out.below hb)
              have HX := Lib.hid (HX.out.below hb)
              have HY := Lib.hid (HY.out.below hb)
              have HN := Lib.hid (HN.out.below hb)
              have HB := Lib.hid (below_on HB.out hb)
              have HP := Lib.hid hl
              clear hl
              clear hb
              go_wp2_with fail
              refine (own_in HX.out).mono ?_
              rintro x9 w14 ⟨AQ, nQ, cQ, rfl, hl, hb⟩
              have Hs := Lib.hid (Hs.out.below hb)
              have HX := Lib.hid (HX.out.below hb)
              have HY := Lib.hid (HY.out.below hb)
              have HN := Lib.hid (HN.out.below hb)
              have HP := Lib.hid (HP.out.below hb)
              have HB := Lib.hid (below_on HB.out hb)
              have HQ := Lib.hid hl
              clear hl
              clear hb
              go_wp2_with fail
              refine (cmp_at (SM.cmp_longer s n) HP.out HQ.out).mono ?_
              rintro x9 w15 ⟨rfl, hb⟩
              have Hs := Lib.hid (Hs.out.below hb)
              have HX := Lib.hid (HX.out.below hb)
              have HY := Lib.hid (HY.out.below hb)
              have HN := Lib.hid (HN.out.below hb)
              have HP := Lib.hid (HP.out.below hb)
              have HQ := Lib.hid (HQ.out.below hb)
              have HB := Lib.hid (below_on HB.out hb)
              clear hb
              obtain ⟨bX, oX, eX, cX0⟩ := ext_cell HX.out
              subst eX
              go_wp2_with fail
              refine (own_in HX.out).mono ?_
              rintro x9 w16 ⟨AP, nP, cP, rfl, hl, hb⟩
              have Hs := Lib.hid (Hs.out.below hb)
              have HX := Lib.hid (HX.out.below hb)
              have HY := Lib.hid (HY.out.below hb)
              have HN := Lib.hid (HN.out.below hb)
              have HB := Lib.hid (below_on HB.out hb)
              have HP := Lib.hid hl
              clear hl
              clear hb
              go_wp2_with fail
              refine (own_in HY.out).mono ?_
              rintro x9 w17 ⟨AQ, nQ, cQ, rfl, hl, hb⟩
              have Hs := Lib.hid (Hs.out.below hb)
              have HX := Lib.hid (HX.out.below hb)
              have HY := Lib.hid (HY.out.below hb)
              have HN := Lib.hid (HN.out.below hb)
              have HP := Lib.hid (HP.out.below hb)
              have HB := Lib.hid (below_on HB.out hb)
              have HQ := Lib.hid hl
              clear hl
              clear hb
              go_wp2_with fail
              refine (cmp_at ELT.out HP.out HQ.out).mono ?_
              rintro x9 w18 ⟨rfl, hb⟩
              have Hs := Lib.hid (Hs.out.below hb)
              have HX := Lib.hid (HX.out.below hb)
              have HY := Lib.hid (HY.out.below hb)
              have HN := Lib.hid (HN.out.below hb)
              have HP := Lib.hid (HP.out.below hb)
              have HQ := Lib.hid (HQ.out.below hb)
              have HB := Lib.hid (below_on HB.out hb)
              clear hb
              go_wp2_with fail
              all_goals
                go_ret
                exact ⟨ret_bool (by first | rfl | (simp; done) | (simp; omega)), HB.out⟩
            · skip
              have HB := Lib.hid (Below.refl w.heap.size w)
              go_enter Tryd.func9, Tryd.ntmps9
              go_wp2_with fail
              refine (awake_any _ (HT.out.below HB.out)).mono ?_
              rintro x9 w1 ⟨rfl, hb⟩
              have Hs := Lib.hid (Hs.out.below hb)
              have HB := Lib.hid (below_on HB.out hb)
              clear hb
              go_wp2_with fail
              refine (own_in Hs.out).mono ?_
              rintro x9 w2 ⟨AP, nP, cP, rfl, hl, hb⟩
              have Hs := Lib.hid (Hs.out.below hb)
              have HB := Lib.hid (below_on HB.out hb)
              have HP := Lib.hid hl
              clear hl
              clear hb
              go_wp2_with fail
              refine (ext_at EX.out hn HP.out).mono ?_
              rintro x9 w3 ⟨AX, nX, cX, rfl, hl, hb⟩
              have Hs := Lib.hid (Hs.out.below hb)
              have HP := Lib.hid (HP.out.below hb)
              have HB := Lib.hid (below_on HB.out hb)
              have HX := Lib.hid hl
              clear hl
              clear hb
              have hq := HX.out.len.trans HXL.out
              subst hq
              go_wp2_with fail
              refine (own_in Hs.out).mono ?_
              rintro x9 w4 ⟨AP, nP, cP, rfl, hl, hb⟩
              have Hs := Lib.hid (Hs.out.below hb)
              have HX := Lib.hid (HX.out.below hb)
              have HB := Lib.hid (below_on HB.out hb)
              have HP := Lib.hid hl
              clear hl
              clear hb
              go_wp2_with fail
              refine (ext_at EY.out hm HP.out).mono ?_
              rintro x9 w5 ⟨AY, nY, cY, rfl, hl, hb⟩
              have Hs := Lib.hid (Hs.out.below hb)
              have HX := Lib.hid (HX.out.below hb)
              have HP := Lib.hid (HP.out.below hb)
              have HB := Lib.hid (below_on HB.out hb)
              have HY := Lib.hid hl
              clear hl
              clear hb
              go_wp2_with fail
              refine (own_in Hs.out).mono ?_
              rintro x9 w6 ⟨AP, nP, cP, rfl, hl, hb⟩
              have Hs := Lib.hid (Hs.out.below hb)
              have HX := Lib.hid (HX.out.below hb)
              have HY := Lib.hid (HY.out.below hb)
              have HB := Lib.hid (below_on HB.out hb)
              have HP := Lib.hid hl
              clear hl
              clear hb
              go_wp2_with fail
              refine (next_at EN.out HP.out).mono ?_
              rintro x9 w7 ⟨AN, nN, cN, rfl, hl, hb⟩
              have Hs := Lib.hid (Hs.out.below hb)
              have HX := Lib.hid (HX.out.below hb)
              have HY := Lib.hid (HY.out.below hb)
              have HP := Lib.hid (HP.out.below hb)
              have HB := Lib.hid (below_on HB.out hb)
              have HN := Lib.hid hl
              clear hl
              clear hb
              go_wp2_with fail
              refine (own_in HX.out).mono ?_
              rintro x9 w8 ⟨AP, nP, cP, rfl, hl, hb⟩
              have Hs := Lib.hid (Hs.out.below hb)
              have HX := Lib.hid (HX.out.below hb)
              have HY := Lib.hid (HY.out.below hb)
              have HN := Lib.hid (HN.out.below hb)
              have HB := Lib.hid (below_on HB.out hb)
              have HP := Lib.hid hl
              clear hl
              clear hb
              go_wp2_with fail
              refine (valid_at EVX.out HP.out).mono ?_
              rintro x9 w9 ⟨rfl, hb⟩
              have Hs := Lib.hid (Hs.out.below hb)
              have HX := Lib.hid (HX.out.below hb)
              have HY := Lib.hid (HY.out.below hb)
              have HN := Lib.hid (HN.out.below hb)
              have HP := Lib.hid (HP.out.below hb)
              have HB := Lib.hid (below_on HB.out hb)
              clear hb
              go_wp2_with fail
              refine (own_in Hs.out).mono ?_
              rintro x9 w10 ⟨AP, nP, cP, rfl, hl, hb⟩
              have Hs := Lib.hid (Hs.out.below hb)
              have HX := Lib.hid (HX.out.below hb)
              have HY := Lib.hid (HY.out.below hb)
              have HN := Lib.hid (HN.out.below hb)
              have HB := Lib.hid (below_on HB.out hb)
              have HP := Lib.hid hl
              clear hl
              clear hb
              go_wp2_with fail
              refine (own_in HX.out).mono ?_
              rintro x9 w11 ⟨AQ, nQ, cQ, rfl, hl, hb⟩
              have Hs := Lib.hid (Hs.out.below hb)
              have HX := Lib.hid (HX.out.below hb)
              have HY := Lib.hid (HY.out.below hb)
              have HN := Lib.hid (HN.out.below hb)
              have HP := Lib.hid (HP.out.below hb)
              have HB := Lib.hid (below_on HB.out hb)
              have HQ := Lib.hid hl
              clear hl
              clear hb
              go_wp2_with fail
              refine (under_at (ext_under s n) HP.out HQ.out).mono ?_
              rintro x9 w12 ⟨rfl, hb⟩
              have Hs := Lib.hid (Hs.out.below hb)
              have HX := Lib.hid (HX.out.below hb)
              have HY := Lib.hid (HY.out.below hb)
              have HN := Lib.hid (HN.out.below hb)
              have HP := Lib.hid (HP.out.below hb)
              have HQ := Lib.hid (HQ.out.below hb)
              have HB := Lib.hid (below_on HB.out hb)
              clear hb
              go_wp2_with fail
              refine (own_in Hs.out).mono ?_
              rintro x9 w13 ⟨AP, nP, cP, rfl, hl, hb⟩
              have Hs := Lib.hid (Hs.out.below hb)
              have HX := Lib.hid (HX.out.below hb)
              have HY := Lib.hid (HY.out.below hb)
              have HN := Lib.hid (HN.out.below hb)
              have HB := Lib.hid (below_on HB.out hb)
              have HP := Lib.hid hl
              clear hl
              clear hb
              go_wp2_with fail
              refine (own_in HX.out).mono ?_
              rintro x9 w14 ⟨AQ, nQ, cQ, rfl, hl, hb⟩
              have Hs := Lib.hid (Hs.out.below hb)
              have HX := Lib.hid (HX.out.below hb)
              have HY := Lib.hid (HY.out.below hb)
              have HN := Lib.hid (HN.out.below hb)
              have HP := Lib.hid (HP.out.below hb)
              have HB := Lib.hid (below_on HB.out hb)
              have HQ := Lib.hid hl
              clear hl
              clear hb
              go_wp2_with fail
              refine (cmp_at (SM.cmp_longer s n) HP.out HQ.out).mono ?_
              rintro x9 w15 ⟨rfl, hb⟩
              have Hs := Lib.hid (Hs.out.below hb)
              have HX := Lib.hid (HX.out.below hb)
              have HY := Lib.hid (HY.out.below hb)
              have HN := Lib.hid (HN.out.below hb)
              have HP := Lib.hid (HP.out.below hb)
              have HQ := Lib.hid (HQ.out.below hb)
              have HB := Lib.hid (below_on HB.out hb)
              clear hb
              obtain ⟨bX, oX, eX, cX0⟩ := ext_cell HX.out
              subst eX
              go_wp2_with fail
              all_goals
                go_ret
                exact ⟨ret_bool (by first | rfl | (simp; done) | (simp; omega)), HB.out⟩
          · have hf0 : (f == 0) = false := by simpa using hf
            clear hv ey hk
            have HB := Lib.hid (Below.refl w.heap.size w)
            go_enter Tryd.func9, Tryd.ntmps9
            go_wp2_with fail
            refine (awake_any _ (HT.out.below HB.out)).mono ?_
            rintro x9 w1 ⟨rfl, hb⟩
            have Hs := Lib.hid (Hs.out.below hb)
            have HB := Lib.hid (below_on HB.out hb)
            clear hb
            go_wp2_with fail
            refine (own_in Hs.out).mono ?_
            rintro x9 w2 ⟨AP, nP, cP, rfl, hl, hb⟩
            have Hs := Lib.hid (Hs.out.below hb)
            have HB := Lib.hid (below_on HB.out hb)
            have HP := Lib.hid hl
            clear hl
            clear hb
            go_wp2_with fail
            refine (ext_at EX.out hn HP.out).mono ?_
            rintro x9 w3 ⟨AX, nX, cX, rfl, hl, hb⟩
            have Hs := Lib.hid (Hs.out.below hb)
            have HP := Lib.hid (HP.out.below hb)
            have HB := Lib.hid (below_on HB.out hb)
            have HX := Lib.hid hl
            clear hl
            clear hb
            have hq := HX.out.len.trans HXL.out
            subst hq
            go_wp2_with fail
            refine (own_in Hs.out).mono ?_
            rintro x9 w4 ⟨AP, nP, cP, rfl, hl, hb⟩
            have Hs := Lib.hid (Hs.out.below hb)
            have HX := Lib.hid (HX.out.below hb)
            have HB := Lib.hid (below_on HB.out hb)
            have HP := Lib.hid hl
            clear hl
            clear hb
            go_wp2_with fail
            refine (ext_at EY.out hm HP.out).mono ?_
            rintro x9 w5 ⟨AY, nY, cY, rfl, hl, hb⟩
            have Hs := Lib.hid (Hs.out.below hb)
            have HX := Lib.hid (HX.out.below hb)
            have HP := Lib.hid (HP.out.below hb)
            have HB := Lib.hid (below_on HB.out hb)
            have HY := Lib.hid hl
            clear hl
            clear hb
            go_wp2_with fail
            refine (own_in Hs.out).mono ?_
            rintro x9 w6 ⟨AP, nP, cP, rfl, hl, hb⟩
            have Hs := Lib.hid (Hs.out.below hb)
            have HX := Lib.hid (HX.out.below hb)
            have HY := Lib.hid (HY.out.below hb)
            have HB := Lib.hid (below_on HB.out hb)
            have HP := Lib.hid hl
            clear hl
            clear hb
            go_wp2_with fail
            refine (next_at EN.out HP.out).mono ?_
            rintro x9 w7 ⟨AN, nN, cN, rfl, hl, hb⟩
            have Hs := Lib.hid (Hs.out.below hb)
            have HX := Lib.hid (HX.out.below hb)
            have HY := Lib.hid (HY.out.below hb)
            have HP := Lib.hid (HP.out.below hb)
            have HB := Lib.hid (below_on HB.out hb)
            have HN := Lib.hid hl
            clear hl
            clear hb
            go_wp2_with fail
            refine (own_in HX.out).mono ?_
            rintro x9 w8 ⟨AP, nP, cP, rfl, hl, hb⟩
            have Hs := Lib.hid (Hs.out.below hb)
            have HX := Lib.hid (HX.out.below hb)
            have HY := Lib.hid (HY.out.below hb)
            have HN := Lib.hid (HN.out.below hb)
            have HB := Lib.hid (below_on HB.out hb)
            have HP := Lib.hid hl
            clear hl
            clear hb
            go_wp2_with fail
            refine (valid_at EVX.out HP.out).mono ?_
            rintro x9 w9 ⟨rfl, hb⟩
            have Hs := Lib.hid (Hs.out.below hb)
            have HX := Lib.hid (HX.out.below hb)
            have HY := Lib.hid (HY.out.below hb)
            have HN := Lib.hid (HN.out.below hb)
            have HP := Lib.hid (HP.out.below hb)
            have HB := Lib.hid (below_on HB.out hb)
            clear hb
            go_wp2_with fail
            refine (own_in Hs.out).mono ?_
            rintro x9 w10 ⟨AP, nP, cP, rfl, hl, hb⟩
            have Hs := Lib.hid (Hs.out.below hb)
            have HX := Lib.hid (HX.out.below hb)
            have HY := Lib.hid (HY.out.below hb)
            have HN := Lib.hid (HN.out.below hb)
            have HB := Lib.hid (below_on HB.out hb)
            have HP := Lib.hid hl
            clear hl
            clear hb
            go_wp2_with fail
            refine (own_in HX.out).mono ?_
            rintro x9 w11 ⟨AQ, nQ, cQ, rfl, hl, hb⟩
            have Hs := Lib.hid (Hs.out.below hb)
            have HX := Lib.hid (HX.out.below hb)
            have HY := Lib.hid (HY.out.below hb)
            have HN := Lib.hid (HN.out.below hb)
            have HP := Lib.hid (HP.out.below hb)
            have HB := Lib.hid (below_on HB.out hb)
            have HQ := Lib.hid hl
            clear hl
            clear hb
            go_wp2_with fail
            refine (under_at (ext_under s n) HP.out HQ.out).mono ?_
            rintro x9 w12 ⟨rfl, hb⟩
            have Hs := Lib.hid (Hs.out.below hb)
            have HX := Lib.hid (HX.out.below hb)
            have HY := Lib.hid (HY.out.below hb)
            have HN := Lib.hid (HN.out.below hb)
            have HP := Lib.hid (HP.out.below hb)
            have HQ := Lib.hid (HQ.out.below hb)
            have HB := Lib.hid (below_on HB.out hb)
            clear hb
            go_wp2_with fail
            refine (own_in Hs.out).mono ?_
            rintro x9 w13 ⟨AP, nP, cP, rfl, hl, hb⟩
            have Hs := Lib.hid (Hs.out.below hb)
            have HX := Lib.hid (HX.out.below hb)
            have HY := Lib.hid (HY.out.below hb)
            have HN := Lib.hid (HN.out.below hb)
            have HB := Lib.hid (below_on HB.out hb)
            have HP := Lib.hid hl
            clear hl
            clear hb
            go_wp2_with fail
            refine (own_in HX.out).mono ?_
            rintro x9 w14 ⟨AQ, nQ, cQ, rfl, hl, hb⟩
            have Hs := Lib.hid (Hs.out.below hb)
            have HX := Lib.hid (HX.out.below hb)
            have HY := Lib.hid (HY.out.below hb)
            have HN := Lib.hid (HN.out.below hb)
            have HP := Lib.hid (HP.out.below hb)
            have HB := Lib.hid (below_on HB.out hb)
            have HQ := Lib.hid hl
            clear hl
            clear hb
            go_wp2_with fail
            refine (cmp_at (SM.cmp_longer s n) HP.out HQ.out).mono ?_
            rintro x9 w15 ⟨rfl, hb⟩
            have Hs := Lib.hid (Hs.out.below hb)
            have HX := Lib.hid (HX.out.below hb)
            have HY := Lib.hid (HY.out.below hb)
            have HN := Lib.hid (HN.out.below hb)
            have HP := Lib.hid (HP.out.below hb)
            have HQ := Lib.hid (HQ.out.below hb)
            have HB := Lib.hid (below_on HB.out hb)
            clear hb
            obtain ⟨bX, oX, eX, cX0⟩ := ext_cell HX.out
            subst eX
            go_wp2_with fail
            all_goals
              go_ret
              exact ⟨ret_bool (by first | rfl | (simp; done) | (simp; omega)), HB.out⟩

theorem own : ownKnob Tryd.prog.godebug = none := by kernel_rfl
theorem laidOut : laidOutB Tryd.prog = true := by kernel_rfl
theorem lifted (os : Os) (started : os.Started) (H : Type) (enc : TypeId × Value → H) (F : Stop.Interp) :
    ReturnsInHanded {} Tryd.checked os 9 .any ((OpenSpec.ofChange Rows.stampsGrowSpec).preRow enc Tryd.prog Tryd.f9 Rows.stampsGrowRow.domain false Rows.stampsGrowRow.laid) (((OpenSpec.ofChange Rows.stampsGrowSpec).at F).post enc Tryd.prog Tryd.f9 false true false false) := by
  refine LK.lifted_row (C := Tryd.checked) (s := (OpenSpec.ofChange Rows.stampsGrowSpec)) (F := F) (s0 := Rows.stampsGrowSpec) (tb := 4) (laid := Rows.stampsGrowRow.laid) rfl own started (by kernel_rfl) Tryd.func9 laidOut rfl rfl rfl rfl (by kernel_rfl) (by kernel_rfl) Tryd.underlying4
    (fun ds h => by
      match ds, h with
      | [_, _, _], _ => rfl)
    (World.laidAll Tryd.prog os Rows.stampsGrowRow.laid) #[.slice none 0 0, .int .i64 0, .int .i64 0] 8 (x := ([.nil, .lit (.int .i64 0), .lit (.int .i64 0)], [], [])) (World.laidAll_os _ _ _) (World.shaped_of_ZipB (by kernel_rfl) (by kernel_rfl)) (by kernel_rfl) (by kernel_rfl) (fun k hk => by cases hk) (by kernel_rfl)
    (by rw [MakeChecks.laidMetH_plain _ _ _ (by kernel_rfl)]; exact laidMet_laidAll _ (by kernel_rfl) (by kernel_rfl)) ?_
  intro W base args ds ps hval hA hwt hk hsh hlaid
  rw [show Tryd.f9.params.toList = [22, 3, 3] by kernel_rfl] at hA hwt
  have hval' : ∀ (j : Nat) t v, (#[22, 3, 3] : Array TypeId)[j]? = some t → args[j]? = some v → Value.okWide Tryd.prog W .any base t v := by
    rw [← Tryd.params9]; exact hval
  clear hval
  obtain ⟨v0, v1, v2, d0, d1, d2, p0, p1, p2, rfl, rfl, rfl, h0, h1, h2⟩ := trodAll_three hA
  obtain ⟨A0, c0, l0, rfl, hI0, hc0, hm0, hr0⟩ := open_nums (hval' 0 22 v0 rfl rfl) h0 hwt (j := 0) rfl rfl
  obtain ⟨n1, rfl, rfl, rfl, hn1⟩ := open_int Tryd.underlying3 (hval' 1 3 v1 rfl rfl) h1
  have hr1 : -9223372036854775808 ≤ n1 ∧ n1 ≤ 9223372036854775807 := by simpa [Lit.wf, IntKind.min, IntKind.max, IntKind.signed, IntKind.bits] using hn1
  obtain ⟨n2, rfl, rfl, rfl, hn2⟩ := open_int Tryd.underlying3 (hval' 2 3 v2 rfl rfl) h2
  have hr2 : -9223372036854775808 ≤ n2 ∧ n2 ≤ 9223372036854775807 := by simpa [Lit.wf, IntKind.min, IntKind.max, IntKind.signed, IntKind.bits] using hn2
  exact walk A0 l0.length c0 l0 n1 n2 W ⟨rfl, hI0, hc0, by omega, by omega, hr0⟩ hr1 hr2 (tabs_of hsh hlaid)

theorem over : Rows.stampsGrowRow.holds Tryd.pinned (OpenSpec.ofChange Rows.stampsGrowSpec) :=
  OpenClaim.holds_of_cond 9 Tryd.f9 rfl rfl rfl rfl rfl rfl rfl ⟨rfl, rfl, rfl, rfl, rfl⟩ rfl rfl rfl rfl rfl (by kernel_rfl) Tryd.func9 (by kernel_rfl)
    (of_decide_eq_true (by kernel_rfl)) (by unfold Func.isWrapper; first | (rw [if_pos (by decide +kernel)]; kernel_rfl) | (rw [if_neg (by decide +kernel)]; exact ⟨rfl, rfl⟩))
    (fun os started H enc _ F => by rw [OpenClaim.pre_eq_preRow]; exact lifted os started H enc F)

/-- The statement. -/
theorem proved : Rows.StampsGrowCardSaid :=
  Claim7.holds_tied_plain_at .later [] Rows.stampsGrowCard.laidKinds true Rows.stampsGrowCard.stood.harness Rows.stampsGrowCard.stood.looks
    over (fun _ h => by cases h) (by kernel_rfl) (fun _ h => by cases h) stampsGrow_row_tie rfl ⟨rfl, rfl⟩ (by kernel_rfl) rfl
    (fun f fn hf hfn => by
      obtain rfl : f = 9 := Option.some.inj ((show Tryd.prog.funcNamed Rows.stampsGrowRow.func = some 9 by kernel_rfl).symm.trans hf) |>.symm
      obtain rfl : fn = Tryd.f9 := (Option.some.inj (Tryd.func9.symm.trans hfn)).symm
      exact ⟨by kernel_rfl, fun j t ht => by
        rw [Tryd.params9] at ht
        have hm : t ∈ ([22, 3, 3] : List TypeId) := by simpa using Array.mem_of_getElem? ht
        have hall : (([22, 3, 3] : List TypeId).all fun u => !Tryd.prog.wantsStandIn u) = true := by kernel_rfl
        exact (show Tryd.prog.wantsStandIn t = false by simpa using List.all_eq_true.1 hall t hm)⟩)
    (by kernel_rfl)

end Go.Proofs.YthhkgdknmehaoaaDoor.lawStampsGrow
