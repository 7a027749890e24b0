/- The package's calls of layer 4 on lists: is it a stamp, which one is the earlier, what is under what, the later one. -/
import Derived.Test.YthhkgdknmehaoaaDoorStampsLib
namespace Go.Proofs.YthhkgdknmehaoaaDoor
open Go.RowKit
set_option linter.unusedVariables false
set_option maxRecDepth 100000
theorem isCounter_any (x : Int) (w : World) : Calls Tryd.prog 30 #[.int .i64 x] w fun e w' => e = .returned (.bool (SM.count x)) ∧ w = w' := by
  have HE := Lib.hid (show SM.count x = (decide (1 ≤ x) && decide (x ≤ 1099511627776)) from rfl)
  by_cases h : 1 ≤ x
  · by_cases h2 : x ≤ 1099511627776
    · go_enter Tryd.func30, Tryd.ntmps30
      go_wp2_with fail
      go_ret
      exact ⟨ret_bool (by rw [HE.out, decide_eq_true h, decide_eq_true h2]; first | rfl | simp [*]), rfl⟩
    · go_enter Tryd.func30, Tryd.ntmps30
      go_wp2_with fail
      go_ret
      exact ⟨ret_bool (by rw [HE.out, decide_eq_false (show ¬ x ≤ 1099511627776 by omega), Bool.and_false]), rfl⟩
  · go_enter Tryd.func30, Tryd.ntmps30
    go_wp2_with fail
    go_ret
    exact ⟨ret_bool (by rw [HE.out, decide_eq_false (show ¬ 1 ≤ x by omega), Bool.false_and]), rfl⟩
set_option maxHeartbeats 1000000 in
theorem Valid_any (A : Option Addr) (c : Nat) (l : List Int) (w : World) (hA : IntsAt w A l) (hl : l.length ≤ c) (hc : c ≤ 9223372036854775807) :
    Calls Tryd.prog 14 #[.slice A l.length c] w fun e w' => e = .returned (.bool (SM.valid l)) ∧ w = w' := by
  have HA := Lib.hid hA; clear hA
  by_cases h4 : 4 < l.length
  · have HF := Lib.hid (valid_long h4)
    go_enter Tryd.func14, Tryd.ntmps14
    go_wp2_with fail
    go_ret
    exact ⟨ret_bool HF.out, rfl⟩
  · go_enter Tryd.func14, Tryd.ntmps14
    go_wp2_with fail
    go_loop [10] (fun i => ∃ k : Nat, i = .int .i64 (k : Int) ∧ k ≤ l.length ∧ Hid ((l.take k).all SM.count = true)) (fun i => l.length - (intOf i).toNat)
    case atStart => exact ⟨0, rfl, by omega, Lib.hid (by rw [List.take_zero]; rfl)⟩
    case round =>
      obtain ⟨k, rfl, hk, HT⟩ := hrel
      by_cases hlt : k < l.length
      · obtain ⟨b, o, eA, _, hca⟩ := HA.out (by omega)
        subst eA
        have ca := hca k l[k] (List.getElem?_eq_getElem hlt)
        clear hca
        have HK := Lib.hid (fun w => isCounter_any l[k] w)
        cases hcount : SM.count l[k] with
        | true =>
          have HS := Lib.hid (take_all HT.out hlt hcount)
          rw [hcount] at HK
          clear hcount
          generalize l[k] = x at ca HK
          go_wp2_with fail
          refine (HK.out _).mono ?_
          rintro e w' ⟨rfl, rfl⟩
          go_wp2_with fail
          go_round
          case rel => exact ⟨k + 1, rfl, by omega, HS⟩
          case measure => simp only [intOf]; omega
        | false =>
          have HF := Lib.hid (valid_bad hlt hcount)
          rw [hcount] at HK
          clear hcount
          generalize l[k] = x at ca HK
          go_wp2_with fail
          refine (HK.out _).mono ?_
          rintro e w' ⟨rfl, rfl⟩
          go_wp2_with fail
          go_ret
          exact ⟨ret_bool HF.out, rfl⟩
      · have HF := Lib.hid (valid_end HT.out hlt h4)
        go_wp2_with fail
        go_ret
        exact ⟨ret_bool HF.out, rfl⟩
theorem lesser_step {a b : List Int} {k : Nat} {n : Int} (h : SM.cmp (a.drop k) (b.drop k) = n) (ha : k < a.length) (hb : k < b.length) : (lesser a[k] b[k] = 0 ∧ SM.cmp (a.drop (k + 1)) (b.drop (k + 1)) = n) ∨ (lesser a[k] b[k] ≠ 0 ∧ lesser a[k] b[k] = n) := by
  have e := cmp_step h ha hb
  unfold lesser
  split at e
  · rw [if_pos ‹_›]; exact .inr ⟨by decide, e⟩
  · split at e
    · rw [if_neg ‹_›, if_pos ‹_›]; exact .inr ⟨by decide, e⟩
    · rw [if_neg ‹_›, if_neg ‹_›]; exact .inl ⟨rfl, e⟩
theorem lesser_end {a b : List Int} {k : Nat} {n : Int} (h : SM.cmp (a.drop k) (b.drop k) = n) (hk : k ≤ a.length) (hk2 : k ≤ b.length) (he : ¬ (k < a.length ∧ k < b.length)) : lesser (a.length : Int) (b.length : Int) = n := by
  rw [cmp_end h hk hk2 he]
  unfold lesser
  simp only [Int.ofNat_lt]
theorem cmp_quiet (x y : Int) (w : World) : Calls Tryd.prog 40 #[.int .i64 x, .int .i64 y] w fun e w' => e = .returned (.int .i64 (lesser x y)) ∧ w' = w := (cmp_any x y w).mono fun _ _ h => ⟨h.1, h.2.symm⟩
set_option maxHeartbeats 2000000 in
theorem order_any (A B : Option Addr) (c d : Nat) (a b : List Int) (w : World) (hA : IntsAt w A a) (hB : IntsAt w B b) (ha : a.length ≤ c) (hb : b.length ≤ d) (hc : c ≤ 9223372036854775807) (hd : d ≤ 9223372036854775807) :
    Calls Tryd.prog 32 #[.slice A a.length c, .slice B b.length d] w fun e w' => e = .returned (.int .i64 (SM.cmp a b)) ∧ Below w.heap.size w w' := by
  have HA := Lib.hid hA; clear hA
  have HB := Lib.hid hB; clear hB
  obtain ⟨n, hn⟩ : ∃ n, SM.cmp a b = n := ⟨_, rfl⟩
  rw [hn]
  have HN := Lib.hid hn; clear hn
  generalize hla : a.length = la at *
  generalize hlb : b.length = lb at *
  have HLA := Lib.hid hla; clear hla
  have HLB := Lib.hid hlb; clear hlb
  go_enter Tryd.func32, Tryd.ntmps32
  go_wp2_with fail
  obtain ⟨m, hm, hm1, hm2, hm3⟩ : ∃ m : Nat, min (la : Int) (lb : Int) = (m : Int) ∧ m ≤ la ∧ m ≤ lb ∧ (m = la ∨ m = lb) := ⟨min la lb, by omega, by omega, by omega, by omega⟩
  rw [hm]
  clear hm
  go_loopw [12] (fun i wx => ∃ k : Nat, i = .int .i64 (k : Int) ∧ k ≤ m ∧ Below w.heap.size w wx ∧ Hid (SM.cmp (a.drop k) (b.drop k) = n)) (fun i _ => m - (intOf i).toNat)
  case atStart => exact ⟨0, rfl, by omega, Below.refl _ _, HN⟩
  case round =>
    obtain ⟨k, rfl, hk, hW, HT⟩ := hrel
    have HW := Lib.hid hW; clear hW
    by_cases hlt : k < m
    · have g1 : k < a.length := by rw [HLA.out]; omega
      have g2 : k < b.length := by rw [HLB.out]; omega
      have HC := Lib.hid (lesser_step HT.out g1 g2)
      obtain ⟨ba, oa, eA, _, hca⟩ := (HA.out.below HW.out) (by omega)
      obtain ⟨bb, ob, eB, _, hcb⟩ := (HB.out.below HW.out) (by omega)
      subst eA
      subst eB
      have ca := hca k a[k] (List.getElem?_eq_getElem g1)
      have cb := hcb k b[k] (List.getElem?_eq_getElem g2)
      have HQ := Lib.hid (fun w => cmp_quiet a[k] b[k] w)
      clear hca hcb
      generalize lesser a[k] b[k] = z at HC HQ
      generalize a[k] = x at ca HQ
      generalize b[k] = y at cb HQ
      clear g1 g2
      go_wp2_with fail
      go_quiet ((go_at_call 40; exact Calls.quiet_of_same (HQ.out _)))
      have HW2 := Lib.hid (below_drewN HW.out nq)
      rcases HC.out with ⟨rfl, he⟩ | ⟨hz, he⟩
      · have HE := Lib.hid he; clear he
        go_wp2_with fail
        go_roundw
        case rel => exact ⟨k + 1, rfl, by omega, HW2.out, HE⟩
        case measure => simp only [intOf]; omega
      · have HE := Lib.hid he; clear he
        have hz2 : (z == 0) = false := by simpa using hz
        go_wp2_with fail
        go_ret
        exact ⟨ret_int HE.out, HW2.out⟩
    · have HE := Lib.hid (show lesser (la : Int) (lb : Int) = n by rw [← HLA.out, ← HLB.out]; exact lesser_end HT.out (by rw [HLA.out]; omega) (by rw [HLB.out]; omega) (by rw [HLA.out, HLB.out]; omega))
      have HQ := Lib.hid (fun w => cmp_quiet (la : Int) (lb : Int) w)
      rw [HE.out] at HQ
      go_wp2_with fail
      refine (HQ.out _).mono ?_
      rintro e w' ⟨rfl, rfl⟩
      go_wp2_with fail
      go_ret
      exact ⟨rfl, HW.out⟩
section
variable {w : World} {A B : Option Addr} {n c m d : Nat} {l a b : List Int}
theorem order_in (hA : IntsAt w A a) (hB : IntsAt w B b) (hn : n = a.length) (hm : m = b.length) (ha : n ≤ c) (hb : m ≤ d) (hc : c ≤ 9223372036854775807) (hd : d ≤ 9223372036854775807) :
    Calls Tryd.prog 32 #[.slice A n c, .slice B m d] w fun e w' => e = .returned (.int .i64 (SM.cmp a b)) ∧ Below w.heap.size w w' := by
  subst hn hm
  exact order_any A B c d a b w hA hB ha hb hc hd
set_option maxHeartbeats 1000000 in
theorem Compare_any (A B : Option Addr) (c d : Nat) (a b : List Int) (w : World) (hA : IntsAt w A a) (hB : IntsAt w B b) (ha : a.length ≤ c) (hb : b.length ≤ d) (hc : c ≤ 9223372036854775807) (hd : d ≤ 9223372036854775807) :
    Calls Tryd.prog 17 #[.slice A a.length c, .slice B b.length d] w fun e w' => e = .returned (.int .i64 (SM.cmp a b)) ∧ Below w.heap.size w w' := by
  have HR := Lib.hid (order_any A B c d a b w hA hB ha hb hc hd); clear hA hB
  generalize SM.cmp a b = p at *
  go_enter Tryd.func17, Tryd.ntmps17
  go_wp2_with fail
  refine HR.out.mono ?_
  rintro x w2 ⟨rfl, hb⟩
  have HB := Lib.hid hb; clear hb
  go_wp2_with fail
  go_ret
  exact ⟨rfl, HB.out⟩
set_option maxHeartbeats 1000000 in
theorem Under_any (A B : Option Addr) (c d : Nat) (a b : List Int) (w : World) (hA : IntsAt w A a) (hB : IntsAt w B b) (ha : a.length ≤ c) (hb : b.length ≤ d) (hc : c ≤ 9223372036854775807) (hd : d ≤ 9223372036854775807) :
    Calls Tryd.prog 19 #[.slice A a.length c, .slice B b.length d] w fun e w' => e = .returned (.bool (SM.under a b)) ∧ Below w.heap.size w w' := by
  by_cases h : b.length < a.length
  · have HF := Lib.hid (under_long h)
    go_enter Tryd.func19, Tryd.ntmps19
    go_wp2_with fail
    go_ret
    exact ⟨ret_bool HF.out, Below.refl _ _⟩
  · have HU := Lib.hid (under_of h)
    have hl : (b.take a.length).length = a.length := by rw [List.length_take]; omega
    have HC := Lib.hid (order_in (n := a.length) (m := a.length) (c := c) (d := d) hA (hB.take a.length) rfl hl.symm ha (by omega) hc hd)
    clear hA hB hl
    generalize SM.cmp a (b.take a.length) = n at *
    generalize SM.under a b = u at *
    go_enter Tryd.func19, Tryd.ntmps19
    go_wp2_with fail
    refine HC.out.mono ?_
    rintro x w2 ⟨rfl, hb⟩
    have HB := Lib.hid hb; clear hb
    go_wp2_with fail
    go_ret
    exact ⟨ret_bool HU.out, HB.out⟩
set_option maxHeartbeats 1000000 in
theorem Later_any (A B : Option Addr) (c d : Nat) (a b : List Int) (w : World) (hA : IntsAt w A a) (hB : IntsAt w B b) (ha : a.length ≤ c) (hb : b.length ≤ d) (hc : c ≤ 9223372036854775807) (hd : d ≤ 9223372036854775807) (ha8 : a.length * 8 ≤ 140737488355328) (hb8 : b.length * 8 ≤ 140737488355328) :
    Calls Tryd.prog 22 #[.slice A a.length c, .slice B b.length d] w fun e w' => ∃ v, e = .returned v ∧ Grew w (SM.later a b) v w' := by
  have HA := Lib.hid hA
  have HB := Lib.hid hB
  have HC := Lib.hid (order_any A B c d a b w hA hB ha hb hc hd)
  clear hA hB
  by_cases h : SM.cmp a b < 0
  · have HE := Lib.hid (show SM.later a b = b from if_pos h)
    generalize SM.cmp a b = n at *
    go_enter Tryd.func22, Tryd.ntmps22
    go_wp2_with fail
    refine HC.out.mono ?_
    rintro x w2 ⟨rfl, hb⟩
    have HW := Lib.hid hb; clear hb
    go_wp2_with fail
    refine (Clone_any B d b w2 (HB.out.below HW.out) hb8).mono ?_
    rintro x w3 ⟨v, rfl, hG⟩
    have HG := Lib.hid (Grew.later HW.out hG); clear hG
    go_wp2_with fail
    go_ret
    exact ⟨v, rfl, by rw [HE.out]; exact HG.out⟩
  · have HE := Lib.hid (show SM.later a b = a from if_neg h)
    generalize SM.cmp a b = n at *
    go_enter Tryd.func22, Tryd.ntmps22
    go_wp2_with fail
    refine HC.out.mono ?_
    rintro x w2 ⟨rfl, hb⟩
    have HW := Lib.hid hb; clear hb
    go_wp2_with fail
    refine (Clone_any A c a w2 (HA.out.below HW.out) ha8).mono ?_
    rintro x w3 ⟨v, rfl, hG⟩
    have HG := Lib.hid (Grew.later HW.out hG); clear hG
    go_wp2_with fail
    go_ret
    exact ⟨v, rfl, by rw [HE.out]; exact HG.out⟩
theorem count_of {n : Int} {r : Bool} (h : SM.count n = r) (w : World) : Calls Tryd.prog 30 #[.int .i64 n] w fun e w' => e = .returned (.bool r) ∧ w = w' := by
  rw [← h]
  exact isCounter_any n w
theorem ext_long {l : List Int} {n : Int} (hv : SM.valid l = true) (h4 : l.length = 4) : SM.extend l n = ([], 14) := by
  unfold SM.extend
  rw [if_neg (by rw [hv]; decide), if_pos h4]
theorem ext_count {l : List Int} {n : Int} (hv : SM.valid l = true) (h4 : l.length ≠ 4) (hk : SM.count n = false) : SM.extend l n = ([], 66) := by
  unfold SM.extend
  rw [if_neg (by rw [hv]; decide), if_neg h4, if_pos hk]
theorem ext_more {l : List Int} {n : Int} (hv : SM.valid l = true) (h4 : l.length ≠ 4) (hk : SM.count n = true) : SM.extend l n = (l ++ [n], 0) := by
  unfold SM.extend
  rw [if_neg (by rw [hv]; decide), if_neg h4, if_neg (by rw [hk]; decide)]
set_option maxHeartbeats 2000000 in
theorem Extend_any (A : Option Addr) (c : Nat) (l : List Int) (n : Int) (w : World) (hA : IntsAt w A l) (hl : l.length ≤ c) (hc : c ≤ 9223372036854775807) (hn : -9223372036854775808 ≤ n ∧ n ≤ 9223372036854775807) :
    Calls Tryd.prog 11 #[.slice A l.length c, .int .i64 n] w fun e w' => ∃ v, e = .returned (.tuple #[v, .int .i64 (SM.extend l n).2]) ∧ Grew w (SM.extend l n).1 v w' := by
  have HA := Lib.hid hA
  have HV := Lib.hid (Valid_any A c l w hA hl hc)
  clear hA
  cases hv : SM.valid l with
  | false =>
    have HE := Lib.hid (show SM.extend l n = ([], 13) from if_pos hv)
    rw [hv] at HV
    clear hv
    go_enter Tryd.func11, Tryd.ntmps11
    go_wp2_with fail
    refine HV.out.mono ?_
    rintro x w2 ⟨rfl, rfl⟩
    go_wp2_with fail
    go_ret2
    exact ⟨_, two_back rfl (by rw [HE.out]), by rw [HE.out]; exact Grew.nil w⟩
  | true =>
    rw [hv] at HV
    have h4 := (SM.valid_iff.1 hv).1
    by_cases hl4 : l.length = 4
    · have HE := Lib.hid (ext_long (n := n) hv hl4)
      rw [hl4] at HV hl ⊢
      clear hv hl4 h4
      go_enter Tryd.func11, Tryd.ntmps11
      go_wp2_with fail
      refine HV.out.mono ?_
      rintro x w2 ⟨rfl, rfl⟩
      go_wp2_with fail
      go_ret2
      exact ⟨_, two_back rfl (by rw [HE.out]), by rw [HE.out]; exact Grew.nil w⟩
    · have hd : ((l.length : Int) == 4) = false := by
        have : ¬ (l.length : Int) = 4 := by omega
        simpa using this
      cases hk : SM.count n with
      | false =>
        have HE := Lib.hid (ext_count hv hl4 hk)
        have HK := Lib.hid (fun w => count_of hk w)
        clear hv hk hl4
        go_enter Tryd.func11, Tryd.ntmps11
        go_wp2_with fail
        refine HV.out.mono ?_
        rintro x w2 ⟨rfl, rfl⟩
        go_wp2_with fail
        refine (HK.out _).mono ?_
        rintro x w2 ⟨rfl, rfl⟩
        go_wp2_with fail
        go_ret2
        exact ⟨_, two_back rfl (by rw [HE.out]), by rw [HE.out]; exact Grew.nil w⟩
      | true =>
        have HE := Lib.hid (ext_more hv hl4 hk)
        have HK := Lib.hid (fun w => count_of hk w)
        clear hv hk hl4
        go_enter Tryd.func11, Tryd.ntmps11
        go_wp2_with fail
        refine HV.out.mono ?_
        rintro x w2 ⟨rfl, rfl⟩
        go_wp2_with fail
        refine (HK.out _).mono ?_
        rintro x w2 ⟨rfl, rfl⟩
        go_wp2_with fail
        refine (Clone_any A c l w HA.out (by omega)).mono ?_
        rintro x w3 ⟨v, rfl, hG⟩
        have HG := Lib.hid hG; clear hG
        go_wp2_with (at_builtin; refine app_one rfl (.tmp 19) (.tmp 21) rfl _ _ HG.out rfl n rfl (by omega) ?_; intro v2 w2 hg2; have HG2 := Lib.hid hg2; clear hg2)
        go_ret2
        exact ⟨v2, two_back rfl (by rw [HE.out]), by rw [HE.out]; exact HG2.out⟩
set_option maxHeartbeats 2000000 in
theorem Next_any (A : Option Addr) (c : Nat) (l : List Int) (w : World) (hA : IntsAt w A l) (hl : l.length ≤ c) (hc : c ≤ 9223372036854775807) :
    Calls Tryd.prog 12 #[.slice A l.length c] w fun e w' => ∃ v, e = .returned (.tuple #[v, .int .i64 (SM.next l).2]) ∧ Grew w (SM.next l).1 v w' := by
  have HA := Lib.hid hA
  have HV := Lib.hid (Valid_any A c l w hA hl hc)
  cases hv : SM.valid l with
  | false =>
    have HE := Lib.hid (show SM.next l = ([], 13) from if_pos (.inl hv))
    rw [hv] at HV
    clear hv hA
    go_enter Tryd.func12, Tryd.ntmps12
    go_wp2_with fail
    refine HV.out.mono ?_
    rintro x w2 ⟨rfl, rfl⟩
    go_wp2_with fail
    go_ret2
    exact ⟨_, two_back rfl (by rw [HE.out]), by rw [HE.out]; exact Grew.nil w⟩
  | true =>
    rw [hv] at HV
    have h4 := (SM.valid_iff.1 hv).1
    have hcnt := (SM.valid_iff.1 hv).2
    cases hn : l.length with
    | zero =>
      have HE := Lib.hid (next_nil hn)
      rw [hn] at HV
      clear hv hA hn
      go_enter Tryd.func12, Tryd.ntmps12
      go_wp2_with fail
      refine HV.out.mono ?_
      rintro x w2 ⟨rfl, rfl⟩
      go_wp2_with fail
      go_ret2
      exact ⟨_, two_back rfl (by rw [HE.out]), by rw [HE.out]; exact Grew.nil w⟩
    | succ k =>
      have hk : k < l.length := by omega
      have hx := hcnt l[k] (List.getElem_mem hk)
      obtain ⟨b, o, eA, _, hca⟩ := hA (by omega)
      have ca := hca k l[k] (List.getElem?_eq_getElem hk)
      have hkx : l[k]? = some l[k] := List.getElem?_eq_getElem hk
      have HX := Lib.hid (show (i64s l)[k]? = some (.int .i64 l[k]) by unfold i64s; rw [List.getElem?_map, List.getElem?_eq_getElem hk]; rfl)
      subst eA
      have HC := Lib.hid (Clone_any (some ⟨b, o, none⟩) c l w hA (by omega))
      rw [hn] at HV HC
      have hlc : k + 1 ≤ c := by omega
      clear hca hA hcnt
      generalize l[k] = x at ca hx hkx HX
      by_cases ht : x = 1099511627776
      · subst ht
        have HE := Lib.hid (next_top hv hn hkx)
        clear hv hn hx hl h4 hk hkx
        go_enter Tryd.func12, Tryd.ntmps12
        go_wp2_with fail
        refine HV.out.mono ?_
        rintro x w2 ⟨rfl, rfl⟩
        go_wp2_with fail
        go_ret2
        exact ⟨_, two_back rfl (by rw [HE.out]), by rw [HE.out]; exact Grew.nil w⟩
      · have HE := Lib.hid (next_ok hv hn hkx ht)
        have hd : (x == 1099511627776) = false := by simpa using ht
        have HN := Lib.hid hn
        clear hv hn ht hl h4 hk hkx
        go_enter Tryd.func12, Tryd.ntmps12
        go_wp2_with fail
        refine HV.out.mono ?_
        rintro z w2 ⟨rfl, rfl⟩
        go_wp2_with fail
        refine HC.out.mono ?_
        rintro z w3 ⟨v, rfl, hG⟩
        have hG1 := hG.1
        obtain ⟨g, cap, hv, hg, hgl⟩ := hG1.form (by rw [HN.out]; omega)
        subst hv
        have hcell : w3.cell? ⟨g, k, none⟩ = some (.int .i64 x) := (hG1.cellAt k (by rw [HN.out]; omega)).trans HX.out
        have hfr : w3.frozen? ⟨g, k, none⟩ = false := hG1.frozenAt k
        have HG := Lib.hid (hG.set (k := k) (x + 1) hg)
        clear hG hG1
        rw [HN.out] at HG
        rw [HN.out]
        go_wp2_with fail
        go_ret2
        exact ⟨_, two_back rfl (by rw [HE.out]), by rw [HE.out]; exact HG.out⟩
end
end Go.Proofs.YthhkgdknmehaoaaDoor
