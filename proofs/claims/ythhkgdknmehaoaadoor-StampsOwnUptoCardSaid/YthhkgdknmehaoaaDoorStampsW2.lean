/- The document's own answers of layer 4 on lists: is it a stamp, which one is the earlier, what is under what, a copy, the later one. -/
import Derived.Test.YthhkgdknmehaoaaDoorStampsW1
namespace Go.Proofs.YthhkgdknmehaoaaDoor
open Go.RowKit
set_option linter.unusedVariables false
theorem take_all {l : List Int} {k : Nat} (h : (l.take k).all SM.count = true) (hk : k < l.length) (hc : SM.count l[k] = true) : (l.take (k + 1)).all SM.count = true := by
  rw [List.take_add_one, List.getElem?_eq_getElem hk, List.all_append, h]
  show (true && (SM.count l[k] && true)) = true
  rw [hc]; rfl
theorem valid_end {l : List Int} {k : Nat} (h : (l.take k).all SM.count = true) (hk : ¬ k < l.length) (h4 : ¬ 4 < l.length) : true = SM.valid l := by
  rw [List.take_of_length_le (by omega)] at h
  unfold SM.valid
  rw [h, decide_eq_true (show l.length ≤ 4 by omega)]; rfl
theorem valid_bad {l : List Int} {k : Nat} (hk : k < l.length) (hc : SM.count l[k] = false) : false = SM.valid l := by
  unfold SM.valid
  have h : l.all SM.count = false := by
    rw [List.all_eq_false]
    exact ⟨l[k], List.getElem_mem hk, by rw [hc]; decide⟩
  rw [h, Bool.and_false]
theorem valid_long {l : List Int} (h : 4 < l.length) : false = SM.valid l := by
  unfold SM.valid
  rw [decide_eq_false (show ¬ l.length ≤ 4 by omega), Bool.false_and]
set_option maxHeartbeats 1000000 in
theorem RefValid_any (A : Option Addr) (c : Nat) (l : List Int) (w : World) (hA : IntsAt w A l) (hl : l.length ≤ c) (hc : c ≤ 9223372036854775807) :
    Calls Tryd.prog 16 #[.slice A l.length c] w fun e w' => e = .returned (.bool (SM.valid l)) ∧ w = w' := by
  have HA := Lib.hid hA; clear hA
  by_cases h4 : 4 < l.length
  · have HF := Lib.hid (valid_long h4)
    go_enter Tryd.func16, Tryd.ntmps16
    go_wp2_with fail
    go_ret
    exact ⟨ret_bool HF.out, rfl⟩
  · go_enter Tryd.func16, Tryd.ntmps16
    go_wp2_with fail
    go_loop [3] (fun i => ∃ k : Nat, i = .int .i64 (k : Int) ∧ k ≤ l.length ∧ Hid ((l.take k).all SM.count = true)) (fun i => l.length - (intOf i).toNat)
    case atStart => exact ⟨0, rfl, by omega, Lib.hid (by rw [List.take_zero]; rfl)⟩
    case round =>
      obtain ⟨k, rfl, hk, HT⟩ := hrel
      by_cases hlt : k < l.length
      · obtain ⟨b, o, eA, _, hca⟩ := HA.out (by omega)
        subst eA
        have ca := hca k l[k] (List.getElem?_eq_getElem hlt)
        clear hca
        cases hcount : SM.count l[k] with
        | true =>
          have HS := Lib.hid (take_all HT.out hlt hcount)
          obtain ⟨r1, r2⟩ := SM.count_iff.1 hcount
          clear hcount
          generalize l[k] = x at ca r1 r2
          go_wp2_with fail
          go_round
          case rel => exact ⟨k + 1, rfl, by omega, HS⟩
          case measure => simp only [intOf]; omega
        | false =>
          have HF := Lib.hid (valid_bad hlt hcount)
          have hor : l[k] < 1 ∨ 1099511627776 < l[k] := by
            refine Decidable.byContradiction fun hn => ?_
            rw [SM.count_iff.2 (by omega)] at hcount
            cases hcount
          clear hcount
          generalize l[k] = x at ca hor
          rcases hor with h1 | h1
          all_goals
            go_wp2_with fail
            all_goals
              go_ret
              exact ⟨ret_bool HF.out, rfl⟩
      · have HF := Lib.hid (valid_end HT.out hlt h4)
        go_wp2_with fail
        go_ret
        exact ⟨ret_bool HF.out, rfl⟩
theorem cmp_step {a b : List Int} {k : Nat} {n : Int} (h : SM.cmp (a.drop k) (b.drop k) = n) (ha : k < a.length) (hb : k < b.length) : (if a[k] < b[k] then -1 else if b[k] < a[k] then 1 else SM.cmp (a.drop (k + 1)) (b.drop (k + 1))) = n := by
  rw [List.drop_eq_getElem_cons ha, List.drop_eq_getElem_cons hb, SM.cmp_cons] at h
  exact h
theorem cmp_end {a b : List Int} {k : Nat} {n : Int} (h : SM.cmp (a.drop k) (b.drop k) = n) (hk : k ≤ a.length) (hk2 : k ≤ b.length) (he : ¬ (k < a.length ∧ k < b.length)) : n = if a.length < b.length then -1 else if b.length < a.length then 1 else 0 := by
  rw [← h]
  by_cases h1 : k < a.length
  · rw [List.drop_of_length_le (show b.length ≤ k by omega), SM.cmp_nil_right, if_neg (by rw [List.drop_eq_nil_iff]; omega), if_neg (by omega), if_pos (by omega)]
  · rw [List.drop_of_length_le (show a.length ≤ k by omega), SM.cmp_nil_left]
    by_cases h2 : k < b.length
    · rw [if_neg (by rw [List.drop_eq_nil_iff]; omega), if_pos (by omega)]
    · rw [if_pos (by rw [List.drop_eq_nil_iff]; omega), if_neg (by omega), if_neg (by omega)]
set_option maxHeartbeats 2000000 in
theorem RefCompare_any (A B : Option Addr) (c d : Nat) (a b : List Int) (w : World) (hA : IntsAt w A a) (hB : IntsAt w B b) (ha : a.length ≤ c) (hb : b.length ≤ d) (hc : c ≤ 9223372036854775807) (hd : d ≤ 9223372036854775807) :
    Calls Tryd.prog 18 #[.slice A a.length c, .slice B b.length d] w fun e w' => e = .returned (.int .i64 (SM.cmp a b)) ∧ Below w.heap.size w w' := by
  have HA := Lib.hid hA; clear hA
  have HB := Lib.hid hB; clear hB
  obtain ⟨n, hn⟩ : ∃ n, SM.cmp a b = n := ⟨_, rfl⟩
  rw [hn]
  have HN := Lib.hid hn; clear hn
  generalize hla : a.length = la at *
  generalize hlb : b.length = lb at *
  have HLA := Lib.hid hla; clear hla
  have HLB := Lib.hid hlb; clear hlb
  go_enter Tryd.func18, Tryd.ntmps18
  go_wp2_with fail
  go_loopw [5] (fun i wx => ∃ k : Nat, i = .int .i64 (k : Int) ∧ k ≤ la ∧ k ≤ lb ∧ Below w.heap.size w wx ∧ Hid (SM.cmp (a.drop k) (b.drop k) = n)) (fun i _ => la - (intOf i).toNat)
  case atStart => exact ⟨0, rfl, by omega, by omega, Below.refl _ _, HN⟩
  case round =>
    obtain ⟨k, rfl, hk, hk2, hW, HT⟩ := hrel
    have HW := Lib.hid hW; clear hW
    by_cases hlt : k < la ∧ k < lb
    · obtain ⟨h1, h2⟩ := hlt
      have g1 : k < a.length := by rw [HLA.out]; exact h1
      have g2 : k < b.length := by rw [HLB.out]; exact h2
      have HC := Lib.hid (cmp_step HT.out g1 g2)
      obtain ⟨ba, oa, eA, _, hca⟩ := (HA.out.below HW.out) (by omega)
      obtain ⟨bb, ob, eB, _, hcb⟩ := (HB.out.below HW.out) (by omega)
      subst eA
      subst eB
      have ca := hca k a[k] (List.getElem?_eq_getElem g1)
      have cb := hcb k b[k] (List.getElem?_eq_getElem g2)
      have ca2 : wr.drew.cell? ⟨ba, oa + k, none⟩ = some (.int .i64 a[k]) := ca
      have cb2 : wr.drew.cell? ⟨bb, ob + k, none⟩ = some (.int .i64 b[k]) := cb
      clear hca hcb
      generalize a[k] = x at ca cb ca2 cb2 HC
      generalize b[k] = y at ca cb ca2 cb2 HC
      clear g1 g2
      by_cases hxy : x < y
      · have HE := Lib.hid (show (-1 : Int) = n by have := HC.out; rw [if_pos hxy] at this; exact this)
        go_wp2_with fail
        go_region
        all_goals
          go_wp2
          go_ret
          exact ⟨ret_int HE.out, HW.out.drew⟩
      · by_cases hyx : y < x
        · have HE := Lib.hid (show (1 : Int) = n by have := HC.out; rw [if_neg hxy, if_pos hyx] at this; exact this)
          go_wp2_with fail
          go_region
          all_goals
            go_wp2
            go_region
            all_goals
              go_wp2
              go_ret
              exact ⟨ret_int HE.out, HW.out.drew.drew⟩
        · have HE := Lib.hid (show SM.cmp (a.drop (k + 1)) (b.drop (k + 1)) = n by have := HC.out; rw [if_neg hxy, if_neg hyx] at this; exact this)
          go_wp2_with fail
          go_region
          all_goals
            go_wp2
            go_region
            all_goals
              go_wp2
              go_roundw
              case rel => exact ⟨k + 1, rfl, by omega, by omega, HW.out.drew.drew, HE⟩
              case measure => simp only [intOf]; omega
    · have HE := Lib.hid (show n = if la < lb then -1 else if lb < la then 1 else 0 by rw [← HLA.out, ← HLB.out]; exact cmp_end HT.out (by rw [HLA.out]; exact hk) (by rw [HLB.out]; exact hk2) (by rw [HLA.out, HLB.out]; exact hlt))
      have hor : ¬ k < la ∨ (k < la ∧ ¬ k < lb) := by omega
      clear hlt
      rcases hor with h1 | ⟨h1, h2⟩
      all_goals
        go_wp2_with fail
        all_goals
          go_ret
          exact ⟨ret_int (by rw [HE.out]; (repeat' split) <;> omega), HW.out⟩
theorem under_of {a b : List Int} (h : ¬ b.length < a.length) : (SM.cmp a (b.take a.length) == 0) = SM.under a b := by
  rw [Bool.eq_iff_iff, beq_iff_eq, SM.cmp_zero_iff, SM.under_iff, List.prefix_iff_eq_take]
theorem under_long {a b : List Int} (h : b.length < a.length) : false = SM.under a b := by
  refine (decide_eq_false fun hp => ?_).symm
  have := hp.length_le
  omega
set_option maxHeartbeats 1000000 in
theorem RefUnder_any (A B : Option Addr) (c d : Nat) (a b : List Int) (w : World) (hA : IntsAt w A a) (hB : IntsAt w B b) (ha : a.length ≤ c) (hb : b.length ≤ d) (hc : c ≤ 9223372036854775807) (hd : d ≤ 9223372036854775807) :
    Calls Tryd.prog 20 #[.slice A a.length c, .slice B b.length d] w fun e w' => e = .returned (.bool (SM.under a b)) ∧ Below w.heap.size w w' := by
  by_cases h : b.length < a.length
  · have HF := Lib.hid (under_long h)
    go_enter Tryd.func20, Tryd.ntmps20
    go_wp2_with fail
    go_ret
    exact ⟨ret_bool HF.out, Below.refl _ _⟩
  · have HE := Lib.hid (under_of h)
    have ht : (b.take a.length).length = a.length := by rw [List.length_take]; omega
    have HC := Lib.hid (RefCompare_any A B c d a (b.take a.length) w hA (hB.take _) ha (by omega) hc hd)
    rw [ht] at HC
    clear hA hB ht
    generalize SM.cmp a (b.take a.length) = n at *
    generalize SM.under a b = p at *
    go_enter Tryd.func20, Tryd.ntmps20
    go_wp2_with fail
    refine HC.out.mono ?_
    rintro x w2 ⟨rfl, hb⟩
    have HB := Lib.hid hb; clear hb
    go_wp2_with fail
    go_ret
    exact ⟨ret_bool HE.out, HB.out⟩
/-- What a call has grown behind another one. -/
theorem Grew.later {w w1 w2 : World} {xs : List Int} {v : Value} (h : Below w.heap.size w w1) (g : Grew w1 xs v w2) : Grew w xs v w2 := by
  refine ⟨⟨g.1.1, ?_⟩, below_on h g.2⟩
  rcases g.1.2 with h0 | ⟨b, cap, cur, e, hb, hh, hr⟩
  · exact .inl h0
  · exact .inr ⟨b, cap, cur, e, Nat.le_trans h.size hb, hh, hr⟩
set_option maxHeartbeats 1000000 in
theorem RefCopy_any (A : Option Addr) (c : Nat) (l : List Int) (w : World) (hA : IntsAt w A l) (hl : l.length ≤ c) (hc : c ≤ 9223372036854775807) (h8 : l.length * 8 ≤ 140737488355328) :
    Calls Tryd.prog 33 #[.slice A l.length c] w fun e w' => ∃ v, e = .returned v ∧ Grew w l v w' := by
  have HA := Lib.hid hA; clear hA
  go_enter Tryd.func33, Tryd.ntmps33
  go_wp2_with fail
  go_loopw [3, 4] (fun v i wx => ∃ k : Nat, i = .int .i64 (k : Int) ∧ k ≤ l.length ∧ Grew w (l.take k) v wx) (fun _ i _ => l.length - (intOf i).toNat)
  case atStart => exact ⟨0, rfl, by omega, by rw [List.take_zero]; exact Grew.nil w⟩
  case round =>
    obtain ⟨k, rfl, hk, hG⟩ := hrel
    have HG := Lib.hid hG; clear hG
    by_cases hlt : k < l.length
    · obtain ⟨b, o, eA, _, hca⟩ := (HA.out.below HG.out.2) (by omega)
      subst eA
      have ca := hca k l[k] (List.getElem?_eq_getElem hlt)
      clear hca
      have HS := Lib.hid (show l.take (k + 1) = l.take k ++ [l[k]] by rw [List.take_add_one, List.getElem?_eq_getElem hlt]; rfl)
      have hl9 : ((l.take k).length + 1) * 8 ≤ 140737488355328 := by rw [List.length_take]; omega
      generalize l[k] = x at ca HS
      go_wp2_with (at_builtin; refine app_one rfl (.tmp 11) (.tmp 16) rfl _ _ HG.out rfl x rfl hl9 ?_; intro v2 w2 hg2; have HG2 := Lib.hid hg2; clear hg2)
      go_roundw
      case rel => exact ⟨k + 1, rfl, by omega, by rw [HS.out]; exact HG2.out⟩
      case measure => simp only [intOf]; omega
    · have HE := Lib.hid (show l.take k = l from List.take_of_length_le (by omega))
      go_wp2_with fail
      go_ret
      exact ⟨_, rfl, by have := HG.out; rwa [HE.out] at this⟩
end Go.Proofs.YthhkgdknmehaoaaDoor
