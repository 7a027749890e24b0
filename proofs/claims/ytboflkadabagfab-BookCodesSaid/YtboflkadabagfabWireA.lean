/- Texts that belong together: StampsW1, StampsW2, WireSt, WireB. -/
import Derived.Test.YtboflkadabagfabInts
import Derived.Test.YtboflkadabagfabMathA
namespace Go.Proofs.Ytboflkadabagfab.St
open Go.RowKit
set_option linter.unusedVariables false
theorem take_same {a b : List Int} {k : Nat} (h : a.take k = b.take k) (ha : k < a.length) (hb : k < b.length) (he : a[k] = b[k]) : a.take (k + 1) = b.take (k + 1) := by
  rw [List.take_add_one, List.take_add_one, h, List.getElem?_eq_getElem ha, List.getElem?_eq_getElem hb, he]
theorem take_not {a b : List Int} {k : Nat} (ha : k < a.length) (hb : k < b.length) (he : a[k] ≠ b[k]) : a ≠ b := by
  intro e
  subst e
  exact he rfl
end Go.Proofs.Ytboflkadabagfab.St
namespace Go.Proofs.Ytboflkadabagfab.St
open Go.RowKit
set_option linter.unusedVariables false
theorem take_all {l : List Int} {k : Nat} (h : (l.take k).all SM.count = true) (hk : k < l.length) (hc : SM.count l[k] = true) : (l.take (k + 1)).all SM.count = true := by
  rw [List.take_add_one, List.getElem?_eq_getElem hk, List.all_append, h]
  show (true && (SM.count l[k] && true)) = true
  rw [hc]; rfl
theorem valid_end {l : List Int} {k : Nat} (h : (l.take k).all SM.count = true) (hk : ¬ k < l.length) (h4 : ¬ 4 < l.length) : true = SM.valid l := by
  rw [List.take_of_length_le (by omega)] at h
  unfold SM.valid
  rw [h, decide_eq_true (show l.length ≤ 4 by omega)]; rfl
theorem valid_bad {l : List Int} {k : Nat} (hk : k < l.length) (hc : SM.count l[k] = false) : false = SM.valid l := by
  unfold SM.valid
  have h : l.all SM.count = false := by
    rw [List.all_eq_false]
    exact ⟨l[k], List.getElem_mem hk, by rw [hc]; decide⟩
  rw [h, Bool.and_false]
theorem valid_long {l : List Int} (h : 4 < l.length) : false = SM.valid l := by
  unfold SM.valid
  rw [decide_eq_false (show ¬ l.length ≤ 4 by omega), Bool.false_and]
set_option maxHeartbeats 1000000 in
theorem RefValid_any (A : Option Addr) (c : Nat) (l : List Int) (w : World) (hA : IntsAt w A l) (hl : l.length ≤ c) (hc : c ≤ 9223372036854775807) :
    Calls Try.prog 52 #[.slice A l.length c] w fun e w' => e = .returned (.bool (SM.valid l)) ∧ w = w' := by
  have HA := Lib.hid hA; clear hA
  by_cases h4 : 4 < l.length
  · have HF := Lib.hid (valid_long h4)
    go_enter Try.func52, Try.ntmps52
    go_wp2_with fail
    go_ret
    exact ⟨ret_bool HF.out, rfl⟩
  · go_enter Try.func52, Try.ntmps52
    go_wp2_with fail
    go_loop [3] (fun i => ∃ k : Nat, i = .int .i64 (k : Int) ∧ k ≤ l.length ∧ Hid ((l.take k).all SM.count = true)) (fun i => l.length - (intOf i).toNat)
    case atStart => exact ⟨0, rfl, by omega, Lib.hid (by rw [List.take_zero]; rfl)⟩
    case round =>
      obtain ⟨k, rfl, hk, HT⟩ := hrel
      by_cases hlt : k < l.length
      · obtain ⟨b, o, eA, _, hca⟩ := HA.out (by omega)
        subst eA
        have ca := hca k l[k] (List.getElem?_eq_getElem hlt)
        clear hca
        cases hcount : SM.count l[k] with
        | true =>
          have HS := Lib.hid (take_all HT.out hlt hcount)
          obtain ⟨r1, r2⟩ := SM.count_iff.1 hcount
          clear hcount
          generalize l[k] = x at ca r1 r2
          go_wp2_with fail
          go_round
          case rel => exact ⟨k + 1, rfl, by omega, HS⟩
          case measure => simp only [intOf]; omega
        | false =>
          have HF := Lib.hid (valid_bad hlt hcount)
          have hor : l[k] < 1 ∨ 1099511627776 < l[k] := by
            refine Decidable.byContradiction fun hn => ?_
            rw [SM.count_iff.2 (by omega)] at hcount
            cases hcount
          clear hcount
          generalize l[k] = x at ca hor
          rcases hor with h1 | h1
          all_goals
            go_wp2_with fail
            all_goals
              go_ret
              exact ⟨ret_bool HF.out, rfl⟩
      · have HF := Lib.hid (valid_end HT.out hlt h4)
        go_wp2_with fail
        go_ret
        exact ⟨ret_bool HF.out, rfl⟩
theorem cmp_step {a b : List Int} {k : Nat} {n : Int} (h : SM.cmp (a.drop k) (b.drop k) = n) (ha : k < a.length) (hb : k < b.length) : (if a[k] < b[k] then -1 else if b[k] < a[k] then 1 else SM.cmp (a.drop (k + 1)) (b.drop (k + 1))) = n := by
  rw [List.drop_eq_getElem_cons ha, List.drop_eq_getElem_cons hb, SM.cmp_cons] at h
  exact h
theorem cmp_end {a b : List Int} {k : Nat} {n : Int} (h : SM.cmp (a.drop k) (b.drop k) = n) (hk : k ≤ a.length) (hk2 : k ≤ b.length) (he : ¬ (k < a.length ∧ k < b.length)) : n = if a.length < b.length then -1 else if b.length < a.length then 1 else 0 := by
  rw [← h]
  by_cases h1 : k < a.length
  · rw [List.drop_of_length_le (show b.length ≤ k by omega), SM.cmp_nil_right, if_neg (by rw [List.drop_eq_nil_iff]; omega), if_neg (by omega), if_pos (by omega)]
  · rw [List.drop_of_length_le (show a.length ≤ k by omega), SM.cmp_nil_left]
    by_cases h2 : k < b.length
    · rw [if_neg (by rw [List.drop_eq_nil_iff]; omega), if_pos (by omega)]
    · rw [if_pos (by rw [List.drop_eq_nil_iff]; omega), if_neg (by omega), if_neg (by omega)]
theorem under_of {a b : List Int} (h : ¬ b.length < a.length) : (SM.cmp a (b.take a.length) == 0) = SM.under a b := by
  rw [Bool.eq_iff_iff, beq_iff_eq, SM.cmp_zero_iff, SM.under_iff, List.prefix_iff_eq_take]
theorem under_long {a b : List Int} (h : b.length < a.length) : false = SM.under a b := by
  refine (decide_eq_false fun hp => ?_).symm
  have := hp.length_le
  omega
/-- What a call has grown behind another one. -/
theorem Grew.later {w w1 w2 : World} {xs : List Int} {v : Value} (h : Below w.heap.size w w1) (g : Grew w1 xs v w2) : Grew w xs v w2 := by
  refine ⟨⟨g.1.1, ?_⟩, below_on h g.2⟩
  rcases g.1.2 with h0 | ⟨b, cap, cur, e, hb, hh, hr⟩
  · exact .inl h0
  · exact .inr ⟨b, cap, cur, e, Nat.le_trans h.size hb, hh, hr⟩
set_option maxHeartbeats 1000000 in
theorem RefCopy_any (A : Option Addr) (c : Nat) (l : List Int) (w : World) (hA : IntsAt w A l) (hl : l.length ≤ c) (hc : c ≤ 9223372036854775807) (h8 : l.length * 8 ≤ 140737488355328) :
    Calls Try.prog 46 #[.slice A l.length c] w fun e w' => ∃ v, e = .returned v ∧ Grew w l v w' := by
  have HA := Lib.hid hA; clear hA
  go_enter Try.func46, Try.ntmps46
  go_wp2_with fail
  go_loopw [3, 4] (fun v i wx => ∃ k : Nat, i = .int .i64 (k : Int) ∧ k ≤ l.length ∧ Grew w (l.take k) v wx) (fun _ i _ => l.length - (intOf i).toNat)
  case atStart => exact ⟨0, rfl, by omega, by rw [List.take_zero]; exact Grew.nil w⟩
  case round =>
    obtain ⟨k, rfl, hk, hG⟩ := hrel
    have HG := Lib.hid hG; clear hG
    by_cases hlt : k < l.length
    · obtain ⟨b, o, eA, _, hca⟩ := (HA.out.below HG.out.2) (by omega)
      subst eA
      have ca := hca k l[k] (List.getElem?_eq_getElem hlt)
      clear hca
      have HS := Lib.hid (show l.take (k + 1) = l.take k ++ [l[k]] by rw [List.take_add_one, List.getElem?_eq_getElem hlt]; rfl)
      have hl9 : ((l.take k).length + 1) * 8 ≤ 140737488355328 := by rw [List.length_take]; omega
      generalize l[k] = x at ca HS
      go_wp2_with (at_builtin; refine app_one rfl (.tmp 11) (.tmp 16) rfl _ _ HG.out rfl x rfl hl9 ?_; intro v2 w2 hg2; have HG2 := Lib.hid hg2; clear hg2)
      go_roundw
      case rel => exact ⟨k + 1, rfl, by omega, by rw [HS.out]; exact HG2.out⟩
      case measure => simp only [intOf]; omega
    · have HE := Lib.hid (show l.take k = l from List.take_of_length_le (by omega))
      go_wp2_with fail
      go_ret
      exact ⟨_, rfl, by have := HG.out; rwa [HE.out] at this⟩
end Go.Proofs.Ytboflkadabagfab.St
namespace Go.Proofs.Ytboflkadabagfab.St
open Go.RowKit
set_option linter.unusedVariables false
set_option maxRecDepth 100000
theorem isCounter_any (x : Int) (w : World) : Calls Try.prog 98 #[.int .i64 x] w fun e w' => e = .returned (.bool (SM.count x)) ∧ w = w' := by
  have HE := Lib.hid (show SM.count x = (decide (1 ≤ x) && decide (x ≤ 1099511627776)) from rfl)
  by_cases h : 1 ≤ x
  · by_cases h2 : x ≤ 1099511627776
    · go_enter Try.func98, Try.ntmps98
      go_wp2_with fail
      go_ret
      exact ⟨ret_bool (by rw [HE.out, decide_eq_true h, decide_eq_true h2]; first | rfl | simp [*]), rfl⟩
    · go_enter Try.func98, Try.ntmps98
      go_wp2_with fail
      go_ret
      exact ⟨ret_bool (by rw [HE.out, decide_eq_false (show ¬ x ≤ 1099511627776 by omega), Bool.and_false]), rfl⟩
  · go_enter Try.func98, Try.ntmps98
    go_wp2_with fail
    go_ret
    exact ⟨ret_bool (by rw [HE.out, decide_eq_false (show ¬ 1 ≤ x by omega), Bool.false_and]), rfl⟩
set_option maxHeartbeats 1000000 in
theorem Valid_any (A : Option Addr) (c : Nat) (l : List Int) (w : World) (hA : IntsAt w A l) (hl : l.length ≤ c) (hc : c ≤ 9223372036854775807) :
    Calls Try.prog 92 #[.slice A l.length c] w fun e w' => e = .returned (.bool (SM.valid l)) ∧ w = w' := by
  have HA := Lib.hid hA; clear hA
  by_cases h4 : 4 < l.length
  · have HF := Lib.hid (valid_long h4)
    go_enter Try.func92, Try.ntmps92
    go_wp2_with fail
    go_ret
    exact ⟨ret_bool HF.out, rfl⟩
  · go_enter Try.func92, Try.ntmps92
    go_wp2_with fail
    go_loop [10] (fun i => ∃ k : Nat, i = .int .i64 (k : Int) ∧ k ≤ l.length ∧ Hid ((l.take k).all SM.count = true)) (fun i => l.length - (intOf i).toNat)
    case atStart => exact ⟨0, rfl, by omega, Lib.hid (by rw [List.take_zero]; rfl)⟩
    case round =>
      obtain ⟨k, rfl, hk, HT⟩ := hrel
      by_cases hlt : k < l.length
      · obtain ⟨b, o, eA, _, hca⟩ := HA.out (by omega)
        subst eA
        have ca := hca k l[k] (List.getElem?_eq_getElem hlt)
        clear hca
        have HK := Lib.hid (fun w => isCounter_any l[k] w)
        cases hcount : SM.count l[k] with
        | true =>
          have HS := Lib.hid (take_all HT.out hlt hcount)
          rw [hcount] at HK
          clear hcount
          generalize l[k] = x at ca HK
          go_wp2_with fail
          refine (HK.out _).mono ?_
          rintro e w' ⟨rfl, rfl⟩
          go_wp2_with fail
          go_round
          case rel => exact ⟨k + 1, rfl, by omega, HS⟩
          case measure => simp only [intOf]; omega
        | false =>
          have HF := Lib.hid (valid_bad hlt hcount)
          rw [hcount] at HK
          clear hcount
          generalize l[k] = x at ca HK
          go_wp2_with fail
          refine (HK.out _).mono ?_
          rintro e w' ⟨rfl, rfl⟩
          go_wp2_with fail
          go_ret
          exact ⟨ret_bool HF.out, rfl⟩
      · have HF := Lib.hid (valid_end HT.out hlt h4)
        go_wp2_with fail
        go_ret
        exact ⟨ret_bool HF.out, rfl⟩
end Go.Proofs.Ytboflkadabagfab.St
namespace Go.Proofs.Ytboflkadabagfab
open Go.RowKit
set_option linter.unusedVariables false
set_option maxRecDepth 100000
set_option maxHeartbeats 400000 in
theorem Legal_any (t : Int) (w : World) (ht : -9223372036854775808 ≤ t ∧ t ≤ 9223372036854775807) :
    Calls Try.prog 68 #[.int .i64 t] w fun e w' => e = .returned (.bool (TM.legal t)) ∧ w = w' := by
  go_enter Try.func68, Try.ntmps68
  go_wp2
  all_goals
    go_ret
    exact ⟨ret_bool (by unfold TM.legal; simp; omega), rfl⟩
set_option maxHeartbeats 400000 in
theorem RefLegal_any (t : Int) (w : World) (ht : -9223372036854775808 ≤ t ∧ t ≤ 9223372036854775807) :
    Calls Try.prog 48 #[.int .i64 t] w fun e w' => e = .returned (.bool (TM.legal t)) ∧ w = w' := by
  go_enter Try.func48, Try.ntmps48
  go_wp2
  all_goals
    go_ret
    exact ⟨ret_bool (by unfold TM.legal; simp; omega), rfl⟩
/-- Is it a mode? -/
def okMode (m : Int) : Bool := decide (m = 1) || decide (m = 2)
theorem Mode_any (m : Int) (w : World) : Calls Try.prog 78 #[.int .i64 m] w fun e w' => e = .returned (.bool (okMode m)) ∧ w = w' := by
  have HE := Lib.hid (show okMode m = (decide (m = 1) || decide (m = 2)) from rfl)
  by_cases h1 : m = 1
  · subst h1
    go_enter Try.func78, Try.ntmps78
    go_wp2_with fail
    go_ret
    exact ⟨rfl, rfl⟩
  · have d1 : (m == 1) = false := by simpa using h1
    by_cases h2 : m = 2
    · subst h2
      go_enter Try.func78, Try.ntmps78
      go_wp2_with fail
      go_ret
      exact ⟨rfl, rfl⟩
    · have d2 : (m == 2) = false := by simpa using h2
      have HF := Lib.hid (show okMode m = false by rw [HE.out, decide_eq_false h1, decide_eq_false h2]; rfl)
      clear h1 h2
      go_enter Try.func78, Try.ntmps78
      go_wp2_with fail
      go_ret
      exact ⟨ret_bool HF.out.symm, rfl⟩
theorem take_same {α : Type} {a b : List α} {k : Nat} (h : a.take k = b.take k) (ha : k < a.length) (hb : k < b.length) (he : a[k] = b[k]) : a.take (k + 1) = b.take (k + 1) := by
  rw [List.take_add_one, List.take_add_one, h, List.getElem?_eq_getElem ha, List.getElem?_eq_getElem hb, he]
theorem take_not {α : Type} {a b : List α} {k : Nat} (ha : k < a.length) (hb : k < b.length) (he : a[k] ≠ b[k]) : a ≠ b := by
  intro e
  subst e
  exact he rfl
set_option maxHeartbeats 1000000 in
theorem SameInts_any (A B : Option Addr) (c d : Nat) (a b : List Int) (w : World) (hA : IntsAt w A a) (hB : IntsAt w B b) (ha : a.length ≤ c) (hb : b.length ≤ d) (hc : c ≤ 9223372036854775807) (hd : d ≤ 9223372036854775807) :
    Calls Try.prog 29 #[.slice A a.length c, .slice B b.length d] w fun e w' => e = .returned (.bool (decide (a = b))) ∧ Below w.heap.size w w' := by
  have HA := Lib.hid hA; clear hA
  have HB := Lib.hid hB; clear hB
  by_cases hlen : a.length = b.length
  · go_enter Try.func29, Try.ntmps29
    rw [← hlen]
    go_wp2_with fail
    go_loopw [5] (fun i wx => ∃ k : Nat, i = .int .i64 (k : Int) ∧ k ≤ a.length ∧ Below w.heap.size w wx ∧ Hid (a.take k = b.take k)) (fun i _ => a.length - (intOf i).toNat)
    case atStart => exact ⟨0, rfl, by omega, Below.refl _ _, Lib.hid (by rw [List.take_zero, List.take_zero])⟩
    case round =>
      obtain ⟨k, rfl, hk, hW, HT⟩ := hrel
      have HW := Lib.hid hW; clear hW
      by_cases hlt : k < a.length
      · have hltb : k < b.length := by omega
        obtain ⟨ba, oa, eA, _, hca⟩ := (HA.out.below HW.out) (by omega)
        obtain ⟨bb, ob, eB, _, hcb⟩ := (HB.out.below HW.out) (by omega)
        subst eA
        subst eB
        have ca := hca k a[k] (List.getElem?_eq_getElem hlt)
        have cb := hcb k b[k] (List.getElem?_eq_getElem hltb)
        clear hca hcb
        by_cases he : a[k] = b[k]
        · have HS := Lib.hid (take_same HT.out hlt hltb he)
          rw [← he] at cb
          clear he
          generalize a[k] = x at ca cb
          go_wp2_with fail
          go_region
          all_goals
            go_wp2
            go_roundw
            case rel => exact ⟨k + 1, rfl, by omega, HW.out.drew, HS⟩
            case measure => simp only [intOf]; omega
        · have HN := Lib.hid (take_not hlt hltb he)
          have hd2 : (a[k] == b[k]) = false := by simpa using he
          clear he
          generalize a[k] = x at ca hd2
          generalize b[k] = y at cb hd2
          go_wp2_with fail
          go_region
          all_goals
            go_wp2
            go_ret
            exact ⟨ret_bool (decide_eq_false HN.out).symm, HW.out.drew⟩
      · have HE := Lib.hid (show a = b by have := HT.out; rwa [List.take_of_length_le (by omega), List.take_of_length_le (by omega)] at this)
        go_wp2_with fail
        go_ret
        exact ⟨ret_bool (decide_eq_true HE.out).symm, HW.out⟩
  · go_enter Try.func29, Try.ntmps29
    go_wp2_with fail
    go_ret
    exact ⟨ret_bool (decide_eq_false (fun e => hlen (by rw [e]))).symm, Below.refl _ _⟩
end Go.Proofs.Ytboflkadabagfab
