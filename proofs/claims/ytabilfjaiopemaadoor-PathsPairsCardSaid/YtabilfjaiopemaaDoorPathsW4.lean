/- The rest of the document's own answers on paths (package subletref01), and the statements' helper that holds two lists against each other. -/
import Derived.Test.YtabilfjaiopemaaDoorPathsW3
namespace Go.Proofs.YtabilfjaiopemaaDoor
open Go.RowKit
open PM (str)

theorem below_drewN {B : Nat} {a w : World} (h : Below B a w) (n : Nat) : Below B a (w.drewN n) := ⟨h.os, h.tape, h.output, h.size, h.block⟩

section
variable (s : ByteArray) (w : World) (hs : s.size ≤ 140737488351232)
include hs
set_option maxHeartbeats 400000 in
theorem RValid_any : Calls Tryd.prog 16 #[.string s] w fun e w' => e = .returned (.bool (PM.okB s.data.toList)) ∧ Below w.heap.size w w' := by
  go_enter Tryd.func16, Tryd.ntmps16
  go_wp2_with fail
  refine (RSplit_any _ _ hs).mono ?_
  rintro e w' ⟨⟨ho, A, c, rfl, hS⟩ | ⟨ho, rfl⟩, hb⟩
  all_goals
    have HO := Lib.hid ho; clear ho
    go_wp2
    go_ret
    exact ⟨ret_bool HO.out.symm, hb⟩
set_option maxHeartbeats 400000 in
theorem RDepth_any : Calls Tryd.prog 18 #[.string s] w fun e w' => e = .returned (.int .i64 (PM.depthI s.data.toList)) ∧ Below w.heap.size w w' := by
  go_enter Tryd.func18, Tryd.ntmps18
  go_wp2_with fail
  refine (RSplit_any _ _ hs).mono ?_
  rintro e w' ⟨⟨ho, A, c, rfl, hS⟩ | ⟨ho, rfl⟩, hb⟩
  all_goals
    have HO := Lib.hid ho; clear ho
    go_wp2
    go_ret
    exact ⟨ret_int (by unfold PM.depthI; rw [HO.out]; rfl), hb⟩
end

/-! ### same -/
set_option maxHeartbeats 800000 in
theorem same_some (b o c b' o' c' n : Nat) (xs ys : List (List UInt8)) (w : World) (hx : xs.length = n) (hy : ys.length = n) (hb : b < w.heap.size) (hb' : b' < w.heap.size)
    (hcx : ∀ j x, xs[j]? = some x → w.cell? ⟨b, o + j, none⟩ = some (str x)) (hcy : ∀ j x, ys[j]? = some x → w.cell? ⟨b', o' + j, none⟩ = some (str x)) (hn : n ≤ 9223372036854775807) :
    Calls Tryd.prog 15 #[.slice (some ⟨b, o, none⟩) n c, .slice (some ⟨b', o', none⟩) n c'] w fun e w' => e = .returned (.bool (decide (xs = ys))) ∧ Below w.heap.size w w' := by
  have HX := Lib.hid hx; have HY := Lib.hid hy; have HCX := Lib.hid hcx; have HCY := Lib.hid hcy
  clear hx hy hcx hcy
  go_enter Tryd.func15, Tryd.ntmps15
  go_wp2
  go_loopw [13] (fun i wr => ∃ k : Nat, k ≤ n ∧ i = .int .i64 k ∧ Hid (xs.take k = ys.take k) ∧ Below w.heap.size w wr) (fun i _ => n - (intOf i).toNat)
  case atStart => exact ⟨0, Nat.zero_le _, rfl, Lib.hid (by simp), Below.refl _ _⟩
  case round =>
    obtain ⟨k, hk, rfl, HE, hbel⟩ := hrel
    by_cases hlt : k < n
    · obtain ⟨x, hxk⟩ : ∃ x, xs[k]? = some x := ⟨xs[k]'(by rw [HX.out]; exact hlt), List.getElem?_eq_getElem _⟩
      obtain ⟨y, hyk⟩ : ∃ y, ys[k]? = some y := ⟨ys[k]'(by rw [HY.out]; exact hlt), List.getElem?_eq_getElem _⟩
      have c1 : wr.cell? ⟨b, o + k, none⟩ = some (.string ⟨x.toArray⟩) := (hbel.cell (p := ⟨b, o + k, none⟩) hb).trans (HCX.out k x hxk)
      have c2 : wr.cell? ⟨b', o' + k, none⟩ = some (.string ⟨y.toArray⟩) := (hbel.cell (p := ⟨b', o' + k, none⟩) hb').trans (HCY.out k y hyk)
      have KX := Lib.hid hxk; have KY := Lib.hid hyk; clear hxk hyk
      have i1 : (k : Int) < (n : Int) := by omega
      go_wp2
      go_quiet (fail)
      go_wp2
      · go_ret
        have hne : (!x == y) = true := by assumption
        refine ⟨ret_bool ?_, below_drewN hbel _⟩
        symm
        rw [decide_eq_false_iff_not]
        intro e
        rw [e, KY.out] at KX
        have := Option.some.inj KX.out
        subst this
        simp at hne
      · have hxy : (!x == y) = false := by assumption
        have hxy' : x = y := by simpa using hxy
        go_roundw
        case rel =>
          refine ⟨k + 1, by omega, by go_num, Lib.hid ?_, below_drewN hbel _⟩
          rw [List.take_add_one, List.take_add_one, HE.out, KX.out, KY.out, hxy']
        case measure => simp [intOf]; omega
    · have hkn : k = n := by omega
      go_wp2
      go_ret
      refine ⟨ret_bool ?_, hbel⟩
      symm
      rw [decide_eq_true_eq]
      have := HE.out
      rwa [List.take_of_length_le (by rw [HX.out]; omega), List.take_of_length_le (by rw [HY.out]; omega)] at this

set_option maxHeartbeats 400000 in
theorem same_ne (A B : Option Addr) (n c m c' : Nat) (w : World) (h : n ≠ m) :
    Calls Tryd.prog 15 #[.slice A n c, .slice B m c'] w fun e w' => e = .returned (.bool false) ∧ w = w' := by
  have h' : ((n : Int) != (m : Int)) = true := by rw [bne_iff_ne]; omega
  go_enter Tryd.func15, Tryd.ntmps15
  go_wp2
  go_ret
  exact ⟨rfl, rfl⟩

set_option maxHeartbeats 400000 in
theorem same_none (A B : Option Addr) (c c' : Nat) (w : World) :
    Calls Tryd.prog 15 #[.slice A 0 c, .slice B 0 c'] w fun e w' => e = .returned (.bool true) ∧ w = w' := by
  go_enter Tryd.func15, Tryd.ntmps15
  go_wp2
  go_loop [13] (fun i => i = .int .i64 0) (fun _ => 0)
  case atStart => rfl
  case round =>
    subst hrel
    go_wp2
    go_ret
    exact ⟨rfl, rfl⟩

theorem same_any (A B : Option Addr) (c c' : Nat) (xs ys : List (List UInt8)) (w : World) (hx : StrsAt w A c xs) (hy : StrsAt w B c' ys) (hn : xs.length ≤ 9223372036854775807) :
    Calls Tryd.prog 15 #[.slice A xs.length c, .slice B ys.length c'] w fun e w' => e = .returned (.bool (decide (xs = ys))) ∧ Below w.heap.size w w' := by
  by_cases hl : xs.length = ys.length
  · by_cases h0 : 0 < xs.length
    · obtain ⟨b, o, rfl, hb, hc⟩ := hx.2 h0
      obtain ⟨b', o', rfl, hb', hc'⟩ := hy.2 (by omega)
      rw [← hl]
      exact same_some b o c b' o' c' xs.length xs ys w rfl hl.symm hb hb' hc hc' hn
    · have h1 : xs = [] := List.eq_nil_of_length_eq_zero (by omega)
      have h2 : ys = [] := List.eq_nil_of_length_eq_zero (by omega)
      subst h1; subst h2
      refine (same_none A B c c' w).mono ?_
      rintro e w' ⟨rfl, rfl⟩
      exact ⟨rfl, Below.refl _ _⟩
  · refine (same_ne A B _ c _ c' w hl).mono ?_
    rintro e w' ⟨rfl, rfl⟩
    refine ⟨ret_bool ?_, Below.refl _ _⟩
    symm
    rw [decide_eq_false_iff_not]
    exact fun e => hl (by rw [e])

/-! ### Join, by definition -/
theorem jn_snoc (xs : List (List UInt8)) (x : List UInt8) (h : xs ≠ []) : PM.jn (xs ++ [x]) = PM.jn xs ++ 47 :: x := by
  rw [PM.jn_app xs [x] h (by simp)]
  have : PM.jn [x] = x := Lib.join_one x [47]
  rw [this]
theorem jn_one (x : List UInt8) : PM.jn ([] ++ [x]) = x := Lib.join_one x [47]

theorem data_app (a b : ByteArray) : (a ++ b).data.toList = a.data.toList ++ b.data.toList := by simp
theorem size_app (a b : ByteArray) : (a ++ b).size = a.size + b.size := by simp

set_option maxHeartbeats 400000 in
theorem RJoin_none (A : Option Addr) (c : Nat) (w : World) :
    Calls Tryd.prog 20 #[.slice A 0 c] w fun e w' => e = joinE [] ∧ Below w.heap.size w w' := by
  go_enter Tryd.func20, Tryd.ntmps20
  go_wp2
  go_loop [4, 5] (fun p i => p = .string ⟨#[]⟩ ∧ i = .int .i64 0) (fun _ _ => 0)
  case atStart => exact ⟨rfl, rfl⟩
  case round =>
    obtain ⟨rfl, rfl⟩ := hrel
    go_wp2
    go_ret2
    exact ⟨rfl, Below.refl _ _⟩

set_option maxHeartbeats 800000 in
theorem RJoin_some (b o n c : Nat) (xs : List (List UInt8)) (w : World) (hn : xs.length = n) (h0 : 0 < n)
    (hc : ∀ j x, xs[j]? = some x → w.cell? ⟨b, o + j, none⟩ = some (str x)) (hx : ∀ x ∈ xs, x.length ≤ 9223372036854775807) (hm : n ≤ 9223372036854775807) :
    Calls Tryd.prog 20 #[.slice (some ⟨b, o, none⟩) n c] w fun e w' => e = joinE xs ∧ Below w.heap.size w w' := by
  by_cases h4 : 4 < n
  · have h5 := segsB_long (xs := xs) (by omega)
    go_enter Tryd.func20, Tryd.ntmps20
    go_wp2
    go_ret2
    exact ⟨(joinE_no h5).symm, Below.refl _ _⟩
  · have HN := Lib.hid hn; have HC := Lib.hid hc; have HX := Lib.hid hx
    clear hn hc hx
    go_enter Tryd.func20, Tryd.ntmps20
    go_wp2
    go_loop [4, 5] (fun p i => ∃ (k : Nat) (P : ByteArray), k ≤ n ∧ i = .int .i64 k ∧ p = .string P ∧ P.size ≤ 7 * k ∧ Hid (P.data.toList = PM.jn (xs.take k)) ∧ Hid (∀ j, j < k → ∀ x, xs[j]? = some x → PM.segB x = true)) (fun _ i => n - (intOf i).toNat)
    case atStart => exact ⟨0, ⟨#[]⟩, Nat.zero_le _, rfl, rfl, Nat.le_refl _, Lib.hid rfl, Lib.hid (fun j hj => absurd hj (Nat.not_lt_zero j))⟩
    case round =>
      obtain ⟨k, P, hk, rfl, rfl, hP, HP, HS⟩ := hrel
      by_cases hlt : k < n
      · obtain ⟨x, hxk⟩ : ∃ x, xs[k]? = some x := ⟨xs[k]'(by rw [HN.out]; exact hlt), List.getElem?_eq_getElem _⟩
        have hcell := HC.out k x hxk
        have hlen := HX.out x (List.mem_of_getElem? hxk)
        have HK := Lib.hid hxk; clear hxk
        unfold str at hcell
        have hd : Calls Tryd.prog 30 #[.string ⟨x.toArray⟩] w fun e w' => e = .returned (.bool (PM.segB x)) ∧ w = w' := by
          have := segment_any ⟨x.toArray⟩ w
          rwa [bytes_data] at this
        by_cases hsx : PM.segB x = true
        · rw [hsx] at hd
          have HD := Lib.hid hd; clear hd
          have hx6 : x.length ≤ 6 := ((PM.segB_iff x).1 hsx).2.1
          have HSX := Lib.hid hsx; clear hsx
          have hxs : (⟨x.toArray⟩ : ByteArray).size ≤ 6 := by rw [bytes_size]; exact hx6
          have HS' : Hid (∀ j, j < k + 1 → ∀ y, xs[j]? = some y → PM.segB y = true) := Lib.hid (fun j hj y hy => by
            by_cases hjk : j = k
            · subst hjk
              rw [HK.out] at hy
              cases hy
              exact HSX.out
            · exact HS.out j (by omega) y hy)
          have htake : xs.take (k + 1) = xs.take k ++ [x] := by rw [List.take_add_one, HK.out]; rfl
          have HT := Lib.hid htake; clear htake
          by_cases hk0 : 0 < k
          · go_wp2_with (go_at_call 30; refine HD.out.mono ?_; rintro e w' ⟨rfl, rfl⟩)
            go_round
            case rel =>
              refine ⟨k + 1, P ++ ⟨#[47]⟩ ++ ⟨x.toArray⟩, by omega, by go_num, rfl, ?_, Lib.hid ?_, HS'⟩
              · rw [size_app, size_app]; show _ + 1 + _ ≤ _; omega
              · rw [data_app, data_app, bytes_data, HP.out, HT.out, jn_snoc _ _ (by
                  intro e
                  have := congrArg List.length e
                  rw [List.length_take, HN.out] at this
                  simp at this; omega)]
                simp
            case measure => simp [intOf]; omega
          · go_wp2_with (go_at_call 30; refine HD.out.mono ?_; rintro e w' ⟨rfl, rfl⟩)
            go_round
            case rel =>
              have hk00 : k = 0 := by omega
              refine ⟨k + 1, P ++ ⟨x.toArray⟩, by omega, by go_num, rfl, ?_, Lib.hid ?_, HS'⟩
              · rw [size_app]; omega
              · rw [data_app, bytes_data, HP.out, HT.out, hk00, List.take_zero, jn_one]
                rfl
            case measure => simp [intOf]; omega
        · have hsx' : PM.segB x = false := by simpa using hsx
          rw [hsx'] at hd
          have HD := Lib.hid hd; clear hd
          have hno : PM.segsB xs = false := segsB_bad HK.out (fun e => hsx ((depth_one x).1 e))
          have HNO := Lib.hid hno; clear hno hsx hsx'
          go_wp2_with (go_at_call 30; refine HD.out.mono ?_; rintro e w' ⟨rfl, rfl⟩)
          go_ret2
          exact ⟨(joinE_no HNO.out).symm, Below.refl _ _⟩
      · have hall : PM.segsB xs = true := by
          have hnn := HN.out
          unfold PM.segsB
          rw [decide_eq_true (by omega), Bool.true_and, List.all_eq_true]
          intro x hx
          obtain ⟨j, hj, he⟩ := List.getElem_of_mem hx
          exact HS.out j (by omega) x (by rw [← he]; exact List.getElem?_eq_getElem hj)
        have hfull : str (PM.jn xs) = .string P := by
          have := HP.out
          rw [List.take_of_length_le (by rw [HN.out]; omega)] at this
          rw [← this]; rfl
        have HALL := Lib.hid hall; have HF := Lib.hid hfull
        clear hall hfull
        go_wp2
        go_ret2
        refine ⟨?_, Below.refl _ _⟩
        rw [joinE_ok HALL.out, HF.out]; rfl

theorem RJoin_any (A : Option Addr) (c : Nat) (xs : List (List UInt8)) (w : World) (h : StrsAt w A c xs) (hx : ∀ x ∈ xs, x.length ≤ 9223372036854775807) (hm : xs.length ≤ 9223372036854775807) :
    Calls Tryd.prog 20 #[.slice A xs.length c] w fun e w' => e = joinE xs ∧ Below w.heap.size w w' := by
  by_cases h0 : 0 < xs.length
  · obtain ⟨b, o, rfl, _, hc⟩ := h.2 h0
    exact RJoin_some b o xs.length c xs w rfl h0 hc hx hm
  · have : xs = [] := List.eq_nil_of_length_eq_zero (by omega)
    subst this
    exact RJoin_none A c w

/-! ### Covers, by definition -/
theorem take_prefix {xs ys : List (List UInt8)} (h : xs = ys.take xs.length) : xs <+: ys := by
  rw [h]; exact List.take_prefix _ _
theorem prefix_take {xs ys : List (List UInt8)} (h : xs <+: ys) : xs = ys.take xs.length := List.prefix_iff_eq_take.1 h

set_option maxHeartbeats 800000 in
theorem RCovers_any (p q : ByteArray) (w : World) (hp : p.size ≤ 140737488351232) (hq : q.size ≤ 140737488351232) :
    Calls Tryd.prog 24 #[.string p, .string q] w fun e w' => e = .returned (.bool (PM.cov p.data.toList q.data.toList)) ∧ Below w.heap.size w w' := by
  go_enter Tryd.func24, Tryd.ntmps24
  go_wp2_with fail
  refine (RSplit_any p _ hp).mono ?_
  rintro e w1 ⟨hcase, hb1⟩
  rcases hcase with ⟨ho1, A, c, rfl, hS1⟩ | ⟨ho1, rfl⟩
  · have HO1 := Lib.hid ho1; clear ho1
    go_wp2_with fail
    refine (RSplit_any q _ hq).mono ?_
    rintro e w2 ⟨hcase, hb2⟩
    have hb2' := hb1.trans (hb2.mono hb1.size)
    rcases hcase with ⟨ho2, B, d, rfl, hS2⟩ | ⟨ho2, rfl⟩
    · have hS1' := hS1.below hb2
      have HO2 := Lib.hid ho2; clear ho2 hS1 hb1 hb2
      have hl4 : (PM.segsOf p.data.toList).length ≤ 4 := by
        have := HO1.out
        rw [PM.okB_segs] at this
        simp only [PM.segsB, Bool.and_eq_true, decide_eq_true_eq] at this
        exact this.1
      have hfin : Hid (PM.cov p.data.toList q.data.toList = true ↔ PM.segsOf p.data.toList <+: PM.segsOf q.data.toList) := Lib.hid (by
        rw [PM.cov_iff]
        exact ⟨fun h => h.2.2, fun h => ⟨HO1.out, HO2.out, h⟩⟩)
      generalize PM.segsOf p.data.toList = xs at *
      generalize PM.segsOf q.data.toList = ys at *
      obtain ⟨n, hn⟩ : ∃ n, n = xs.length := ⟨_, rfl⟩
      obtain ⟨m, hm⟩ : ∃ m, m = ys.length := ⟨_, rfl⟩
      rw [← hn] at hl4
      by_cases hlen : m < n
      · rw [← hn, ← hm]
        have HN := Lib.hid hn; have HM := Lib.hid hm; clear hn hm
        go_wp2
        go_ret
        refine ⟨ret_bool ?_, hb2'⟩
        symm
        rw [Bool.eq_false_iff, ne_eq, hfin.out]
        intro h
        have := h.length_le
        rw [← HN.out, ← HM.out] at this
        omega
      · rw [← hn, ← hm]
        have H1 := Lib.hid hS1'; have H2 := Lib.hid hS2
        have HN := Lib.hid hn; have HM := Lib.hid hm; clear hn hm hS1' hS2
        go_wp2
        go_loopw [9] (fun i wr => ∃ k : Nat, k ≤ n ∧ i = .int .i64 k ∧ Hid (xs.take k = ys.take k) ∧ Below w2.heap.size w2 wr) (fun i _ => n - (intOf i).toNat)
        case atStart => exact ⟨0, Nat.zero_le _, rfl, Lib.hid (by simp), Below.refl _ _⟩
        case round =>
          obtain ⟨k, hk, rfl, HE, hbel⟩ := hrel
          by_cases hlt : k < n
          · obtain ⟨b, o, rfl, hb, hc⟩ := H1.out.2 (by rw [← HN.out]; omega)
            obtain ⟨b', o', rfl, hb', hc'⟩ := H2.out.2 (by rw [← HM.out]; omega)
            obtain ⟨x, hxk⟩ : ∃ x, xs[k]? = some x := ⟨xs[k]'(by rw [← HN.out]; exact hlt), List.getElem?_eq_getElem _⟩
            obtain ⟨y, hyk⟩ : ∃ y, ys[k]? = some y := ⟨ys[k]'(by rw [← HM.out]; omega), List.getElem?_eq_getElem _⟩
            have c1 : wr.cell? ⟨b, o + k, none⟩ = some (.string ⟨x.toArray⟩) := (hbel.cell (p := ⟨b, o + k, none⟩) hb).trans (hc k x hxk)
            have c2 : wr.cell? ⟨b', o' + k, none⟩ = some (.string ⟨y.toArray⟩) := (hbel.cell (p := ⟨b', o' + k, none⟩) hb').trans (hc' k y hyk)
            have KX := Lib.hid hxk; have KY := Lib.hid hyk; clear hxk hyk hc hc'
            have i1 : (k : Int) < (n : Int) := by omega
            have i2 : (k : Int) < (m : Int) := by omega
            go_wp2
            go_quiet (fail)
            go_wp2
            · go_ret
              have hne : (!x == y) = true := by assumption
              refine ⟨ret_bool ?_, below_drewN (hb2'.trans (hbel.mono hb2'.size)) _⟩
              symm
              rw [Bool.eq_false_iff, ne_eq, hfin.out]
              rintro ⟨t, rfl⟩
              have h3 := KY.out
              rw [List.getElem?_append_left (by rw [← HN.out]; exact hlt), KX.out] at h3
              cases h3
              simp at hne
            · have hxy : (!x == y) = false := by assumption
              have hxy' : x = y := by simpa using hxy
              go_roundw
              case rel =>
                refine ⟨k + 1, by omega, by go_num, Lib.hid ?_, below_drewN hbel _⟩
                rw [List.take_add_one, List.take_add_one, HE.out, KX.out, KY.out, hxy']
              case measure => simp [intOf]; omega
          · have hkn : k = n := by omega
            go_wp2
            go_ret
            refine ⟨ret_bool ?_, hb2'.trans (hbel.mono hb2'.size)⟩
            symm
            rw [hfin.out]
            have h3 := HE.out
            rw [List.take_of_length_le (by rw [← HN.out]; omega)] at h3
            rw [h3]
            exact List.take_prefix _ _
    · have HO2 := Lib.hid ho2; clear ho2
      go_wp2
      go_ret
      exact ⟨ret_bool (by unfold PM.cov; rw [HO2.out]; simp), hb2'⟩
  · have HO1 := Lib.hid ho1; clear ho1
    go_wp2_with fail
    refine (RSplit_any q _ hq).mono ?_
    rintro e w2 ⟨hcase, hb2⟩
    have hb2' := hb1.trans (hb2.mono hb1.size)
    rcases hcase with ⟨_, B, d, rfl, hS2⟩ | ⟨_, rfl⟩
    all_goals
      go_wp2
      go_ret
      exact ⟨ret_bool (by unfold PM.cov; rw [HO1.out]; simp), hb2'⟩

section
variable (p q : ByteArray) (w : World) (hp : p.size ≤ 140737488351232) (hq : q.size ≤ 140737488351232)
include hp hq
set_option maxHeartbeats 400000 in
theorem ROverlap_any : Calls Tryd.prog 26 #[.string p, .string q] w fun e w' => e = .returned (.bool (PM.cov p.data.toList q.data.toList || PM.cov q.data.toList p.data.toList)) ∧ Below w.heap.size w w' := by
  go_enter Tryd.func26, Tryd.ntmps26
  go_wp2_with fail
  refine (RCovers_any p q _ hp hq).mono ?_
  rintro e w1 ⟨rfl, hb1⟩
  go_wp2_with fail
  refine (RCovers_any q p _ hq hp).mono ?_
  rintro e w2 ⟨rfl, hb2⟩
  go_wp2
  all_goals
    go_ret
    exact ⟨ret_bool (by simp [*]), hb1.trans (hb2.mono hb1.size)⟩
set_option maxHeartbeats 400000 in
theorem RMeet_any : Calls Tryd.prog 22 #[.string p, .string q] w fun e w' => MeetPost p q e ∧ Below w.heap.size w w' := by
  go_enter Tryd.func22, Tryd.ntmps22
  go_wp2_with fail
  refine (RCovers_any p q _ hp hq).mono ?_
  rintro e w1 ⟨rfl, hb1⟩
  by_cases h1 : PM.cov p.data.toList q.data.toList = true
  · go_wp2
    go_ret2
    exact ⟨by unfold MeetPost; simp [h1], hb1⟩
  · have h1' : PM.cov p.data.toList q.data.toList = false := by simpa using h1
    clear h1
    go_wp2_with fail
    refine (RCovers_any q p _ hq hp).mono ?_
    rintro e w2 ⟨rfl, hb2⟩
    go_wp2
    all_goals
      go_ret2
      exact ⟨by unfold MeetPost; simp [*], hb1.trans (hb2.mono hb1.size)⟩
end

/-! ### Compare, byte by byte -/
theorem cmp_lt {p q : ByteArray} {k : Nat} (hp : k < p.size) (hq : k < q.size) (H : Hid (PM.cmp p.data.toList q.data.toList = PM.cmp (rest p k) (rest q k))) (h : p[k].toNat < q[k].toNat) : PM.cmp p.data.toList q.data.toList = -1 := by
  rw [H.out, rest_cons p k hp, rest_cons q k hq, PM.cmp_cons, if_pos (by rw [UInt8.lt_iff_toNat_lt]; exact h)]
theorem cmp_gt {p q : ByteArray} {k : Nat} (hp : k < p.size) (hq : k < q.size) (H : Hid (PM.cmp p.data.toList q.data.toList = PM.cmp (rest p k) (rest q k))) (h : q[k].toNat < p[k].toNat) : PM.cmp p.data.toList q.data.toList = 1 := by
  rw [H.out, rest_cons p k hp, rest_cons q k hq, PM.cmp_cons, if_neg (by rw [UInt8.lt_iff_toNat_lt]; omega), if_pos (by rw [UInt8.lt_iff_toNat_lt]; exact h)]
theorem cmp_same {p q : ByteArray} {k : Nat} (hp : k < p.size) (hq : k < q.size) (H : Hid (PM.cmp p.data.toList q.data.toList = PM.cmp (rest p k) (rest q k))) (h : p[k].toNat = q[k].toNat) :
    Hid (PM.cmp p.data.toList q.data.toList = PM.cmp (rest p (k + 1)) (rest q (k + 1))) :=
  Lib.hid (by rw [H.out, rest_cons p k hp, rest_cons q k hq, PM.cmp_cons, if_neg (by rw [UInt8.lt_iff_toNat_lt]; omega), if_neg (by rw [UInt8.lt_iff_toNat_lt]; omega)])
theorem rest_ne {s : ByteArray} {k : Nat} (h : k < s.size) : ∃ c r, rest s k = c :: r := ⟨_, _, rest_cons s k h⟩
theorem rest_over {s : ByteArray} {k : Nat} (h : s.size ≤ k) : rest s k = [] := by
  unfold rest
  apply List.drop_of_length_le
  rw [len_toList]; exact h

set_option maxHeartbeats 800000 in
theorem RCompare_any (p q : ByteArray) (w : World) (hp : p.size ≤ 140737488351232) :
    Calls Tryd.prog 28 #[.string p, .string q] w fun e w' => e = .returned (.int .i64 (PM.cmp p.data.toList q.data.toList)) ∧ Below w.heap.size w w' := by
  go_enter Tryd.func28, Tryd.ntmps28
  go_wp2
  go_loopw [5] (fun i wr => ∃ k : Nat, k ≤ p.size ∧ k ≤ q.size ∧ i = .int .i64 k ∧ Hid (PM.cmp p.data.toList q.data.toList = PM.cmp (rest p k) (rest q k)) ∧ Below w.heap.size w wr) (fun i _ => p.size - (intOf i).toNat)
  case atStart => exact ⟨0, Nat.zero_le _, Nat.zero_le _, rfl, Lib.hid (by rw [rest_zero, rest_zero]), Below.refl _ _⟩
  case round =>
    obtain ⟨k, hkp, hkq, rfl, H, hbel⟩ := hrel
    by_cases h1 : k < p.size
    · by_cases h2 : k < q.size
      · have i1 : (k : Int) < (p.size : Int) := by omega
        have i2 : (k : Int) < (q.size : Int) := by omega
        rcases (show p[k].toNat < q[k].toNat ∨ q[k].toNat < p[k].toNat ∨ p[k].toNat = q[k].toNat by omega) with h3 | h3 | h3
        · have HF := Lib.hid (cmp_lt h1 h2 H h3)
          go_wp2
          go_quiet (fail)
          go_wp2
          go_ret
          first
            | exact ⟨ret_int HF.out.symm, below_drewN hbel _⟩
            | exact ⟨ret_int HF.out.symm, below_drewN (below_drewN hbel _) _⟩
        · have HF := Lib.hid (cmp_gt h1 h2 H h3)
          go_wp2
          go_quiet (fail)
          go_wp2
          go_quiet (fail)
          go_wp2
          go_ret
          first
            | exact ⟨ret_int HF.out.symm, below_drewN hbel _⟩
            | exact ⟨ret_int HF.out.symm, below_drewN (below_drewN hbel _) _⟩
        · have HF := cmp_same h1 h2 H h3
          go_wp2
          go_quiet (fail)
          go_wp2
          go_quiet (fail)
          go_wp2
          go_roundw
          case rel => exact ⟨k + 1, by omega, by omega, by go_num, HF, below_drewN hbel _⟩
          case measure => simp [intOf]; omega
      · have h3 : q.size < p.size := by omega
        have HF : Hid (PM.cmp p.data.toList q.data.toList = 1) := Lib.hid (by
          obtain ⟨c, r, e⟩ := rest_ne h1
          rw [H.out, e, rest_over (Nat.le_of_not_lt h2)]; rfl)
        go_wp2
        go_ret
        exact ⟨ret_int HF.out.symm, hbel⟩
    · by_cases h2 : k < q.size
      · have h3 : p.size < q.size := by omega
        have HF : Hid (PM.cmp p.data.toList q.data.toList = -1) := Lib.hid (by
          obtain ⟨c, r, e⟩ := rest_ne h2
          rw [H.out, e, rest_over (Nat.le_of_not_lt h1)]; rfl)
        go_wp2
        go_ret
        exact ⟨ret_int HF.out.symm, hbel⟩
      · have h3 : p.size ≤ q.size := by omega
        have h4 : q.size ≤ p.size := by omega
        have HF : Hid (PM.cmp p.data.toList q.data.toList = 0) := Lib.hid (by
          rw [H.out, rest_over (Nat.le_of_not_lt h1), rest_over (Nat.le_of_not_lt h2)]; rfl)
        go_wp2
        go_ret
        exact ⟨ret_int HF.out.symm, hbel⟩

end Go.Proofs.YtabilfjaiopemaaDoor
