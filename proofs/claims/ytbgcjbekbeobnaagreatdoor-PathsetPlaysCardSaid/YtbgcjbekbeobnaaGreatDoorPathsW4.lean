/- The rest of the document's own answers on paths (package subletref01), and the statements' helper that holds two lists against each other. -/
import Derived.Test.YtbgcjbekbeobnaaGreatDoorPathsW3
namespace Go.Proofs.YtbgcjbekbeobnaaGreatDoor
open Go.RowKit
set_option maxRecDepth 100000
open PM (str)

theorem below_drewN {B : Nat} {a w : World} (h : Below B a w) (n : Nat) : Below B a (w.drewN n) := ⟨h.os, h.tape, h.output, h.size, h.block⟩

section
variable (s : ByteArray) (w : World) (hs : s.size ≤ 140737488351232)
include hs
set_option maxHeartbeats 400000 in
theorem RValid_any : Calls Tryz.prog 46 #[.string s] w fun e w' => e = .returned (.bool (PM.okB s.data.toList)) ∧ Below w.heap.size w w' := by
  go_enter Tryz.func46, Tryz.ntmps46
  go_wp2_with fail
  refine (RSplit_any _ _ hs).mono ?_
  rintro e w' ⟨⟨ho, A, c, rfl, hS⟩ | ⟨ho, rfl⟩, hb⟩
  all_goals
    have HO := Lib.hid ho; clear ho
    go_wp2
    go_ret
    exact ⟨ret_bool HO.out.symm, hb⟩
end

/-! ### same -/
/-! ### Join, by definition -/
theorem jn_snoc (xs : List (List UInt8)) (x : List UInt8) (h : xs ≠ []) : PM.jn (xs ++ [x]) = PM.jn xs ++ 47 :: x := by
  rw [PM.jn_app xs [x] h (by simp)]
  have : PM.jn [x] = x := Lib.join_one x [47]
  rw [this]
theorem jn_one (x : List UInt8) : PM.jn ([] ++ [x]) = x := Lib.join_one x [47]

theorem data_app (a b : ByteArray) : (a ++ b).data.toList = a.data.toList ++ b.data.toList := by simp
theorem size_app (a b : ByteArray) : (a ++ b).size = a.size + b.size := by simp

/-! ### Covers, by definition -/
theorem take_prefix {xs ys : List (List UInt8)} (h : xs = ys.take xs.length) : xs <+: ys := by
  rw [h]; exact List.take_prefix _ _
theorem prefix_take {xs ys : List (List UInt8)} (h : xs <+: ys) : xs = ys.take xs.length := List.prefix_iff_eq_take.1 h

set_option maxHeartbeats 800000 in
theorem RCovers_any (p q : ByteArray) (w : World) (hp : p.size ≤ 140737488351232) (hq : q.size ≤ 140737488351232) :
    Calls Tryz.prog 45 #[.string p, .string q] w fun e w' => e = .returned (.bool (PM.cov p.data.toList q.data.toList)) ∧ Below w.heap.size w w' := by
  go_enter Tryz.func45, Tryz.ntmps45
  go_wp2_with fail
  refine (RSplit_any p _ hp).mono ?_
  rintro e w1 ⟨hcase, hb1⟩
  rcases hcase with ⟨ho1, A, c, rfl, hS1⟩ | ⟨ho1, rfl⟩
  · have HO1 := Lib.hid ho1; clear ho1
    go_wp2_with fail
    refine (RSplit_any q _ hq).mono ?_
    rintro e w2 ⟨hcase, hb2⟩
    have hb2' := hb1.trans (hb2.mono hb1.size)
    rcases hcase with ⟨ho2, B, d, rfl, hS2⟩ | ⟨ho2, rfl⟩
    · have hS1' := hS1.below hb2
      have HO2 := Lib.hid ho2; clear ho2 hS1 hb1 hb2
      have hl4 : (PM.segsOf p.data.toList).length ≤ 4 := by
        have := HO1.out
        rw [PM.okB_segs] at this
        simp only [PM.segsB, Bool.and_eq_true, decide_eq_true_eq] at this
        exact this.1
      have hfin : Hid (PM.cov p.data.toList q.data.toList = true ↔ PM.segsOf p.data.toList <+: PM.segsOf q.data.toList) := Lib.hid (by
        rw [PM.cov_iff]
        exact ⟨fun h => h.2.2, fun h => ⟨HO1.out, HO2.out, h⟩⟩)
      generalize PM.segsOf p.data.toList = xs at *
      generalize PM.segsOf q.data.toList = ys at *
      obtain ⟨n, hn⟩ : ∃ n, n = xs.length := ⟨_, rfl⟩
      obtain ⟨m, hm⟩ : ∃ m, m = ys.length := ⟨_, rfl⟩
      rw [← hn] at hl4
      by_cases hlen : m < n
      · rw [← hn, ← hm]
        have HN := Lib.hid hn; have HM := Lib.hid hm; clear hn hm
        go_wp2
        go_ret
        refine ⟨ret_bool ?_, hb2'⟩
        symm
        rw [Bool.eq_false_iff, ne_eq, hfin.out]
        intro h
        have := h.length_le
        rw [← HN.out, ← HM.out] at this
        omega
      · rw [← hn, ← hm]
        have H1 := Lib.hid hS1'; have H2 := Lib.hid hS2
        have HN := Lib.hid hn; have HM := Lib.hid hm; clear hn hm hS1' hS2
        go_wp2
        go_loopw [9] (fun i wr => ∃ k : Nat, k ≤ n ∧ i = .int .i64 k ∧ Hid (xs.take k = ys.take k) ∧ Below w2.heap.size w2 wr) (fun i _ => n - (intOf i).toNat)
        case atStart => exact ⟨0, Nat.zero_le _, rfl, Lib.hid (by simp), Below.refl _ _⟩
        case round =>
          obtain ⟨k, hk, rfl, HE, hbel⟩ := hrel
          by_cases hlt : k < n
          · obtain ⟨b, o, rfl, hb, hc⟩ := H1.out.2 (by rw [← HN.out]; omega)
            obtain ⟨b', o', rfl, hb', hc'⟩ := H2.out.2 (by rw [← HM.out]; omega)
            obtain ⟨x, hxk⟩ : ∃ x, xs[k]? = some x := ⟨xs[k]'(by rw [← HN.out]; exact hlt), List.getElem?_eq_getElem _⟩
            obtain ⟨y, hyk⟩ : ∃ y, ys[k]? = some y := ⟨ys[k]'(by rw [← HM.out]; omega), List.getElem?_eq_getElem _⟩
            have c1 : wr.cell? ⟨b, o + k, none⟩ = some (.string ⟨x.toArray⟩) := (hbel.cell (p := ⟨b, o + k, none⟩) hb).trans (hc k x hxk)
            have c2 : wr.cell? ⟨b', o' + k, none⟩ = some (.string ⟨y.toArray⟩) := (hbel.cell (p := ⟨b', o' + k, none⟩) hb').trans (hc' k y hyk)
            have KX := Lib.hid hxk; have KY := Lib.hid hyk; clear hxk hyk hc hc'
            have i1 : (k : Int) < (n : Int) := by omega
            have i2 : (k : Int) < (m : Int) := by omega
            go_wp2
            go_quiet (fail)
            go_wp2
            · go_ret
              have hne : (!x == y) = true := by assumption
              refine ⟨ret_bool ?_, below_drewN (hb2'.trans (hbel.mono hb2'.size)) _⟩
              symm
              rw [Bool.eq_false_iff, ne_eq, hfin.out]
              rintro ⟨t, rfl⟩
              have h3 := KY.out
              rw [List.getElem?_append_left (by rw [← HN.out]; exact hlt), KX.out] at h3
              cases h3
              simp at hne
            · have hxy : (!x == y) = false := by assumption
              have hxy' : x = y := by simpa using hxy
              go_roundw
              case rel =>
                refine ⟨k + 1, by omega, by go_num, Lib.hid ?_, below_drewN hbel _⟩
                rw [List.take_add_one, List.take_add_one, HE.out, KX.out, KY.out, hxy']
              case measure => simp [intOf]; omega
          · have hkn : k = n := by omega
            go_wp2
            go_ret
            refine ⟨ret_bool ?_, hb2'.trans (hbel.mono hb2'.size)⟩
            symm
            rw [hfin.out]
            have h3 := HE.out
            rw [List.take_of_length_le (by rw [← HN.out]; omega)] at h3
            rw [h3]
            exact List.take_prefix _ _
    · have HO2 := Lib.hid ho2; clear ho2
      go_wp2
      go_ret
      exact ⟨ret_bool (by unfold PM.cov; rw [HO2.out]; simp), hb2'⟩
  · have HO1 := Lib.hid ho1; clear ho1
    go_wp2_with fail
    refine (RSplit_any q _ hq).mono ?_
    rintro e w2 ⟨hcase, hb2⟩
    have hb2' := hb1.trans (hb2.mono hb1.size)
    rcases hcase with ⟨_, B, d, rfl, hS2⟩ | ⟨_, rfl⟩
    all_goals
      go_wp2
      go_ret
      exact ⟨ret_bool (by unfold PM.cov; rw [HO1.out]; simp), hb2'⟩

section
variable (p q : ByteArray) (w : World) (hp : p.size ≤ 140737488351232) (hq : q.size ≤ 140737488351232)
include hp hq
set_option maxHeartbeats 400000 in
theorem ROverlap_any : Calls Tryz.prog 41 #[.string p, .string q] w fun e w' => e = .returned (.bool (PM.cov p.data.toList q.data.toList || PM.cov q.data.toList p.data.toList)) ∧ Below w.heap.size w w' := by
  go_enter Tryz.func41, Tryz.ntmps41
  go_wp2_with fail
  refine (RCovers_any p q _ hp hq).mono ?_
  rintro e w1 ⟨rfl, hb1⟩
  go_wp2_with fail
  refine (RCovers_any q p _ hq hp).mono ?_
  rintro e w2 ⟨rfl, hb2⟩
  go_wp2
  all_goals
    go_ret
    exact ⟨ret_bool (by simp [*]), hb1.trans (hb2.mono hb1.size)⟩
end

/-! ### Compare, byte by byte -/
theorem cmp_lt {p q : ByteArray} {k : Nat} (hp : k < p.size) (hq : k < q.size) (H : Hid (PM.cmp p.data.toList q.data.toList = PM.cmp (rest p k) (rest q k))) (h : p[k].toNat < q[k].toNat) : PM.cmp p.data.toList q.data.toList = -1 := by
  rw [H.out, rest_cons p k hp, rest_cons q k hq, PM.cmp_cons, if_pos (by rw [UInt8.lt_iff_toNat_lt]; exact h)]
theorem cmp_gt {p q : ByteArray} {k : Nat} (hp : k < p.size) (hq : k < q.size) (H : Hid (PM.cmp p.data.toList q.data.toList = PM.cmp (rest p k) (rest q k))) (h : q[k].toNat < p[k].toNat) : PM.cmp p.data.toList q.data.toList = 1 := by
  rw [H.out, rest_cons p k hp, rest_cons q k hq, PM.cmp_cons, if_neg (by rw [UInt8.lt_iff_toNat_lt]; omega), if_pos (by rw [UInt8.lt_iff_toNat_lt]; exact h)]
theorem cmp_same {p q : ByteArray} {k : Nat} (hp : k < p.size) (hq : k < q.size) (H : Hid (PM.cmp p.data.toList q.data.toList = PM.cmp (rest p k) (rest q k))) (h : p[k].toNat = q[k].toNat) :
    Hid (PM.cmp p.data.toList q.data.toList = PM.cmp (rest p (k + 1)) (rest q (k + 1))) :=
  Lib.hid (by rw [H.out, rest_cons p k hp, rest_cons q k hq, PM.cmp_cons, if_neg (by rw [UInt8.lt_iff_toNat_lt]; omega), if_neg (by rw [UInt8.lt_iff_toNat_lt]; omega)])
theorem rest_ne {s : ByteArray} {k : Nat} (h : k < s.size) : ∃ c r, rest s k = c :: r := ⟨_, _, rest_cons s k h⟩
theorem rest_over {s : ByteArray} {k : Nat} (h : s.size ≤ k) : rest s k = [] := by
  unfold rest
  apply List.drop_of_length_le
  rw [len_toList]; exact h

set_option maxHeartbeats 800000 in
theorem RCompare_any (p q : ByteArray) (w : World) (hp : p.size ≤ 140737488351232) :
    Calls Tryz.prog 62 #[.string p, .string q] w fun e w' => e = .returned (.int .i64 (PM.cmp p.data.toList q.data.toList)) ∧ Below w.heap.size w w' := by
  go_enter Tryz.func62, Tryz.ntmps62
  go_wp2
  go_loopw [5] (fun i wr => ∃ k : Nat, k ≤ p.size ∧ k ≤ q.size ∧ i = .int .i64 k ∧ Hid (PM.cmp p.data.toList q.data.toList = PM.cmp (rest p k) (rest q k)) ∧ Below w.heap.size w wr) (fun i _ => p.size - (intOf i).toNat)
  case atStart => exact ⟨0, Nat.zero_le _, Nat.zero_le _, rfl, Lib.hid (by rw [rest_zero, rest_zero]), Below.refl _ _⟩
  case round =>
    obtain ⟨k, hkp, hkq, rfl, H, hbel⟩ := hrel
    by_cases h1 : k < p.size
    · by_cases h2 : k < q.size
      · have i1 : (k : Int) < (p.size : Int) := by omega
        have i2 : (k : Int) < (q.size : Int) := by omega
        rcases (show p[k].toNat < q[k].toNat ∨ q[k].toNat < p[k].toNat ∨ p[k].toNat = q[k].toNat by omega) with h3 | h3 | h3
        · have HF := Lib.hid (cmp_lt h1 h2 H h3)
          go_wp2
          go_quiet (fail)
          go_wp2
          go_ret
          first
            | exact ⟨ret_int HF.out.symm, below_drewN hbel _⟩
            | exact ⟨ret_int HF.out.symm, below_drewN (below_drewN hbel _) _⟩
        · have HF := Lib.hid (cmp_gt h1 h2 H h3)
          go_wp2
          go_quiet (fail)
          go_wp2
          go_quiet (fail)
          go_wp2
          go_ret
          first
            | exact ⟨ret_int HF.out.symm, below_drewN hbel _⟩
            | exact ⟨ret_int HF.out.symm, below_drewN (below_drewN hbel _) _⟩
        · have HF := cmp_same h1 h2 H h3
          go_wp2
          go_quiet (fail)
          go_wp2
          go_quiet (fail)
          go_wp2
          go_roundw
          case rel => exact ⟨k + 1, by omega, by omega, by go_num, HF, below_drewN hbel _⟩
          case measure => simp [intOf]; omega
      · have h3 : q.size < p.size := by omega
        have HF : Hid (PM.cmp p.data.toList q.data.toList = 1) := Lib.hid (by
          obtain ⟨c, r, e⟩ := rest_ne h1
          rw [H.out, e, rest_over (Nat.le_of_not_lt h2)]; rfl)
        go_wp2
        go_ret
        exact ⟨ret_int HF.out.symm, hbel⟩
    · by_cases h2 : k < q.size
      · have h3 : p.size < q.size := by omega
        have HF : Hid (PM.cmp p.data.toList q.data.toList = -1) := Lib.hid (by
          obtain ⟨c, r, e⟩ := rest_ne h2
          rw [H.out, e, rest_over (Nat.le_of_not_lt h1)]; rfl)
        go_wp2
        go_ret
        exact ⟨ret_int HF.out.symm, hbel⟩
      · have h3 : p.size ≤ q.size := by omega
        have h4 : q.size ≤ p.size := by omega
        have HF : Hid (PM.cmp p.data.toList q.data.toList = 0) := Lib.hid (by
          rw [H.out, rest_over (Nat.le_of_not_lt h1), rest_over (Nat.le_of_not_lt h2)]; rfl)
        go_wp2
        go_ret
        exact ⟨ret_int HF.out.symm, hbel⟩

end Go.Proofs.YtbgcjbekbeobnaaGreatDoor
