/- The document's own answers of layer 2: how a number and a text are taken up. -/
import Derived.Test.YtboflkadabagfabOctetsW5
import Derived.Maps.AppendAt
namespace Go.Proofs.Ytboflkadabagfab.Oct
open Go.RowKit
set_option maxRecDepth 100000
theorem small_sum {acc x k U : Nat} (hU : U = 128 ^ k) (hx : x < 128) : (acc : Int) + (x : Int) * (U : Int) = ((acc + x % 128 * 128 ^ k : Nat) : Int) := by
  rw [← hU, Nat.mod_eq_of_lt hx, Int.natCast_add, Int.natCast_mul]
theorem big_sum {acc x k U : Nat} (hU : U = 128 ^ k) (hx : 128 ≤ x) (h1 : x < 256) : (acc : Int) + ((x : Int) - 128) * (U : Int) = ((acc + x % 128 * 128 ^ k : Nat) : Int) := by
  rw [← hU, show x % 128 = x - 128 by omega, Int.natCast_add, Int.natCast_mul, show ((x - 128 : Nat) : Int) = (x : Int) - 128 by omega]
theorem unit_next {k U : Nat} (hU : U = 128 ^ k) : U * 128 = 128 ^ (k + 1) := by rw [Nat.pow_succ, hU]
theorem big_room {acc x k U : Nat} (hU : U = 128 ^ k) (h : acc < U) : acc + x % 128 * 128 ^ k < U * 128 := by
  rw [unit_next hU]
  exact next_room (by rw [← hU]; exact h)
theorem unit_small {k U : Nat} (hU : U = 128 ^ k) (hk : k < 8) : U ≤ 562949953421312 := by
  have h : 128 ^ k ≤ 128 ^ 7 := Nat.pow_le_pow_right (by decide) (by omega)
  rw [hU]
  exact Nat.le_trans h (by decide)
theorem tk_eight {l : List UInt8} {k acc x : Nat} (HE : OM.take l = OM.tk (9 - k) k acc (l.drop k)) (hk : k = 8) (h : k < l.length) (hx : (l[k]).toNat = x) (h0 : 128 ≤ x) : OM.take l = (0, 0, 21) := by
  rw [tk_at HE (by omega) h hx, if_neg (by omega), show 9 - (k + 1) = 0 by omega]
  rfl
theorem unit_room {acc x k U : Nat} (hU : U = 128 ^ k) (hk : k < 9) (hacc : acc < U) (hx : x < 128) : (0 : Int) ≤ (x : Int) * (U : Int) ∧ (x : Int) * (U : Int) ≤ 9223372036854775807 ∧ (acc : Int) + (x : Int) * (U : Int) ≤ 9223372036854775807 := by
  have hp := pow128_le hk
  rw [Nat.pow_succ, ← hU] at hp
  have h1 : x * U ≤ 127 * U := Nat.mul_le_mul_right _ (by omega)
  have h2 : ((x * U : Nat) : Int) = (x : Int) * (U : Int) := Int.natCast_mul _ _
  omega
set_option maxRecDepth 100000 in
set_option maxHeartbeats 2000000 in
theorem TakeNum_any (A : Option Addr) (c : Nat) (l : List UInt8) (w : World) (h : BytesAt w A l) (hl : l.length ≤ 9223372036854775807) :
    Calls Try.prog 82 #[.slice A l.length c] w fun e w' => e = .returned (.tuple #[.int .i64 ((OM.take l).1 : Int), .int .i64 ((OM.take l).2.1 : Int), .int .i64 ((OM.take l).2.2 : Int)]) ∧ w = w' := by
  have H := Lib.hid h; clear h
  go_enter Try.func82, Try.ntmps82
  go_wp2_with fail
  go_loop [7, 5, 6] (fun i n u => ∃ (k acc U : Nat), i = .int .i64 (k : Int) ∧ n = .int .i64 (acc : Int) ∧ u = .int .i64 (U : Int) ∧ k ≤ 8 ∧ k ≤ l.length ∧ acc < U ∧ Hid (U = 128 ^ k) ∧ Hid (OM.take l = OM.tk (9 - k) k acc (l.drop k))) (fun i _ _ => 9 - (intOf i).toNat)
  case atStart => exact ⟨0, 0, 1, rfl, rfl, rfl, by omega, by omega, by omega, Lib.hid rfl, Lib.hid rfl⟩
  case round =>
    obtain ⟨k, acc, U, rfl, rfl, rfl, hk, hkl, hacc, HU, HE⟩ := hrel
    have h9 : k < 9 := by omega
    by_cases hend : k = l.length
    · have T := Lib.hid (tk_end HE.out h9 hend)
      subst hend
      go_wp2_with fail
      go_ret3
      exact ⟨took T.out rfl rfl rfl, rfl⟩
    · have hlt : k < l.length := by omega
      obtain ⟨b, o, hA, hb, hc⟩ := H.out (by omega)
      subst hA
      have hcell : w.cell? ⟨b, o + k, none⟩ = some (.int .u8 ((l[k]).toNat : Int)) := hc k l[k] (List.getElem?_eq_getElem hlt)
      clear hc hb
      have hx : (l[k]).toNat < 256 := (l[k]).toNat_lt
      generalize hxe : (l[k]).toNat = x at hcell hx
      have HX := Lib.hid hxe; clear hxe
      by_cases hsm : x < 128
      · have hr := unit_room HU.out h9 hacc hsm
        obtain ⟨r1, r2, r3⟩ := hr
        by_cases hz : x = 0
        · subst hz
          by_cases hk0 : 0 < k
          · go_wp2_with fail
            go_ret3
            exact ⟨took (tk_zero HE.out h9 hlt HX.out rfl hk0) rfl rfl rfl, rfl⟩
          · go_wp2_with fail
            go_ret3
            exact ⟨took (tk_last HE.out h9 hlt HX.out (by omega) (by omega)) (by simp) rfl rfl, rfl⟩
        · go_wp2_with fail
          go_ret3
          exact ⟨took (tk_last HE.out h9 hlt HX.out (by omega) (by omega)) (small_sum HU.out hsm) rfl rfl, rfl⟩
      · have hr := unit_room (x := x - 128) HU.out h9 hacc (by omega)
        rw [show ((x - 128 : Nat) : Int) = (x : Int) - 128 by omega] at hr
        obtain ⟨r1, r2, r3⟩ := hr
        by_cases h8 : k = 8
        · have T := Lib.hid (tk_eight HE.out h8 hlt HX.out (by omega))
          subst h8
          go_wp2_with fail
          go_ret3
          exact ⟨took T.out rfl rfl rfl, rfl⟩
        · have hU7 := unit_small HU.out (show k < 8 by omega)
          go_wp2_with fail
          go_round
          case rel => exact ⟨k + 1, acc + x % 128 * 128 ^ k, U * 128, rfl, congrArg (Value.int .i64) (big_sum HU.out (by omega) hx), rfl, by omega, by omega, big_room HU.out hacc, Lib.hid (unit_next HU.out), Lib.hid (tk_next HE.out h9 hlt HX.out (by omega) hx)⟩
          case measure => simp only [intOf]; omega
/-- What TakeText answers. -/
def tt (l : List UInt8) (most : Int) : List UInt8 × Nat × Nat :=
  if (OM.take l).2.2 ≠ 0 then ([], 0, (OM.take l).2.2)
  else if (max most 0) < ((OM.take l).1 : Int) then ([], 0, 21)
  else if l.length - (OM.take l).2.1 < (OM.take l).1 then ([], 0, 20)
  else ((l.drop (OM.take l).2.1).take (OM.take l).1, (OM.take l).2.1 + (OM.take l).1, 0)
theorem tt_bad {l : List UInt8} {x : Nat} {most : Int} (h : OM.take l = (0, 0, x)) (hx : x ≠ 0) : tt l most = ([], 0, x) := by
  unfold tt
  rw [h]
  simp [hx]
theorem tt_long {l : List UInt8} {a s : Nat} {most : Int} (h : OM.take l = (a, s, 0)) (h1 : max most 0 < (a : Int)) : tt l most = ([], 0, 21) := by
  unfold tt
  rw [h]
  simp only [ne_eq, not_true_eq_false, if_false]
  rw [if_pos h1]
theorem tt_short {l : List UInt8} {a s : Nat} {most : Int} (h : OM.take l = (a, s, 0)) (h1 : (a : Int) ≤ max most 0) (h2 : l.length - s < a) : tt l most = ([], 0, 20) := by
  unfold tt
  rw [h]
  simp only [ne_eq, not_true_eq_false, if_false]
  rw [if_neg (by omega), if_pos h2]
theorem tt_ok {l : List UInt8} {a s : Nat} {most : Int} (h : OM.take l = (a, s, 0)) (h1 : (a : Int) ≤ max most 0) (h2 : a ≤ l.length - s) : tt l most = ((l.drop s).take a, s + a, 0) := by
  unfold tt
  rw [h]
  simp only [ne_eq, not_true_eq_false, if_false]
  rw [if_neg (by omega), if_neg (by omega)]
theorem rtext_tt (l : List UInt8) (most : Int) : OM.rtext l 0 most = if (tt l most).2.2 ≠ 0 then ([], l, (tt l most).2.2) else ((tt l most).1, l.drop (tt l most).2.1, 0) := by
  unfold OM.rtext tt
  rw [if_neg (by simp)]
  split
  · simp
  · split
    · simp
    · split
      · simp
      · simp
theorem tt_le (l : List UInt8) (most : Int) : (tt l most).2.1 ≤ l.length := by
  unfold tt
  rcases OM.take_err l with ⟨a, s, ht⟩ | ht | ht
  · have := OM.take_le ht
    rw [ht]
    simp only [ne_eq, not_true_eq_false, if_false]
    split
    · simp
    · split
      · simp
      · simp; omega
  · rw [ht]; simp
  · rw [ht]; simp
/-- What TakeText answers, as an ending. -/
def TTPost (l : List UInt8) (most : Int) (w : World) (x : Ending) (w' : World) : Prop := x = .returned (.tuple #[.string ⟨(tt l most).1.toArray⟩, .int .i64 ((tt l most).2.1 : Int), .int .i64 ((tt l most).2.2 : Int)]) ∧ w = w'
theorem ttPost {l t : List UInt8} {most : Int} {w : World} {s : ByteArray} {k e : Nat} {i j : Int} (h : tt l most = (t, k, e)) (hs : s = ⟨t.toArray⟩) (hi : i = (k : Int)) (hj : j = (e : Int)) : TTPost l most w (.returned (.tuple #[.string s, .int .i64 i, .int .i64 j])) w := by
  unfold TTPost
  rw [h, hs, hi, hj]
  exact ⟨rfl, rfl⟩
theorem text_mid {w : World} {b o s a c : Nat} {l : List UInt8} (K2 : BytesAt w (some ⟨b, o, none⟩) l) (hs : s ≤ l.length) (h3 : l.length ≤ c) (hcs : ¬ c = s) (hfit : a ≤ l.length - s) :
    ∀ (c' : Nat), (convert 29 9 (.slice (some ⟨b, o + s, none⟩) a c')).run Try.prog w = .ok (.string ⟨((l.drop s).take a).toArray⟩) w := by
  intro c'
  have h1 := K2.cut (k := s) (c := c) hs h3
  rw [if_neg hcs] at h1
  have h2 : BytesAt w (some ⟨b, o + s, none⟩) (l.drop s) := by
    have e : Option.map (fun x : Addr => x.add s) (some ⟨b, o, none⟩) = some ⟨b, o + s, none⟩ := by
      show some ((⟨b, o, none⟩ : Addr).add s) = _
      rw [Addr.add_lit]
    rw [← e]
    exact h1
  have h3 := str_of (c := c') (h2.front a)
  have hl : ((l.drop s).take a).length = a := by rw [List.length_take, List.length_drop]; omega
  rw [hl] at h3
  exact h3
set_option maxHeartbeats 2000000 in
theorem TakeText_any (A : Option Addr) (c : Nat) (l : List UInt8) (most : Int) (w : World) (hmost : -9223372036854775808 ≤ most ∧ most ≤ 9223372036854775807) (h : BytesAt w A l) (h3 : l.length ≤ c) (h4 : c ≤ 9223372036854775807) :
    Calls Try.prog 59 #[.slice A l.length c, .int .i64 most] w (TTPost l most w) := by
  have K2 := Lib.hid h; clear h
  rcases OM.take_err l with ⟨a, s, ht⟩ | ht | ht
  · have hs := OM.take_le ht
    have ha := (OM.take_one ht).1
    have T := Lib.hid ht; clear ht
    obtain ⟨b, o, hA, _, _⟩ := K2.out (by have := OM.enc_pos a; have := (OM.take_one T.out).2.1; omega)
    subst hA
    by_cases hneg : most < 0
    · have HM := Lib.hid (show (0 : Int) = max most 0 by omega)
      by_cases hlong : 0 < (a : Int)
      · go_enter Try.func59, Try.ntmps59
        go_wp2_with (go_at_call 82; refine (TakeNum_any _ _ l _ K2.out (by omega)).mono ?_; rintro x w' ⟨rfl, rfl⟩; rw [T.out])
        all_goals
          first
            | (exfalso; omega)
            | (go_ret3; exact ttPost (tt_long T.out (by rw [← HM.out]; exact hlong)) rfl rfl rfl)
      · have hin : (a : Int) ≤ 0 := by omega
        have HI := Lib.hid hin
        by_cases hshort : l.length - s < a
        · have hsh : ((l.length : Int) - (s : Int)) < (a : Int) := by omega
          go_enter Try.func59, Try.ntmps59
          go_wp2_with (go_at_call 82; refine (TakeNum_any _ _ l _ K2.out (by omega)).mono ?_; rintro x w' ⟨rfl, rfl⟩; rw [T.out])
          all_goals
            first
              | (exfalso; omega)
              | (go_ret3; exact ttPost (tt_short T.out (by rw [← HM.out]; exact HI.out) hshort) rfl rfl rfl)
        · have hfit : a ≤ l.length - s := by omega
          have hfi : (a : Int) ≤ ((l.length : Int) - (s : Int)) := by omega
          by_cases hcs : c = s
          · have ha0 : a = 0 := by omega
            subst ha0
            subst hcs
            have hS : ∀ (w' : World) (A : Option Addr) (c' : Nat), (convert 29 9 (.slice A 0 c')).run Try.prog w' = .ok (.string ⟨#[]⟩) w' := fun w' A c' => str_of (c := c') (BytesAt.nil w' A)
            go_enter Try.func59, Try.ntmps59
            go_wp2_with (go_at_call 82; refine (TakeNum_any _ _ l _ K2.out (by omega)).mono ?_; rintro x w' ⟨rfl, rfl⟩; rw [T.out])
            all_goals
              first
                | (exfalso; omega)
                | (go_ret3; exact ttPost (tt_ok T.out (by rw [← HM.out]; exact HI.out) hfit) (by rw [List.take_zero]) (by omega) rfl)
          · have hS := text_mid (a := a) K2.out hs h3 hcs hfit
            go_enter Try.func59, Try.ntmps59
            go_wp2_with (go_at_call 82; refine (TakeNum_any _ _ l _ K2.out (by omega)).mono ?_; rintro x w' ⟨rfl, rfl⟩; rw [T.out])
            all_goals
              first
                | (exfalso; omega)
                | (go_ret3; exact ttPost (tt_ok T.out (by rw [← HM.out]; exact HI.out) hfit) rfl (by omega) rfl)
    · have hpos : 0 ≤ most := by omega
      have HM := Lib.hid (show most = max most 0 by omega)
      by_cases hlong : most < (a : Int)
      · go_enter Try.func59, Try.ntmps59
        go_wp2_with (go_at_call 82; refine (TakeNum_any _ _ l _ K2.out (by omega)).mono ?_; rintro x w' ⟨rfl, rfl⟩; rw [T.out])
        all_goals
          first
            | (exfalso; omega)
            | (go_ret3; exact ttPost (tt_long T.out (by rw [← HM.out]; exact hlong)) rfl rfl rfl)
      · have hin : (a : Int) ≤ most := by omega
        have HI := Lib.hid hin
        by_cases hshort : l.length - s < a
        · have hsh : ((l.length : Int) - (s : Int)) < (a : Int) := by omega
          go_enter Try.func59, Try.ntmps59
          go_wp2_with (go_at_call 82; refine (TakeNum_any _ _ l _ K2.out (by omega)).mono ?_; rintro x w' ⟨rfl, rfl⟩; rw [T.out])
          all_goals
            first
              | (exfalso; omega)
              | (go_ret3; exact ttPost (tt_short T.out (by rw [← HM.out]; exact HI.out) hshort) rfl rfl rfl)
        · have hfit : a ≤ l.length - s := by omega
          have hfi : (a : Int) ≤ ((l.length : Int) - (s : Int)) := by omega
          by_cases hcs : c = s
          · have ha0 : a = 0 := by omega
            subst ha0
            subst hcs
            have hS : ∀ (w' : World) (A : Option Addr) (c' : Nat), (convert 29 9 (.slice A 0 c')).run Try.prog w' = .ok (.string ⟨#[]⟩) w' := fun w' A c' => str_of (c := c') (BytesAt.nil w' A)
            go_enter Try.func59, Try.ntmps59
            go_wp2_with (go_at_call 82; refine (TakeNum_any _ _ l _ K2.out (by omega)).mono ?_; rintro x w' ⟨rfl, rfl⟩; rw [T.out])
            all_goals
              first
                | (exfalso; omega)
                | (go_ret3; exact ttPost (tt_ok T.out (by rw [← HM.out]; exact HI.out) hfit) (by rw [List.take_zero]) (by omega) rfl)
          · have hS := text_mid (a := a) K2.out hs h3 hcs hfit
            go_enter Try.func59, Try.ntmps59
            go_wp2_with (go_at_call 82; refine (TakeNum_any _ _ l _ K2.out (by omega)).mono ?_; rintro x w' ⟨rfl, rfl⟩; rw [T.out])
            all_goals
              first
                | (exfalso; omega)
                | (go_ret3; exact ttPost (tt_ok T.out (by rw [← HM.out]; exact HI.out) hfit) rfl (by omega) rfl)
  all_goals
    have T := Lib.hid ht; clear ht
    go_enter Try.func59, Try.ntmps59
    go_wp2_with (go_at_call 82; refine (TakeNum_any _ _ l _ K2.out (by omega)).mono ?_; rintro x w' ⟨rfl, rfl⟩; rw [T.out])
    all_goals
      go_ret3
      exact ttPost (tt_bad T.out (by decide)) rfl rfl rfl
end Go.Proofs.Ytboflkadabagfab.Oct
