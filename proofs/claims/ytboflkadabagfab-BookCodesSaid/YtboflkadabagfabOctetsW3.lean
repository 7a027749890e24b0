/- The reader's calls but Text: what each answers, what it leaves. -/
import Derived.Test.YtboflkadabagfabOctetsW2
import Derived.Test.YtboflkadabagfabOctetsW1
namespace Go.Proofs.Ytboflkadabagfab.Oct
open Go.RowKit
set_option maxRecDepth 100000
theorem pow128 (k : Nat) : (2 : Nat) ^ (k * 7) = 128 ^ k := by
  rw [Nat.mul_comm, Nat.pow_mul]
theorem pow128_le {k : Nat} (h : k < 9) : 128 ^ (k + 1) ≤ 9223372036854775808 := by
  have : 128 ^ (k + 1) ≤ 128 ^ 9 := Nat.pow_le_pow_right (by decide) (by omega)
  exact Nat.le_trans this (by decide)
theorem or_step {acc x k : Nat} (hacc : acc < 128 ^ k) (hx : x < 256) (hk : k < 9) :
    bits .or .i64 (acc : Int) (wrap64 (wrap64 (bits .and .u8 (x : Int) 127) * 2 ^ (k * 7))) = ((acc + x % 128 * 128 ^ k : Nat) : Int) := by
  have h1 : bits .and .u8 (x : Int) 127 = ((x % 128 : Nat) : Int) := by
    have h := u8_and_nat x 127 hx (by decide)
    rw [nat_mask7] at h
    exact h
  have hp := pow128_le hk
  have h2 : x % 128 * 128 ^ k ≤ 127 * 128 ^ k := Nat.mul_le_mul_right _ (by omega)
  have h3 : (128 : Nat) ^ (k + 1) = 128 * 128 ^ k := by rw [Nat.pow_succ, Nat.mul_comm]
  have h4 : (((x % 128 : Nat) : Int) * 2 ^ (k * 7)) = ((x % 128 * 128 ^ k : Nat) : Int) := by
    rw [← pow128 k, Int.natCast_mul, Int.natCast_pow]
    rfl
  rw [h1, IntWalk.wrap64_in ((x % 128 : Nat) : Int) ⟨by omega, by omega⟩, h4, IntWalk.wrap64_in _ ⟨by omega, by omega⟩]
  rw [or64 acc _ (by omega) (by omega), Nat.or_comm, nat_join (k * 7) _ acc (by rw [pow128]; exact Nat.mul_mod_left _ _) (by rw [pow128]; exact hacc), Nat.add_comm]
theorem next_room {acc x k : Nat} (hacc : acc < 128 ^ k) : acc + x % 128 * 128 ^ k < 128 ^ (k + 1) := by
  have h2 : x % 128 * 128 ^ k ≤ 127 * 128 ^ k := Nat.mul_le_mul_right _ (by omega)
  have h3 : (128 : Nat) ^ (k + 1) = 128 * 128 ^ k := by rw [Nat.pow_succ, Nat.mul_comm]
  omega
section
variable {l : List UInt8} {k acc x : Nat} (HE : OM.take l = OM.tk (9 - k) k acc (l.drop k)) (hk : k < 9)
include HE hk
theorem tk_end (h : k = l.length) : OM.take l = (0, 0, 20) := by
  rw [HE, show 9 - k = (8 - k) + 1 by omega, List.drop_of_length_le (by omega)]
  rfl
theorem tk_at (h : k < l.length) (hx : (l[k]).toNat = x) : OM.take l = if x < 128 then (if x = 0 ∧ 0 < k then (0, 0, 21) else (acc + x * 128 ^ k, k + 1, 0))
    else OM.tk (9 - (k + 1)) (k + 1) (acc + (x - 128) * 128 ^ k) (l.drop (k + 1)) := by
  rw [HE, show 9 - k = (8 - k) + 1 by omega, List.drop_eq_getElem_cons h, OM.tk, hx, show 8 - k = 9 - (k + 1) by omega]
theorem tk_zero (h : k < l.length) (hx : (l[k]).toNat = x) (h0 : x = 0) (hp : 0 < k) : OM.take l = (0, 0, 21) := by
  rw [tk_at HE hk h hx, if_pos (by omega), if_pos ⟨h0, hp⟩]
theorem tk_last (h : k < l.length) (hx : (l[k]).toNat = x) (h0 : x < 128) (hp : ¬ (x = 0 ∧ 0 < k)) : OM.take l = (acc + x % 128 * 128 ^ k, k + 1, 0) := by
  rw [tk_at HE hk h hx, if_pos h0, if_neg hp, Nat.mod_eq_of_lt h0]
theorem tk_next (h : k < l.length) (hx : (l[k]).toNat = x) (h0 : 128 ≤ x) (h1 : x < 256) : OM.take l = OM.tk (9 - (k + 1)) (k + 1) (acc + x % 128 * 128 ^ k) (l.drop (k + 1)) := by
  rw [tk_at HE hk h hx, if_neg (by omega), show x % 128 = x - 128 by omega]
end
theorem tk_nine {l : List UInt8} {k acc : Nat} (HE : OM.take l = OM.tk (9 - k) k acc (l.drop k)) (hk : ¬ k < 9) : OM.take l = (0, 0, 21) := by
  rw [HE, show 9 - k = 0 by omega]
  rfl
theorem three_ints {a b c x y z : Int} (h1 : a = x) (h2 : b = y) (h3 : c = z) : Ending.returned (.tuple #[.int .i64 a, .int .i64 b, .int .i64 c]) = .returned (.tuple #[.int .i64 x, .int .i64 y, .int .i64 z]) := by rw [h1, h2, h3]
theorem took {l : List UInt8} {a b c : Nat} {x y z : Int} (h : OM.take l = (a, b, c)) (h1 : x = (a : Int)) (h2 : y = (b : Int)) (h3 : z = (c : Int)) :
    Ending.returned (.tuple #[.int .i64 x, .int .i64 y, .int .i64 z]) = .returned (.tuple #[.int .i64 ((OM.take l).1 : Int), .int .i64 ((OM.take l).2.1 : Int), .int .i64 ((OM.take l).2.2 : Int)]) := by
  rw [h, h1, h2, h3]
set_option maxRecDepth 100000 in
set_option maxHeartbeats 1000000 in
theorem number_any (A : Option Addr) (c : Nat) (l : List UInt8) (w : World) (h : BytesAt w A l) (hl : l.length ≤ 9223372036854775807) :
    Calls Try.prog 80 #[.slice A l.length c] w fun e w' => e = .returned (.tuple #[.int .i64 ((OM.take l).1 : Int), .int .i64 ((OM.take l).2.1 : Int), .int .i64 ((OM.take l).2.2 : Int)]) ∧ w = w' := by
  have H := Lib.hid h; clear h
  go_enter Try.func80, Try.ntmps80
  go_wp2_with fail
  go_loop [2, 6] (fun n i => ∃ (k acc : Nat), i = .int .i64 (k : Int) ∧ n = .int .i64 (acc : Int) ∧ k ≤ 9 ∧ k ≤ l.length ∧ acc < 128 ^ k ∧ Hid (OM.take l = OM.tk (9 - k) k acc (l.drop k))) (fun _ i => 9 - (intOf i).toNat)
  case atStart => exact ⟨0, 0, rfl, rfl, by omega, by omega, by decide, Lib.hid rfl⟩
  case round =>
    obtain ⟨k, acc, rfl, rfl, hk, hkl, hacc, HE⟩ := hrel
    have HC := Lib.hid hacc; clear hacc
    by_cases h9 : k < 9
    · by_cases hend : k = l.length
      · have T := Lib.hid (tk_end HE.out h9 hend)
        subst hend
        go_wp2_with fail
        go_ret3
        exact ⟨took T.out rfl rfl rfl, rfl⟩
      · have hlt : k < l.length := by omega
        obtain ⟨b, o, hA, hb, hc⟩ := H.out (by omega)
        subst hA
        have hcell : w.cell? ⟨b, o + k, none⟩ = some (.int .u8 ((l[k]).toNat : Int)) := hc k l[k] (List.getElem?_eq_getElem hlt)
        clear hc hb
        have hx : (l[k]).toNat < 256 := (l[k]).toNat_lt
        generalize hxe : (l[k]).toNat = x at hcell hx
        have HX := Lib.hid hxe; clear hxe
        go_wp2_with fail
        · go_ret3
          exact ⟨took (tk_zero HE.out h9 hlt HX.out ‹x = 0› ‹0 < k›) rfl rfl rfl, rfl⟩
        · go_ret3
          have e0 : x = 0 := ‹x = 0›
          exact ⟨took (tk_last HE.out h9 hlt HX.out (by omega) (by omega)) (by rw [e0]; exact or_step (x := 0) HC.out (by decide) h9) rfl rfl, rfl⟩
        · go_ret3
          exact ⟨took (tk_last HE.out h9 hlt HX.out (by omega) (by omega)) (or_step HC.out hx h9) rfl rfl, rfl⟩
        · go_round
          case rel => exact ⟨k + 1, acc + x % 128 * 128 ^ k, rfl, by rw [or_step HC.out hx h9], by omega, by omega, next_room HC.out, Lib.hid (tk_next HE.out h9 hlt HX.out (by omega) hx)⟩
          case measure => simp only [intOf]; omega
    · have T := Lib.hid (tk_nine HE.out h9)
      have e9 : k = 9 := by omega
      subst e9
      go_wp2_with fail
      go_ret3
      exact ⟨took T.out rfl rfl rfl, rfl⟩
/-- A reader at block r: the bytes that are left (in block b), its error. -/
def RAt (w : World) (r b : Nat) (l : List UInt8) (e : Nat) : Prop :=
  ∃ A c, Whole w r 118 #[.slice A l.length c, .int .i64 (e : Int)] ∧ BytesAt w A l ∧ l.length ≤ c ∧ c ≤ 9223372036854775807 ∧ ∀ ad : Addr, A = some ad → ad.block = b
/-- What a call on a reader leaves. -/
def Read (w : World) (r b : Nat) (l : List UInt8) (e : Nat) (w' : World) : Prop := RAt w' r b l e ∧ Mod [r] w w'
theorem BytesAt.ne {w : World} {r b o : Nat} {l : List UInt8} {v : Value} {n : Int} {t : TypeId} (h : BytesAt w (some ⟨b, o, none⟩) l) (h0 : 0 < l.length) (hr : Whole w r t #[v, .int .i64 n]) (hv : ∀ k, v ≠ .int .u8 k) : b ≠ r := by
  intro e
  subst e
  obtain ⟨b', o', e, hb, hc⟩ := h h0
  cases e
  have h1 := hc 0 l[0] (List.getElem?_eq_getElem h0)
  have h2 := hr.cell (o + 0)
  rw [h1] at h2
  match o, h2 with
  | 0, h2 => simp [u8] at h2; exact hv _ h2.symm
  | 1, h2 => simp [u8] at h2
  | (n + 2), h2 => simp at h2
theorem BytesAt.kept {w w' : World} {r : Nat} {A : Option Addr} {l : List UInt8} {v : Value} {n : Int} {t : TypeId} (h : BytesAt w A l) (hr : Whole w r t #[v, .int .i64 n]) (hv : ∀ k, v ≠ .int .u8 k) (hm : Mod [r] w w') : BytesAt w' A l := fun h0 => by
  obtain ⟨b, o, e, hb, hc⟩ := h h0
  subst e
  have hne : b ≠ r := h.ne h0 hr hv
  exact ⟨b, o, rfl, Nat.lt_of_lt_of_le hb hm.size, fun j x hx => (hm.cell (p := ⟨b, o + j, none⟩) hb (by simpa using hne)).trans (hc j x hx)⟩
theorem BytesAt.cut {w : World} {A : Option Addr} {l : List UInt8} (h : BytesAt w A l) {k c : Nat} (hk : k ≤ l.length) (hc : l.length ≤ c) : BytesAt w (if c = k then A else A.map (·.add k)) (l.drop k) := fun h0 => by
  rw [List.length_drop] at h0
  obtain ⟨b, o, e, hb, hcc⟩ := h (by omega)
  subst e
  refine ⟨b, o + k, ?_, hb, fun j x hx => ?_⟩
  · rw [if_neg (by omega)]
    show some ((⟨b, o, none⟩ : Addr).add k) = _
    rw [Addr.add_lit]
  · rw [List.getElem?_drop] at hx
    rw [Nat.add_assoc]
    exact hcc _ x hx
theorem BytesAt.front {w : World} {A : Option Addr} {l : List UInt8} (h : BytesAt w A l) (k : Nat) : BytesAt w A (l.take k) := fun h0 => by
  rw [List.length_take] at h0
  obtain ⟨b, o, e, hb, hc⟩ := h (by omega)
  refine ⟨b, o, e, hb, fun j x hx => hc j x ?_⟩
  rw [List.getElem?_take] at hx
  split at hx
  · exact hx
  · cases hx
theorem own_shape {w : World} {base : Nat} {e : TypeId} {size n : Nat} {v : Value} {xs : List Value} (h : w.ownsRow base e size v n xs) : ∃ A c, v = .slice A n c ∧ n ≤ c ∧ c ≤ 9223372036854775807 := by
  rcases h.2 with ⟨rfl, rfl⟩ | ⟨g, cap, cur, rfl, _, _, h1, h2, _⟩
  · exact ⟨none, 0, rfl, Nat.le_refl _, by omega⟩
  · exact ⟨_, cap, rfl, h1, by unfold maxLen at h2; omega⟩
/-- A reader that was made just now of these bytes. -/
def Opened (w : World) (xs : List UInt8) (e : Ending) (w' : World) : Prop := ∃ r b, e = .returned (.pointer (some ⟨r, 0, none⟩)) ∧ RAt w' r b xs 0 ∧ Below w.heap.size w w' ∧ w.heap.size ≤ r ∧ r < w'.heap.size ∧ w.heap.size ≤ b ∧ b < w'.heap.size
set_option maxHeartbeats 1000000 in
theorem Err_any (r b : Nat) (l : List UInt8) (e : Nat) (w : World) (h : RAt w r b l e) :
    Calls Try.prog 79 #[.pointer (some ⟨r, 0, none⟩)] w fun x w' => x = .returned (.int .i64 (e : Int)) ∧ w = w' := by
  obtain ⟨A, c, h1, _⟩ := h
  have c1 : w.cell? ⟨r, 1, none⟩ = some (.int .i64 (e : Int)) := h1.cell 1
  clear h1
  go_enter Try.func79, Try.ntmps79
  go_wp2
  go_ret
  exact ⟨rfl, rfl⟩
set_option maxHeartbeats 1000000 in
theorem NewReader_any (A : Option Addr) (c : Nat) (xs : List UInt8) (w : World) (h : BytesAt w A xs) (hl : xs.length ≤ 140737488355328) :
    Calls Try.prog 54 #[.slice A xs.length c] w (Opened w xs) := by
  go_enter Try.func54, Try.ntmps54
  go_wp2_with (go_at_call 76; refine (Clone_any A c xs _ h hl).mono ?_; rintro e w1 ⟨v, rfl, hown, hb⟩; obtain ⟨A', c', rfl, k1, k2⟩ := own_shape hown; have HO := Lib.hid hown; have HB := Lib.hid hb; clear hown hb)
  go_ret
  have hsz : (w1.alloc (.cells #[.slice A' xs.length c', .int .i64 0] 118)).heap.size = w1.heap.size + 1 := by simp
  have hlt := HO.out.lt
  have hw1 := HB.out.size
  cases A' with
  | none => exact ⟨w1.heap.size, w1.heap.size, rfl, ⟨none, c', Whole.new _ _ _, (BytesAt.own HO.out).below ((Below.refl _ w1).alloc (Nat.le_refl _) _), k1, k2, fun ad h => by cases h⟩, HB.out.alloc HB.out.size _, hw1, by omega, hw1, by omega⟩
  | some ad =>
    have h := hlt ad.block rfl
    exact ⟨w1.heap.size, ad.block, rfl, ⟨some ad, c', Whole.new _ _ _, (BytesAt.own HO.out).below ((Below.refl _ w1).alloc (Nat.le_refl _) _), k1, k2, fun ad' h' => by cases h'; rfl⟩, HB.out.alloc HB.out.size _, hw1, by omega, h.1, by omega⟩
theorem map_block {A : Option Addr} {b s : Nat} (h : ∀ ad : Addr, A = some ad → ad.block = b) : ∀ ad : Addr, A.map (·.add s) = some ad → ad.block = b := by
  intro ad hA
  obtain ⟨a0, h0, rfl⟩ := Option.map_eq_some_iff.1 hA
  have e : (a0.add s).block = a0.block := by unfold Addr.add; split <;> rfl
  rw [e]
  exact h a0 h0
theorem read_on {w : World} {r b s c : Nat} {l : List UInt8} {e : Nat} {A A' : Option Addr} (K1 : Whole w r 118 #[.slice A l.length c, .int .i64 (e : Int)]) (hB : BytesAt w A' (l.drop s)) (hs : s ≤ l.length) (h3 : l.length ≤ c) (h4 : c ≤ 9223372036854775807) (hAb : ∀ ad : Addr, A' = some ad → ad.block = b) :
    Read w r b (l.drop s) e (w.setCell ⟨r, 0, none⟩ (.slice A' (l.length - s) (c - s))) := by
  have hm : Mod [r] w (w.setCell ⟨r, 0, none⟩ (.slice A' (l.length - s) (c - s))) := (Mod.refl _ _).store (.inl (by simp)) _
  refine ⟨⟨A', c - s, ?_, ?_, ?_, by omega, hAb⟩, hm⟩
  · rw [List.length_drop]
    exact K1.store 0 _
  · exact hB.kept K1 (by intro k h; cases h) hm
  · rw [List.length_drop]; omega
theorem read_err {w : World} {r b c : Nat} {l : List UInt8} {e e' : Nat} {A : Option Addr} (K1 : Whole w r 118 #[.slice A l.length c, .int .i64 (e : Int)]) (hB : BytesAt w A l) (h3 : l.length ≤ c) (h4 : c ≤ 9223372036854775807) (hAb : ∀ ad : Addr, A = some ad → ad.block = b) :
    Read w r b l e' (w.setCell ⟨r, 1, none⟩ (.int .i64 (e' : Int))) := by
  have hm : Mod [r] w (w.setCell ⟨r, 1, none⟩ (.int .i64 (e' : Int))) := (Mod.refl _ _).store (.inl (by simp)) _
  exact ⟨⟨A, c, K1.store 1 _, hB.kept K1 (by intro k h; cases h) hm, h3, h4, hAb⟩, hm⟩
theorem Read.id {w : World} {r b : Nat} {l : List UInt8} {e : Nat} (h : RAt w r b l e) : Read w r b l e w := ⟨h, Mod.refl _ _⟩
theorem rnum_ok {l : List UInt8} {a s : Nat} (h : OM.take l = (a, s, 0)) : OM.rnum l 0 = (a, l.drop s, 0) := by
  unfold OM.rnum
  rw [if_neg (by simp), h]
  simp
theorem rnum_bad {l : List UInt8} {x : Nat} (h : OM.take l = (0, 0, x)) (hx : x ≠ 0) : OM.rnum l 0 = (0, l, x) := by
  unfold OM.rnum
  rw [if_neg (by simp), h]
  simp [hx]
theorem rnum_stuck {l : List UInt8} {e : Nat} (h : e ≠ 0) : OM.rnum l e = (0, l, e) := by
  unfold OM.rnum
  rw [if_pos h]
/-- What Num answers, and what it leaves. -/
def NumPost (w : World) (r b : Nat) (l : List UInt8) (e : Nat) (x : Ending) (w' : World) : Prop := x = .returned (.int .i64 ((OM.rnum l e).1 : Int)) ∧ Read w r b (OM.rnum l e).2.1 (OM.rnum l e).2.2 w'
theorem numPost {w w' : World} {r b : Nat} {l : List UInt8} {e : Nat} {a : Nat} {m : List UInt8} {x : Nat} (h : OM.rnum l e = (a, m, x)) {n : Int} (hn : n = (a : Int)) (hr : Read w r b m x w') : NumPost w r b l e (.returned (.int .i64 n)) w' := by
  unfold NumPost
  rw [h, hn]
  exact ⟨rfl, hr⟩
set_option maxHeartbeats 1000000 in
theorem RNum_any (r b : Nat) (l : List UInt8) (e : Nat) (w : World) (h : RAt w r b l e) :
    Calls Try.prog 55 #[.pointer (some ⟨r, 0, none⟩)] w (NumPost w r b l e) := by
  have H := Lib.hid h
  obtain ⟨A, c, h1, h2, h3, h4, h5⟩ := h
  have c0 : w.cell? ⟨r, 0, none⟩ = some (.slice A l.length c) := h1.cell 0
  have c1 : w.cell? ⟨r, 1, none⟩ = some (.int .i64 (e : Int)) := h1.cell 1
  have f0 := h1.frozen 0
  have f1 := h1.frozen 1
  have K1 := Lib.hid h1; have K2 := Lib.hid h2; have K5 := Lib.hid h5; clear h1 h2 h5
  by_cases he : e = 0
  · subst he
    have c1 : w.cell? ⟨r, 1, none⟩ = some (.int .i64 0) := c1
    rcases OM.take_err l with ⟨a, s, ht⟩ | ht | ht
    · have hs := OM.take_le ht
      have T := Lib.hid ht; clear ht
      go_enter Try.func55, Try.ntmps55
      go_wp2_with (first
        | (go_at_call 79; refine (Err_any r b l 0 _ H.out).mono ?_; rintro x w' ⟨rfl, rfl⟩)
        | (go_at_call 80; refine (number_any A c l _ K2.out (by omega)).mono ?_; rintro x w' ⟨rfl, rfl⟩; rw [T.out]))
      · go_ret
        have hB := K2.out.cut (k := s) (c := c) hs h3
        rw [if_pos (by assumption)] at hB
        have hR := read_on K1.out hB hs h3 h4 K5.out
        rw [show c - s = 0 by omega] at hR
        exact numPost (rnum_ok T.out) rfl hR
      · go_ret
        have hB := K2.out.cut (k := s) (c := c) hs h3
        rw [if_neg (by assumption)] at hB
        exact numPost (rnum_ok T.out) rfl (read_on K1.out hB hs h3 h4 (map_block K5.out))
    all_goals
      have T := Lib.hid ht; clear ht
      go_enter Try.func55, Try.ntmps55
      go_wp2_with (first
        | (go_at_call 79; refine (Err_any r b l 0 _ H.out).mono ?_; rintro x w' ⟨rfl, rfl⟩)
        | (go_at_call 80; refine (number_any A c l _ K2.out (by omega)).mono ?_; rintro x w' ⟨rfl, rfl⟩; rw [T.out]))
      go_ret
      exact numPost (rnum_bad T.out (by decide)) rfl (read_err K1.out K2.out h3 h4 K5.out)
  · have he' : ¬ (e : Int) = 0 := by omega
    go_enter Try.func55, Try.ntmps55
    go_wp2_with (go_at_call 79; refine (Err_any r b l e _ H.out).mono ?_; rintro x w' ⟨rfl, rfl⟩)
    go_ret
    exact numPost (rnum_stuck he) rfl (Read.id H.out)
end Go.Proofs.Ytboflkadabagfab.Oct
