/- Texts that belong together: OctetsW1, OctetsW2, OctetsW3, OctetsW4, OctetsW5, OctetsW6, OctetsW7, OctetsW8, OctetsW9. -/
import Derived.Test.YtbjemihcbbiiaaaOctetsLayA
import Derived.Test.YtbjemihcbbiiaaaOctetsLayB
import Derived.Test.YtbjemihcbbiiaaaOctA
import Derived.Lib.SliceRun
import Derived.StillTailTactics
import Derived.Laws.IdiomStrings
import Derived.Laws.BytesArg
import Derived.Maps.AppendAt
import Derived.LoopN
import Derived.Deep.OwnRows
namespace Go.Proofs.Ytbjemihcbbiiaaa.Oct
open Go.RowKit
set_option maxRecDepth 100000
theorem ofInt64 (a : Nat) (ha : a < 9223372036854775808) : (BitVec.ofInt 64 (a : Int)).toNat = a := by
  rw [BitVec.ofInt_natCast, BitVec.toNat_ofNat]
  exact Nat.mod_eq_of_lt (by omega)
theorem and64 (a b : Nat) (ha : a < 9223372036854775808) (hb : b < 9223372036854775808) : bits .and .i64 (a : Int) (b : Int) = ((a &&& b : Nat) : Int) := by
  have hx : a &&& b < 2 ^ 63 := Nat.and_lt_two_pow _ (by omega)
  show IntKind.i64.wrap ((BitVec.ofInt 64 (a : Int) &&& BitVec.ofInt 64 (b : Int)).toNat : Int) = _
  rw [BitVec.toNat_and, ofInt64 a ha, ofInt64 b hb, IntKind.wrap_i64]
  omega
theorem or64 (a b : Nat) (ha : a < 9223372036854775808) (hb : b < 9223372036854775808) : bits .or .i64 (a : Int) (b : Int) = ((a ||| b : Nat) : Int) := by
  have hx : a ||| b < 2 ^ 63 := Nat.or_lt_two_pow (by omega) (by omega)
  show IntKind.i64.wrap ((BitVec.ofInt 64 (a : Int) ||| BitVec.ofInt 64 (b : Int)).toNat : Int) = _
  rw [BitVec.toNat_or, ofInt64 a ha, ofInt64 b hb, IntKind.wrap_i64]
  omega
theorem low7 (m : Nat) (hm : m ≤ 9223372036854775807) : bits .and .i64 (m : Int) 127 = ((m % 128 : Nat) : Int) := by
  have h := and64 m 127 (by omega) (by decide)
  rw [nat_mask7] at h
  exact h
theorem more7 (m : Nat) : bits .or .i64 ((m % 128 : Nat) : Int) 128 = ((m % 128 + 128 : Nat) : Int) := by
  have h := or64 (m % 128) 128 (by omega) (by decide)
  rw [Nat.or_comm, nat_join 7 128 (m % 128) (by decide) (by omega), Nat.add_comm] at h
  exact h
theorem more7' (m : Nat) (hm : m ≤ 9223372036854775807) : bits .or .i64 (bits .and .i64 (m : Int) 127) 128 % 256 = ((m % 128 + 128 : Nat) : Int) := by
  rw [low7 m hm, more7 m]
  omega
theorem enc_step {N m : Nat} {pre : List UInt8} (h : OM.enc N = pre ++ OM.enc m) (hm : 128 ≤ m) : OM.enc N = (pre ++ [OM.by8 (m % 128 + 128)]) ++ OM.enc (m / 128) := by
  rw [h, OM.enc_more hm, List.append_assoc]
  rfl
theorem enc_stop {N m : Nat} {pre : List UInt8} (h : OM.enc N = pre ++ OM.enc m) (hm : m < 128) : OM.enc N = pre ++ [OM.by8 m] := by
  rw [h, OM.enc_last hm]
theorem enc_room {N m : Nat} {L pre : List UInt8} (h : OM.enc N = pre ++ OM.enc m) (hl : (L ++ OM.enc N).length ≤ 140737488355328) : (L ++ pre).length + 1 ≤ 140737488355328 := by
  have h1 := OM.enc_pos m
  rw [h, List.length_append, List.length_append] at hl
  rw [List.length_append]
  omega
theorem Laid.more {w w1 w2 : World} {a : Nat} {L pre : List UInt8} {F : List Nat} {c : UInt8} (h : Laid w a F (L ++ pre) w1) (k : ∀ F1, WAt w1 a (L ++ pre) F1 → Laid w1 a F1 ((L ++ pre) ++ [c]) w2) :
    Laid w a F (L ++ (pre ++ [c])) w2 := by
  rw [← List.append_assoc]
  exact h.then_ k
/-- One byte laid down. -/
theorem lay_any (a : Nat) (c : UInt8) (L : List UInt8) (F : List Nat) (w : World) (h : WAt w a L F) (hlen : L.length + 1 ≤ 140737488355328) :
    Calls Try.prog 88 #[.pointer (some ⟨a, 0, none⟩), u8 c] w fun e w' => e = .returned (.tuple #[]) ∧ Laid w a F (L ++ [c]) w' := by
  rcases h with ⟨rfl, rfl, h⟩ | ⟨p, g, cap, rfl, h1, h2, h3⟩
  · exact lay_none a c w h
  · exact lay_some a p g cap c L w hlen h1 h2 h3
theorem lay_nat (a m : Nat) (L : List UInt8) (F : List Nat) (w : World) (hm : m < 256) (h : WAt w a L F) (hlen : L.length + 1 ≤ 140737488355328) :
    Calls Try.prog 88 #[.pointer (some ⟨a, 0, none⟩), .int .u8 (m : Int)] w fun e w' => e = .returned (.tuple #[]) ∧ Laid w a F (L ++ [OM.by8 m]) w' := by
  have e := lay_any a (OM.by8 m) L F w h hlen
  unfold u8 at e
  rw [OM.by8_nat hm] at e
  exact e
set_option maxHeartbeats 1000000 in
theorem Num_any (a : Nat) (n : Int) (L : List UInt8) (F : List Nat) (w : World) (hn : -9223372036854775808 ≤ n ∧ n ≤ 9223372036854775807) (h : WAt w a L F) (hlen : (L ++ OM.enc n.toNat).length ≤ 140737488355328) :
    Calls Try.prog 72 #[.pointer (some ⟨a, 0, none⟩), .int .i64 n] w fun e w' => e = .returned (.tuple #[]) ∧ Laid w a F (L ++ OM.enc n.toNat) w' := by
  have H := Lib.hid h; clear h
  have HB := Lib.hid hlen; clear hlen
  go_enter Try.func72, Try.ntmps72
  go_wp2_with fail
  all_goals
    rename_i hsign
    go_loopw [1] (fun i wx => ∃ (m : Nat) (pre : List UInt8), i = .int .i64 (m : Int) ∧ m ≤ 9223372036854775807 ∧ Hid (OM.enc n.toNat = pre ++ OM.enc m) ∧ Laid w a F (L ++ pre) wx) (fun i _ => (intOf i).toNat)
    case atStart => exact ⟨n.toNat, [], by first | exact congrArg (Value.int .i64) (by omega) | skip, by omega, Lib.hid rfl, by rw [List.append_nil]; exact Laid.refl H.out⟩
    case round =>
      obtain ⟨m, pre, rfl, hm, HE, hL⟩ := hrel
      have HL := Lib.hid hL; clear hL
      obtain ⟨F1, hA, hM, hF⟩ := HL.out
      by_cases hlt : 127 < (m : Int)
      · have E2 := Lib.hid (more7' m hm)
        go_wp2_with (go_at_call 88; rw [E2.out]; refine (lay_nat a (m % 128 + 128) (L ++ pre) F1 _ (by omega) hA (enc_room HE.out HB.out)).mono ?_; rintro e w2 ⟨rfl, hl2⟩; have HL2 := Lib.hid hl2; clear hl2)
        go_roundw
        case rel => exact ⟨m / 128, pre ++ [OM.by8 (m % 128 + 128)], rfl, by omega, Lib.hid (enc_step HE.out (by omega)), by
          rw [← List.append_assoc]
          obtain ⟨F2, k1, k2, k3⟩ := HL2.out
          exact ⟨F2, k1, hM.trans k2 hF, fun x hx => (k3 x hx).elim (hF x) (fun hs => .inr (Nat.le_trans hM.size hs))⟩⟩
        case measure => simp only [intOf]; omega
      · go_wp2_with (go_at_call 88; refine (lay_nat a m (L ++ pre) F1 _ (by omega) hA (enc_room HE.out HB.out)).mono ?_; rintro e w2 ⟨rfl, hl2⟩; have HL2 := Lib.hid hl2; clear hl2)
        go_end0
        refine ⟨rfl, ?_⟩
        rw [enc_stop HE.out (by omega), ← List.append_assoc]
        obtain ⟨F2, k1, k2, k3⟩ := HL2.out
        exact ⟨F2, k1, hM.trans k2 hF, fun x hx => (k3 x hx).elim (hF x) (fun hs => .inr (Nat.le_trans hM.size hs))⟩
theorem take_step {s : ByteArray} {k : Nat} (h : k < s.size) : s.data.toList.take (k + 1) = s.data.toList.take k ++ [s[k]] := by
  rw [List.take_add_one]
  congr 1
  have h' : k < s.data.toList.length := by simpa using h
  rw [List.getElem?_eq_getElem h']
  rfl
theorem take_room {s : ByteArray} {k : Nat} {L : List UInt8} (h : k < s.size) (hl : (L ++ s.data.toList).length ≤ 140737488355328) : (L ++ s.data.toList.take k).length + 1 ≤ 140737488355328 := by
  have e : s.data.toList.length = s.size := rfl
  rw [List.length_append, e] at hl
  rw [List.length_append, List.length_take, e]
  omega
set_option maxHeartbeats 1000000 in
theorem eachByte_any (a : Nat) (s : ByteArray) (L : List UInt8) (F : List Nat) (w : World) (hs : s.size ≤ 9223372036854775807) (h : WAt w a L F) (hlen : (L ++ s.data.toList).length ≤ 140737488355328) :
    Calls Try.prog 87 #[.string s, .func (Fn.func 88) #[.pointer (some ⟨a, 0, none⟩)] #[]] w fun e w' => e = .returned (.tuple #[]) ∧ Laid w a F (L ++ s.data.toList) w' := by
  have H := Lib.hid h; clear h
  have HB := Lib.hid hlen; clear hlen
  go_enter Try.func87, Try.ntmps87
  go_wp2_with fail
  go_loopw [7] (fun i wx => ∃ (k : Nat), i = .int .i64 (k : Int) ∧ k ≤ s.size ∧ Laid w a F (L ++ s.data.toList.take k) wx) (fun i _ => s.size - (intOf i).toNat)
  case atStart => exact ⟨0, rfl, by omega, by rw [List.take_zero, List.append_nil]; exact Laid.refl H.out⟩
  case round =>
    obtain ⟨k, rfl, hk, hL⟩ := hrel
    have HL := Lib.hid hL; clear hL
    obtain ⟨F1, hA, hM, hF⟩ := HL.out
    by_cases hlt : k < s.size
    · go_wp2_with (go_at_call 88; refine (lay_any a s[k] (L ++ s.data.toList.take k) F1 _ hA (take_room hlt HB.out)).mono ?_; rintro e w2 ⟨rfl, hl2⟩; have HL2 := Lib.hid hl2; clear hl2)
      go_roundw
      case rel => exact ⟨k + 1, rfl, by omega, by
        rw [take_step hlt, ← List.append_assoc]
        obtain ⟨F2, k1, k2, k3⟩ := HL2.out
        exact ⟨F2, k1, hM.trans k2 hF, fun x hx => (k3 x hx).elim (hF x) (fun hs => .inr (Nat.le_trans hM.size hs))⟩⟩
      case measure => simp only [intOf]; omega
    · go_wp2_with fail
      go_end0
      refine ⟨rfl, ?_⟩
      have e : s.data.toList.take k = s.data.toList := List.take_of_length_le (by show s.size ≤ k; omega)
      rw [e] at HL
      exact HL.out
theorem encT_room {s : ByteArray} {L : List UInt8} (h : (L ++ OM.encT s.data.toList).length ≤ 140737488355328) : (L ++ OM.enc ((s.size : Int)).toNat).length ≤ 140737488355328 := by
  have e : s.data.toList.length = s.size := rfl
  unfold OM.encT at h
  rw [Int.toNat_natCast]
  rw [e, List.length_append, List.length_append] at h
  rw [List.length_append]
  omega
theorem encT_eq (s : ByteArray) (L : List UInt8) : L ++ OM.encT s.data.toList = (L ++ OM.enc ((s.size : Int)).toNat) ++ s.data.toList := by
  have e : s.data.toList.length = s.size := rfl
  unfold OM.encT
  rw [Int.toNat_natCast, e, List.append_assoc]
set_option maxHeartbeats 1000000 in
theorem Text_any (a : Nat) (s : ByteArray) (L : List UInt8) (F : List Nat) (w : World) (hs : s.size ≤ 9223372036854775807) (h : WAt w a L F) (hlen : (L ++ OM.encT s.data.toList).length ≤ 140737488355328) :
    Calls Try.prog 70 #[.pointer (some ⟨a, 0, none⟩), .string s] w fun e w' => e = .returned (.tuple #[]) ∧ Laid w a F (L ++ OM.encT s.data.toList) w' := by
  have H := Lib.hid h; clear h
  have HB := Lib.hid hlen; clear hlen
  go_enter Try.func70, Try.ntmps70
  go_wp2_with (go_at_call 72; refine (Num_any a _ L F _ (by omega) H.out (encT_room HB.out)).mono ?_; rintro e w1 ⟨rfl, hl1⟩; have HL1 := Lib.hid hl1; clear hl1)
  obtain ⟨F1, hA, hM, hF⟩ := HL1.out
  refine (eachByte_any a s _ F1 _ hs hA (by rw [← encT_eq]; exact HB.out)).mono ?_
  rintro e w2 ⟨rfl, hl2⟩
  have HL2 := Lib.hid hl2; clear hl2
  go_wp2
  go_end0
  refine ⟨rfl, ?_⟩
  rw [encT_eq]
  obtain ⟨F2, k1, k2, k3⟩ := HL2.out
  exact ⟨F2, k1, hM.trans k2 hF, fun x hx => (k3 x hx).elim (hF x) (fun hs => .inr (Nat.le_trans hM.size hs))⟩
end Go.Proofs.Ytbjemihcbbiiaaa.Oct
namespace Go.Proofs.Ytbjemihcbbiiaaa.Oct
open Go.RowKit
set_option maxRecDepth 100000
/-- What is answered reads as these bytes and is the call's own; what was there stands. -/
def Fresh (w : World) (xs : List UInt8) (e : Ending) (w' : World) : Prop := ∃ v, e = .returned v ∧ w'.ownsRow w.heap.size 5 1 v xs.length (u8s xs) ∧ Below w.heap.size w w'
theorem BytesAt.cells {w : World} {ad : Addr} {xs : List UInt8} (h : BytesAt w (some ad) xs) : ∀ j u, (u8s xs)[j]? = some u → w.cell? (ad.add j) = some u := by
  intro j u hu
  unfold u8s at hu
  rw [List.getElem?_map] at hu
  obtain ⟨x, hx, rfl⟩ := Option.map_eq_some_iff.1 hu
  have h0 : 0 < xs.length := Nat.lt_of_le_of_lt (Nat.zero_le j) (List.getElem?_eq_some_iff.1 hx).1
  obtain ⟨b, o, e, hb, hc⟩ := h h0
  cases e
  rw [Addr.add_lit]
  exact hc j x hx
set_option maxHeartbeats 1000000 in
theorem Clone_nil (c : Nat) (w : World) : Calls Try.prog 83 #[.slice none 0 c] w (Fresh w []) := by
  have he := fun w : World => Lib.run_eql_slice_nil (P := Try.prog) w 88 5 none 0 c 0 0 Try.underlying88
  go_enter Try.func83, Try.ntmps83
  go_wp2
  go_ret
  exact ⟨_, rfl, World.ownsRow_nil _ _ _ _, Below.refl _ _⟩
set_option maxHeartbeats 1000000 in
theorem Clone_some (ad : Addr) (c : Nat) (xs : List UInt8) (w : World) (h : BytesAt w (some ad) xs) (hl : xs.length ≤ 140737488355328) :
    Calls Try.prog 83 #[.slice (some ad) xs.length c] w (Fresh w xs) := by
  obtain ⟨i0, hi, hz0, hz1, hz2⟩ := info_parts info_u8
  have H := Lib.hid h; clear h
  have he := fun w : World => Lib.run_eql_slice_nil (P := Try.prog) w 88 5 (some ad) xs.length c 0 0 Try.underlying88
  go_enter Try.func83, Try.ntmps83
  go_wp2_with (at_builtin; refine wpList_append_own_at _ rfl (.tmp 5) (.tmp 6) 88 rfl w.heap.size 5 i0 (.int .u8 0) 1 1 Try.underlying88 hi hz0 hz1 hz2 rfl (by decide) (.slice (some ⟨w.heap.size, 0, none⟩) 0 0) 0 [] rfl (World.ownsRow_lit w #[] 0 (Nat.le_refl _) (by decide) rfl) ad xs.length c (u8s xs) rfl (by rw [u8s_len, Nat.mul_one]) (H.out.below ((Below.refl _ w).alloc (Nat.le_refl _) _)).cells one_u8 (by unfold maxLen; omega) (by omega) (by simp) ?_; intro v1 w1 hown hgrow _ hat)
  have HO := Lib.hid hown; have HG := Lib.hid hgrow; clear hown hgrow hat
  go_wp2
  go_ret
  refine ⟨_, rfl, by simpa using HO.out, ((Below.refl _ w).alloc (Nat.le_refl _) _).grown HG.out (by simp) (fun k hk => by cases hk; exact Nat.le_refl _)⟩
theorem Clone_any (A : Option Addr) (c : Nat) (xs : List UInt8) (w : World) (h : BytesAt w A xs) (hl : xs.length ≤ 140737488355328) :
    Calls Try.prog 83 #[.slice A xs.length c] w (Fresh w xs) := by
  cases A with
  | some ad => exact Clone_some ad c xs w h hl
  | none =>
    have h0 : xs = [] := by
      cases xs with
      | nil => rfl
      | cons y r =>
        obtain ⟨b, o, e, _⟩ := h (by simp)
        cases e
    subst h0
    exact Clone_nil c w
set_option maxHeartbeats 1000000 in
theorem Bytes_any (a : Nat) (L : List UInt8) (F : List Nat) (w : World) (h : WAt w a L F) (hl : L.length ≤ 140737488355328) :
    Calls Try.prog 67 #[.pointer (some ⟨a, 0, none⟩)] w (Fresh w L) := by
  rcases h with ⟨rfl, rfl, h⟩ | ⟨p, g, cap, rfl, h1, h2, h3⟩
  · have h0 : w.cell? ⟨a, 0, none⟩ = some (.pointer none) := h.cell 0
    go_enter Try.func67, Try.ntmps67
    go_wp2
    go_ret
    exact ⟨_, rfl, World.ownsRow_nil _ _ _ _, Below.refl _ _⟩
  · have a0 : w.cell? ⟨a, 0, none⟩ = some (.pointer (some ⟨p, 0, none⟩)) := h1.cell 0
    have a1 : w.cell? ⟨a, 1, none⟩ = some (.int .i64 (L.length : Int)) := h1.cell 1
    have p0 : w.cell? ⟨p, 0, none⟩ = some (.slice (some ⟨g, 0, none⟩) L.length cap) := h2.cell 0
    have hcap : L.length ≤ cap := by
      rcases h3.2 with ⟨h, _⟩ | ⟨g', cap', cur, hv, _, _, hle, _⟩
      · cases h
      · cases hv; exact hle
    have H3 := Lib.hid (BytesAt.own h3); clear h1 h2 h3
    go_enter Try.func67, Try.ntmps67
    go_wp2_with fail
    go_still_tail 12, (by kernel_rfl)
    change wpList _ _ _ _ _ w.drew
    have HB : Below w.heap.size w w.drew := (Below.refl _ w).drew
    have HY : Hid (BytesAt w.drew (some ⟨g, 0, none⟩) L) := H3
    have hsz : w.drew.heap.size = w.heap.size := rfl
    have HS := Lib.hid hsz; clear hsz
    generalize w.drew = w2 at HB HY HS ⊢
    go_wp2_with (go_at_call 83; refine (Clone_any _ _ L _ HY.out hl).mono ?_; rintro e w3 ⟨v, rfl, hf1, hf2⟩)
    go_ret
    exact ⟨v, rfl, by rw [← HS.out]; exact hf1, HB.trans (by rw [← HS.out]; exact hf2)⟩
end Go.Proofs.Ytbjemihcbbiiaaa.Oct
namespace Go.Proofs.Ytbjemihcbbiiaaa.Oct
open Go.RowKit
set_option maxRecDepth 100000
theorem pow128 (k : Nat) : (2 : Nat) ^ (k * 7) = 128 ^ k := by
  rw [Nat.mul_comm, Nat.pow_mul]
theorem pow128_le {k : Nat} (h : k < 9) : 128 ^ (k + 1) ≤ 9223372036854775808 := by
  have : 128 ^ (k + 1) ≤ 128 ^ 9 := Nat.pow_le_pow_right (by decide) (by omega)
  exact Nat.le_trans this (by decide)
theorem or_step {acc x k : Nat} (hacc : acc < 128 ^ k) (hx : x < 256) (hk : k < 9) :
    bits .or .i64 (acc : Int) (wrap64 (wrap64 (bits .and .u8 (x : Int) 127) * 2 ^ (k * 7))) = ((acc + x % 128 * 128 ^ k : Nat) : Int) := by
  have h1 : bits .and .u8 (x : Int) 127 = ((x % 128 : Nat) : Int) := by
    have h := u8_and_nat x 127 hx (by decide)
    rw [nat_mask7] at h
    exact h
  have hp := pow128_le hk
  have h2 : x % 128 * 128 ^ k ≤ 127 * 128 ^ k := Nat.mul_le_mul_right _ (by omega)
  have h3 : (128 : Nat) ^ (k + 1) = 128 * 128 ^ k := by rw [Nat.pow_succ, Nat.mul_comm]
  have h4 : (((x % 128 : Nat) : Int) * 2 ^ (k * 7)) = ((x % 128 * 128 ^ k : Nat) : Int) := by
    rw [← pow128 k, Int.natCast_mul, Int.natCast_pow]
    rfl
  rw [h1, IntWalk.wrap64_in ((x % 128 : Nat) : Int) ⟨by omega, by omega⟩, h4, IntWalk.wrap64_in _ ⟨by omega, by omega⟩]
  rw [or64 acc _ (by omega) (by omega), Nat.or_comm, nat_join (k * 7) _ acc (by rw [pow128]; exact Nat.mul_mod_left _ _) (by rw [pow128]; exact hacc), Nat.add_comm]
theorem next_room {acc x k : Nat} (hacc : acc < 128 ^ k) : acc + x % 128 * 128 ^ k < 128 ^ (k + 1) := by
  have h2 : x % 128 * 128 ^ k ≤ 127 * 128 ^ k := Nat.mul_le_mul_right _ (by omega)
  have h3 : (128 : Nat) ^ (k + 1) = 128 * 128 ^ k := by rw [Nat.pow_succ, Nat.mul_comm]
  omega
section
variable {l : List UInt8} {k acc x : Nat} (HE : OM.take l = OM.tk (9 - k) k acc (l.drop k)) (hk : k < 9)
include HE hk
theorem tk_end (h : k = l.length) : OM.take l = (0, 0, 20) := by
  rw [HE, show 9 - k = (8 - k) + 1 by omega, List.drop_of_length_le (by omega)]
  rfl
theorem tk_at (h : k < l.length) (hx : (l[k]).toNat = x) : OM.take l = if x < 128 then (if x = 0 ∧ 0 < k then (0, 0, 21) else (acc + x * 128 ^ k, k + 1, 0))
    else OM.tk (9 - (k + 1)) (k + 1) (acc + (x - 128) * 128 ^ k) (l.drop (k + 1)) := by
  rw [HE, show 9 - k = (8 - k) + 1 by omega, List.drop_eq_getElem_cons h, OM.tk, hx, show 8 - k = 9 - (k + 1) by omega]
theorem tk_zero (h : k < l.length) (hx : (l[k]).toNat = x) (h0 : x = 0) (hp : 0 < k) : OM.take l = (0, 0, 21) := by
  rw [tk_at HE hk h hx, if_pos (by omega), if_pos ⟨h0, hp⟩]
theorem tk_last (h : k < l.length) (hx : (l[k]).toNat = x) (h0 : x < 128) (hp : ¬ (x = 0 ∧ 0 < k)) : OM.take l = (acc + x % 128 * 128 ^ k, k + 1, 0) := by
  rw [tk_at HE hk h hx, if_pos h0, if_neg hp, Nat.mod_eq_of_lt h0]
theorem tk_next (h : k < l.length) (hx : (l[k]).toNat = x) (h0 : 128 ≤ x) (h1 : x < 256) : OM.take l = OM.tk (9 - (k + 1)) (k + 1) (acc + x % 128 * 128 ^ k) (l.drop (k + 1)) := by
  rw [tk_at HE hk h hx, if_neg (by omega), show x % 128 = x - 128 by omega]
end
theorem tk_nine {l : List UInt8} {k acc : Nat} (HE : OM.take l = OM.tk (9 - k) k acc (l.drop k)) (hk : ¬ k < 9) : OM.take l = (0, 0, 21) := by
  rw [HE, show 9 - k = 0 by omega]
  rfl
theorem three_ints {a b c x y z : Int} (h1 : a = x) (h2 : b = y) (h3 : c = z) : Ending.returned (.tuple #[.int .i64 a, .int .i64 b, .int .i64 c]) = .returned (.tuple #[.int .i64 x, .int .i64 y, .int .i64 z]) := by rw [h1, h2, h3]
theorem took {l : List UInt8} {a b c : Nat} {x y z : Int} (h : OM.take l = (a, b, c)) (h1 : x = (a : Int)) (h2 : y = (b : Int)) (h3 : z = (c : Int)) :
    Ending.returned (.tuple #[.int .i64 x, .int .i64 y, .int .i64 z]) = .returned (.tuple #[.int .i64 ((OM.take l).1 : Int), .int .i64 ((OM.take l).2.1 : Int), .int .i64 ((OM.take l).2.2 : Int)]) := by
  rw [h, h1, h2, h3]
set_option maxRecDepth 100000 in
set_option maxHeartbeats 1000000 in
theorem number_any (A : Option Addr) (c : Nat) (l : List UInt8) (w : World) (h : BytesAt w A l) (hl : l.length ≤ 9223372036854775807) :
    Calls Try.prog 85 #[.slice A l.length c] w fun e w' => e = .returned (.tuple #[.int .i64 ((OM.take l).1 : Int), .int .i64 ((OM.take l).2.1 : Int), .int .i64 ((OM.take l).2.2 : Int)]) ∧ w = w' := by
  have H := Lib.hid h; clear h
  go_enter Try.func85, Try.ntmps85
  go_wp2_with fail
  go_loop [2, 6] (fun n i => ∃ (k acc : Nat), i = .int .i64 (k : Int) ∧ n = .int .i64 (acc : Int) ∧ k ≤ 9 ∧ k ≤ l.length ∧ acc < 128 ^ k ∧ Hid (OM.take l = OM.tk (9 - k) k acc (l.drop k))) (fun _ i => 9 - (intOf i).toNat)
  case atStart => exact ⟨0, 0, rfl, rfl, by omega, by omega, by decide, Lib.hid rfl⟩
  case round =>
    obtain ⟨k, acc, rfl, rfl, hk, hkl, hacc, HE⟩ := hrel
    have HC := Lib.hid hacc; clear hacc
    by_cases h9 : k < 9
    · by_cases hend : k = l.length
      · have T := Lib.hid (tk_end HE.out h9 hend)
        subst hend
        go_wp2_with fail
        go_ret3
        exact ⟨took T.out rfl rfl rfl, rfl⟩
      · have hlt : k < l.length := by omega
        obtain ⟨b, o, hA, hb, hc⟩ := H.out (by omega)
        subst hA
        have hcell : w.cell? ⟨b, o + k, none⟩ = some (.int .u8 ((l[k]).toNat : Int)) := hc k l[k] (List.getElem?_eq_getElem hlt)
        clear hc hb
        have hx : (l[k]).toNat < 256 := (l[k]).toNat_lt
        generalize hxe : (l[k]).toNat = x at hcell hx
        have HX := Lib.hid hxe; clear hxe
        go_wp2_with fail
        · go_ret3
          exact ⟨took (tk_zero HE.out h9 hlt HX.out ‹x = 0› ‹0 < k›) rfl rfl rfl, rfl⟩
        · go_ret3
          have e0 : x = 0 := ‹x = 0›
          exact ⟨took (tk_last HE.out h9 hlt HX.out (by omega) (by omega)) (by rw [e0]; exact or_step (x := 0) HC.out (by decide) h9) rfl rfl, rfl⟩
        · go_ret3
          exact ⟨took (tk_last HE.out h9 hlt HX.out (by omega) (by omega)) (or_step HC.out hx h9) rfl rfl, rfl⟩
        · go_round
          case rel => exact ⟨k + 1, acc + x % 128 * 128 ^ k, rfl, by rw [or_step HC.out hx h9], by omega, by omega, next_room HC.out, Lib.hid (tk_next HE.out h9 hlt HX.out (by omega) hx)⟩
          case measure => simp only [intOf]; omega
    · have T := Lib.hid (tk_nine HE.out h9)
      have e9 : k = 9 := by omega
      subst e9
      go_wp2_with fail
      go_ret3
      exact ⟨took T.out rfl rfl rfl, rfl⟩
/-- A reader at block r: the bytes that are left (in block b), its error. -/
def RAt (w : World) (r b : Nat) (l : List UInt8) (e : Nat) : Prop :=
  ∃ A c, Whole w r 122 #[.slice A l.length c, .int .i64 (e : Int)] ∧ BytesAt w A l ∧ l.length ≤ c ∧ c ≤ 9223372036854775807 ∧ ∀ ad : Addr, A = some ad → ad.block = b
/-- What a call on a reader leaves. -/
def Read (w : World) (r b : Nat) (l : List UInt8) (e : Nat) (w' : World) : Prop := RAt w' r b l e ∧ Mod [r] w w'
theorem BytesAt.ne {w : World} {r b o : Nat} {l : List UInt8} {v : Value} {n : Int} {t : TypeId} (h : BytesAt w (some ⟨b, o, none⟩) l) (h0 : 0 < l.length) (hr : Whole w r t #[v, .int .i64 n]) (hv : ∀ k, v ≠ .int .u8 k) : b ≠ r := by
  intro e
  subst e
  obtain ⟨b', o', e, hb, hc⟩ := h h0
  cases e
  have h1 := hc 0 l[0] (List.getElem?_eq_getElem h0)
  have h2 := hr.cell (o + 0)
  rw [h1] at h2
  match o, h2 with
  | 0, h2 => simp [u8] at h2; exact hv _ h2.symm
  | 1, h2 => simp [u8] at h2
  | (n + 2), h2 => simp at h2
theorem BytesAt.kept {w w' : World} {r : Nat} {A : Option Addr} {l : List UInt8} {v : Value} {n : Int} {t : TypeId} (h : BytesAt w A l) (hr : Whole w r t #[v, .int .i64 n]) (hv : ∀ k, v ≠ .int .u8 k) (hm : Mod [r] w w') : BytesAt w' A l := fun h0 => by
  obtain ⟨b, o, e, hb, hc⟩ := h h0
  subst e
  have hne : b ≠ r := h.ne h0 hr hv
  exact ⟨b, o, rfl, Nat.lt_of_lt_of_le hb hm.size, fun j x hx => (hm.cell (p := ⟨b, o + j, none⟩) hb (by simpa using hne)).trans (hc j x hx)⟩
theorem BytesAt.cut {w : World} {A : Option Addr} {l : List UInt8} (h : BytesAt w A l) {k c : Nat} (hk : k ≤ l.length) (hc : l.length ≤ c) : BytesAt w (if c = k then A else A.map (·.add k)) (l.drop k) := fun h0 => by
  rw [List.length_drop] at h0
  obtain ⟨b, o, e, hb, hcc⟩ := h (by omega)
  subst e
  refine ⟨b, o + k, ?_, hb, fun j x hx => ?_⟩
  · rw [if_neg (by omega)]
    show some ((⟨b, o, none⟩ : Addr).add k) = _
    rw [Addr.add_lit]
  · rw [List.getElem?_drop] at hx
    rw [Nat.add_assoc]
    exact hcc _ x hx
theorem BytesAt.front {w : World} {A : Option Addr} {l : List UInt8} (h : BytesAt w A l) (k : Nat) : BytesAt w A (l.take k) := fun h0 => by
  rw [List.length_take] at h0
  obtain ⟨b, o, e, hb, hc⟩ := h (by omega)
  refine ⟨b, o, e, hb, fun j x hx => hc j x ?_⟩
  rw [List.getElem?_take] at hx
  split at hx
  · exact hx
  · cases hx
theorem own_shape {w : World} {base : Nat} {e : TypeId} {size n : Nat} {v : Value} {xs : List Value} (h : w.ownsRow base e size v n xs) : ∃ A c, v = .slice A n c ∧ n ≤ c ∧ c ≤ 9223372036854775807 := by
  rcases h.2 with ⟨rfl, rfl⟩ | ⟨g, cap, cur, rfl, _, _, h1, h2, _⟩
  · exact ⟨none, 0, rfl, Nat.le_refl _, by omega⟩
  · exact ⟨_, cap, rfl, h1, by unfold maxLen at h2; omega⟩
/-- A reader that was made just now of these bytes. -/
def Opened (w : World) (xs : List UInt8) (e : Ending) (w' : World) : Prop := ∃ r b, e = .returned (.pointer (some ⟨r, 0, none⟩)) ∧ RAt w' r b xs 0 ∧ Below w.heap.size w w' ∧ w.heap.size ≤ r ∧ r < w'.heap.size ∧ w.heap.size ≤ b ∧ b < w'.heap.size
set_option maxHeartbeats 1000000 in
theorem Err_any (r b : Nat) (l : List UInt8) (e : Nat) (w : World) (h : RAt w r b l e) :
    Calls Try.prog 84 #[.pointer (some ⟨r, 0, none⟩)] w fun x w' => x = .returned (.int .i64 (e : Int)) ∧ w = w' := by
  obtain ⟨A, c, h1, _⟩ := h
  have c1 : w.cell? ⟨r, 1, none⟩ = some (.int .i64 (e : Int)) := h1.cell 1
  clear h1
  go_enter Try.func84, Try.ntmps84
  go_wp2
  go_ret
  exact ⟨rfl, rfl⟩
set_option maxHeartbeats 1000000 in
theorem NewReader_any (A : Option Addr) (c : Nat) (xs : List UInt8) (w : World) (h : BytesAt w A xs) (hl : xs.length ≤ 140737488355328) :
    Calls Try.prog 64 #[.slice A xs.length c] w (Opened w xs) := by
  go_enter Try.func64, Try.ntmps64
  go_wp2_with (go_at_call 83; refine (Clone_any A c xs _ h hl).mono ?_; rintro e w1 ⟨v, rfl, hown, hb⟩; obtain ⟨A', c', rfl, k1, k2⟩ := own_shape hown; have HO := Lib.hid hown; have HB := Lib.hid hb; clear hown hb)
  go_ret
  have hsz : (w1.alloc (.cells #[.slice A' xs.length c', .int .i64 0] 122)).heap.size = w1.heap.size + 1 := by simp
  have hlt := HO.out.lt
  have hw1 := HB.out.size
  cases A' with
  | none => exact ⟨w1.heap.size, w1.heap.size, rfl, ⟨none, c', Whole.new _ _ _, (BytesAt.own HO.out).below ((Below.refl _ w1).alloc (Nat.le_refl _) _), k1, k2, fun ad h => by cases h⟩, HB.out.alloc HB.out.size _, hw1, by omega, hw1, by omega⟩
  | some ad =>
    have h := hlt ad.block rfl
    exact ⟨w1.heap.size, ad.block, rfl, ⟨some ad, c', Whole.new _ _ _, (BytesAt.own HO.out).below ((Below.refl _ w1).alloc (Nat.le_refl _) _), k1, k2, fun ad' h' => by cases h'; rfl⟩, HB.out.alloc HB.out.size _, hw1, by omega, h.1, by omega⟩
theorem map_block {A : Option Addr} {b s : Nat} (h : ∀ ad : Addr, A = some ad → ad.block = b) : ∀ ad : Addr, A.map (·.add s) = some ad → ad.block = b := by
  intro ad hA
  obtain ⟨a0, h0, rfl⟩ := Option.map_eq_some_iff.1 hA
  have e : (a0.add s).block = a0.block := by unfold Addr.add; split <;> rfl
  rw [e]
  exact h a0 h0
theorem read_on {w : World} {r b s c : Nat} {l : List UInt8} {e : Nat} {A A' : Option Addr} (K1 : Whole w r 122 #[.slice A l.length c, .int .i64 (e : Int)]) (hB : BytesAt w A' (l.drop s)) (hs : s ≤ l.length) (h3 : l.length ≤ c) (h4 : c ≤ 9223372036854775807) (hAb : ∀ ad : Addr, A' = some ad → ad.block = b) :
    Read w r b (l.drop s) e (w.setCell ⟨r, 0, none⟩ (.slice A' (l.length - s) (c - s))) := by
  have hm : Mod [r] w (w.setCell ⟨r, 0, none⟩ (.slice A' (l.length - s) (c - s))) := (Mod.refl _ _).store (.inl (by simp)) _
  refine ⟨⟨A', c - s, ?_, ?_, ?_, by omega, hAb⟩, hm⟩
  · rw [List.length_drop]
    exact K1.store 0 _
  · exact hB.kept K1 (by intro k h; cases h) hm
  · rw [List.length_drop]; omega
theorem read_err {w : World} {r b c : Nat} {l : List UInt8} {e e' : Nat} {A : Option Addr} (K1 : Whole w r 122 #[.slice A l.length c, .int .i64 (e : Int)]) (hB : BytesAt w A l) (h3 : l.length ≤ c) (h4 : c ≤ 9223372036854775807) (hAb : ∀ ad : Addr, A = some ad → ad.block = b) :
    Read w r b l e' (w.setCell ⟨r, 1, none⟩ (.int .i64 (e' : Int))) := by
  have hm : Mod [r] w (w.setCell ⟨r, 1, none⟩ (.int .i64 (e' : Int))) := (Mod.refl _ _).store (.inl (by simp)) _
  exact ⟨⟨A, c, K1.store 1 _, hB.kept K1 (by intro k h; cases h) hm, h3, h4, hAb⟩, hm⟩
theorem Read.id {w : World} {r b : Nat} {l : List UInt8} {e : Nat} (h : RAt w r b l e) : Read w r b l e w := ⟨h, Mod.refl _ _⟩
theorem rnum_ok {l : List UInt8} {a s : Nat} (h : OM.take l = (a, s, 0)) : OM.rnum l 0 = (a, l.drop s, 0) := by
  unfold OM.rnum
  rw [if_neg (by simp), h]
  simp
theorem rnum_bad {l : List UInt8} {x : Nat} (h : OM.take l = (0, 0, x)) (hx : x ≠ 0) : OM.rnum l 0 = (0, l, x) := by
  unfold OM.rnum
  rw [if_neg (by simp), h]
  simp [hx]
theorem rnum_stuck {l : List UInt8} {e : Nat} (h : e ≠ 0) : OM.rnum l e = (0, l, e) := by
  unfold OM.rnum
  rw [if_pos h]
/-- What Num answers, and what it leaves. -/
def NumPost (w : World) (r b : Nat) (l : List UInt8) (e : Nat) (x : Ending) (w' : World) : Prop := x = .returned (.int .i64 ((OM.rnum l e).1 : Int)) ∧ Read w r b (OM.rnum l e).2.1 (OM.rnum l e).2.2 w'
theorem numPost {w w' : World} {r b : Nat} {l : List UInt8} {e : Nat} {a : Nat} {m : List UInt8} {x : Nat} (h : OM.rnum l e = (a, m, x)) {n : Int} (hn : n = (a : Int)) (hr : Read w r b m x w') : NumPost w r b l e (.returned (.int .i64 n)) w' := by
  unfold NumPost
  rw [h, hn]
  exact ⟨rfl, hr⟩
set_option maxHeartbeats 1000000 in
theorem RNum_any (r b : Nat) (l : List UInt8) (e : Nat) (w : World) (h : RAt w r b l e) :
    Calls Try.prog 65 #[.pointer (some ⟨r, 0, none⟩)] w (NumPost w r b l e) := by
  have H := Lib.hid h
  obtain ⟨A, c, h1, h2, h3, h4, h5⟩ := h
  have c0 : w.cell? ⟨r, 0, none⟩ = some (.slice A l.length c) := h1.cell 0
  have c1 : w.cell? ⟨r, 1, none⟩ = some (.int .i64 (e : Int)) := h1.cell 1
  have f0 := h1.frozen 0
  have f1 := h1.frozen 1
  have K1 := Lib.hid h1; have K2 := Lib.hid h2; have K5 := Lib.hid h5; clear h1 h2 h5
  by_cases he : e = 0
  · subst he
    have c1 : w.cell? ⟨r, 1, none⟩ = some (.int .i64 0) := c1
    rcases OM.take_err l with ⟨a, s, ht⟩ | ht | ht
    · have hs := OM.take_le ht
      have T := Lib.hid ht; clear ht
      go_enter Try.func65, Try.ntmps65
      go_wp2_with (first
        | (go_at_call 84; refine (Err_any r b l 0 _ H.out).mono ?_; rintro x w' ⟨rfl, rfl⟩)
        | (go_at_call 85; refine (number_any A c l _ K2.out (by omega)).mono ?_; rintro x w' ⟨rfl, rfl⟩; rw [T.out]))
      · go_ret
        have hB := K2.out.cut (k := s) (c := c) hs h3
        rw [if_pos (by assumption)] at hB
        have hR := read_on K1.out hB hs h3 h4 K5.out
        rw [show c - s = 0 by omega] at hR
        exact numPost (rnum_ok T.out) rfl hR
      · go_ret
        have hB := K2.out.cut (k := s) (c := c) hs h3
        rw [if_neg (by assumption)] at hB
        exact numPost (rnum_ok T.out) rfl (read_on K1.out hB hs h3 h4 (map_block K5.out))
    all_goals
      have T := Lib.hid ht; clear ht
      go_enter Try.func65, Try.ntmps65
      go_wp2_with (first
        | (go_at_call 84; refine (Err_any r b l 0 _ H.out).mono ?_; rintro x w' ⟨rfl, rfl⟩)
        | (go_at_call 85; refine (number_any A c l _ K2.out (by omega)).mono ?_; rintro x w' ⟨rfl, rfl⟩; rw [T.out]))
      go_ret
      exact numPost (rnum_bad T.out (by decide)) rfl (read_err K1.out K2.out h3 h4 K5.out)
  · have he' : ¬ (e : Int) = 0 := by omega
    go_enter Try.func65, Try.ntmps65
    go_wp2_with (go_at_call 84; refine (Err_any r b l e _ H.out).mono ?_; rintro x w' ⟨rfl, rfl⟩)
    go_ret
    exact numPost (rnum_stuck he) rfl (Read.id H.out)
end Go.Proofs.Ytbjemihcbbiiaaa.Oct
namespace Go.Proofs.Ytbjemihcbbiiaaa.Oct
open Go.RowKit
set_option maxRecDepth 100000
/-- A list of bytes read as a text. -/
theorem str_of {w : World} {A : Option Addr} {c : Nat} {l : List UInt8} (h : BytesAt w A l) : (convert 88 9 (.slice A l.length c)).run Try.prog w = .ok (.string ⟨l.toArray⟩) w := by
  cases A with
  | some ad => 
    refine run_convert_bytes_back w _ _ 5 ad c l Try.underlying88 Try.underlying5 Try.underlying9 (fun j hj => ?_)
    exact h.cells j _ (by unfold u8s; rw [List.getElem?_map, List.getElem?_eq_getElem hj]; rfl)
  | none =>
    have h0 : l = [] := by
      cases l with
      | nil => rfl
      | cons y r =>
        obtain ⟨b, o, e, _⟩ := h (by simp)
        cases e
    subst h0
    exact run_convert_bytes_nil w _ 5 Try.underlying88 Try.underlying5 _ c _ Try.underlying9
theorem read_at {w : World} {r b n c c' : Nat} {l m : List UInt8} {e : Nat} {A A' : Option Addr} (K1 : Whole w r 122 #[.slice A l.length c, .int .i64 (e : Int)]) (hB : BytesAt w A' m) (hn : m.length = n) (h3 : n ≤ c') (h4 : c' ≤ 9223372036854775807) (hAb : ∀ ad : Addr, A' = some ad → ad.block = b) :
    Read w r b m e (w.setCell ⟨r, 0, none⟩ (.slice A' n c')) := by
  subst hn
  have hm : Mod [r] w (w.setCell ⟨r, 0, none⟩ (.slice A' m.length c')) := (Mod.refl _ _).store (.inl (by simp)) _
  exact ⟨⟨A', c', K1.store 0 _, hB.kept K1 (by intro k h; cases h) hm, h3, h4, hAb⟩, hm⟩
theorem text_rest {w : World} {b o s a : Nat} {l : List UInt8} (K2 : BytesAt w (some ⟨b, o, none⟩) l) : BytesAt w (some ⟨b, o + s + a, none⟩) (l.drop (s + a)) := fun h0 => by
  rw [List.length_drop] at h0
  obtain ⟨b', o', e, hb, hc⟩ := K2 (by omega)
  cases e
  refine ⟨b, o + s + a, rfl, hb, fun j x hx => ?_⟩
  rw [List.getElem?_drop] at hx
  have h := hc _ x hx
  rw [show o + s + a + j = o + (s + a + j) by omega]
  exact h
theorem text_cut {w : World} {r b o s a c : Nat} {l : List UInt8} {e : Nat} (K1 : Whole w r 122 #[.slice (some ⟨b, o, none⟩) l.length c, .int .i64 (e : Int)]) (K2 : BytesAt w (some ⟨b, o, none⟩) l) (hs : s ≤ l.length) (h3 : l.length ≤ c) (hcs : ¬ c = s) (hfit : a ≤ l.length - s) :
    ∀ (v : Value) (c' : Nat), (convert 88 9 (.slice (some ⟨b, o + s, none⟩) a c')).run Try.prog (w.setCell ⟨r, 0, none⟩ v) = .ok (.string ⟨((l.drop s).take a).toArray⟩) (w.setCell ⟨r, 0, none⟩ v) := by
  intro v c'
  have h1 := K2.cut (k := s) (c := c) hs h3
  rw [if_neg hcs] at h1
  have h2 : BytesAt w (some ⟨b, o + s, none⟩) (l.drop s) := by
    have e : Option.map (fun x : Addr => x.add s) (some ⟨b, o, none⟩) = some ⟨b, o + s, none⟩ := by
      show some ((⟨b, o, none⟩ : Addr).add s) = _
      rw [Addr.add_lit]
    rw [← e]
    exact h1
  have h3 := str_of (c := c') ((h2.front a).kept K1 (by intro k h; cases h) ((Mod.refl [r] w).store (p := ⟨r, 0, none⟩) (.inl (by simp)) v))
  have hl : ((l.drop s).take a).length = a := by rw [List.length_take, List.length_drop]; omega
  rw [hl] at h3
  exact h3
theorem rtext_ok {l : List UInt8} {a s : Nat} {most : Int} (h : OM.take l = (a, s, 0)) (h1 : (a : Int) ≤ max most 0) (h2 : a ≤ l.length - s) : OM.rtext l 0 most = ((l.drop s).take a, l.drop (s + a), 0) := by
  unfold OM.rtext
  rw [if_neg (by simp), h]
  simp only [ne_eq, not_true_eq_false, if_false]
  rw [if_neg (by omega), if_neg (by omega)]
theorem rtext_long {l : List UInt8} {a s : Nat} {most : Int} (h : OM.take l = (a, s, 0)) (h1 : max most 0 < (a : Int)) : OM.rtext l 0 most = ([], l, 21) := by
  unfold OM.rtext
  rw [if_neg (by simp), h]
  simp only [ne_eq, not_true_eq_false, if_false]
  rw [if_pos h1]
theorem rtext_short {l : List UInt8} {a s : Nat} {most : Int} (h : OM.take l = (a, s, 0)) (h1 : (a : Int) ≤ max most 0) (h2 : l.length - s < a) : OM.rtext l 0 most = ([], l, 20) := by
  unfold OM.rtext
  rw [if_neg (by simp), h]
  simp only [ne_eq, not_true_eq_false, if_false]
  rw [if_neg (by omega), if_pos h2]
theorem rtext_bad {l : List UInt8} {x : Nat} {most : Int} (h : OM.take l = (0, 0, x)) (hx : x ≠ 0) : OM.rtext l 0 most = ([], l, x) := by
  unfold OM.rtext
  rw [if_neg (by simp), h]
  simp [hx]
theorem rtext_stuck {l : List UInt8} {e : Nat} {most : Int} (h : e ≠ 0) : OM.rtext l e most = ([], l, e) := by
  unfold OM.rtext
  rw [if_pos h]
/-- What Text answers, and what it leaves. -/
def TextPost (w : World) (r bb : Nat) (l : List UInt8) (e : Nat) (most : Int) (x : Ending) (w' : World) : Prop := x = .returned (.string ⟨(OM.rtext l e most).1.toArray⟩) ∧ Read w r bb (OM.rtext l e most).2.1 (OM.rtext l e most).2.2 w'
theorem textPost {w w' : World} {r bb : Nat} {l : List UInt8} {e : Nat} {most : Int} {t : List UInt8} {m : List UInt8} {x : Nat} {s : ByteArray} (h : OM.rtext l e most = (t, m, x)) (hs : s = ⟨t.toArray⟩) (hr : Read w r bb m x w') : TextPost w r bb l e most (.returned (.string s)) w' := by
  unfold TextPost
  rw [h, hs]
  exact ⟨rfl, hr⟩
set_option maxHeartbeats 1000000 in
theorem RText_any (r bb : Nat) (l : List UInt8) (e : Nat) (most : Int) (w : World) (hmost : -9223372036854775808 ≤ most ∧ most ≤ 9223372036854775807) (h : RAt w r bb l e) :
    Calls Try.prog 89 #[.pointer (some ⟨r, 0, none⟩), .int .i64 most] w (TextPost w r bb l e most) := by
  have H := Lib.hid h
  obtain ⟨A, c, h1, h2, h3, h4, h5⟩ := h
  have c0 : w.cell? ⟨r, 0, none⟩ = some (.slice A l.length c) := h1.cell 0
  have c1 : w.cell? ⟨r, 1, none⟩ = some (.int .i64 (e : Int)) := h1.cell 1
  have f0 := h1.frozen 0
  have f1 := h1.frozen 1
  have K1 := Lib.hid h1; have K2 := Lib.hid h2; have K5 := Lib.hid h5; clear h1 h2 h5
  by_cases he : e = 0
  · subst he
    have c1 : w.cell? ⟨r, 1, none⟩ = some (.int .i64 0) := c1
    rcases OM.take_err l with ⟨a, s, ht⟩ | ht | ht
    · have hs := OM.take_le ht
      have ha := (OM.take_one ht).1
      have T := Lib.hid ht; clear ht
      obtain ⟨b, o, hA, _, _⟩ := K2.out (by have := OM.enc_pos a; have := (OM.take_one T.out).2.1; omega)
      subst hA
      by_cases hneg : most < 0
      · have HM := Lib.hid (show (0 : Int) = max most 0 by omega)
        by_cases hlong : 0 < (a : Int)
        · go_enter Try.func89, Try.ntmps89
          go_wp2_with (first
            | (go_at_call 84; refine (Err_any r bb l 0 _ H.out).mono ?_; rintro x w' ⟨rfl, rfl⟩)
            | (go_at_call 85; refine (number_any _ _ l _ K2.out (by omega)).mono ?_; rintro x w' ⟨rfl, rfl⟩; rw [T.out]))
          all_goals
            first
              | (exfalso; omega)
              | (go_ret; exact textPost (rtext_long T.out (by rw [← HM.out]; exact hlong)) rfl (read_err K1.out K2.out h3 h4 K5.out))
        · have hin : (a : Int) ≤ 0 := by omega
          have HI := Lib.hid hin
          by_cases hshort : l.length - s < a
          · have hsh : ((l.length - s : Nat) : Int) < (a : Int) := by omega
            go_enter Try.func89, Try.ntmps89
            go_wp2_with (first
              | (go_at_call 84; refine (Err_any r bb l 0 _ H.out).mono ?_; rintro x w' ⟨rfl, rfl⟩)
              | (go_at_call 85; refine (number_any _ _ l _ K2.out (by omega)).mono ?_; rintro x w' ⟨rfl, rfl⟩; rw [T.out]))
            all_goals
              first
                | (exfalso; omega)
                | (go_ret; exact textPost (rtext_short T.out (by rw [← HM.out]; exact HI.out) hshort) rfl (read_err K1.out K2.out h3 h4 K5.out))
          · have hfit : a ≤ l.length - s := by omega
            have hfi : (a : Int) ≤ ((l.length - s : Nat) : Int) := by omega
            by_cases hcs : c = s
            · have ha0 : a = 0 := by omega
              subst ha0
              subst hcs
              have hS : ∀ (w' : World) (A : Option Addr) (c' : Nat), (convert 88 9 (.slice A 0 c')).run Try.prog w' = .ok (.string ⟨#[]⟩) w' := fun w' A c' => str_of (c := c') (BytesAt.nil w' A)
              go_enter Try.func89, Try.ntmps89
              go_wp2_with (first
                | (go_at_call 84; refine (Err_any r bb l 0 _ H.out).mono ?_; rintro x w' ⟨rfl, rfl⟩)
                | (go_at_call 85; refine (number_any _ _ l _ K2.out (by omega)).mono ?_; rintro x w' ⟨rfl, rfl⟩; rw [T.out]))
              all_goals
                go_ret
                refine textPost (rtext_ok T.out (by rw [← HM.out]; exact HI.out) hfit) (by rw [List.take_zero]) (read_at K1.out ?_ (by rw [List.length_drop]; omega) (by omega) (by omega) (fun ad h => by cases h; exact K5.out ⟨b, o, none⟩ rfl))
                rw [show List.drop (c + 0) l = [] from List.drop_of_length_le (by omega)]
                exact BytesAt.nil _ _
            · have hS := text_cut (a := a) K1.out K2.out hs h3 hcs hfit
              go_enter Try.func89, Try.ntmps89
              go_wp2_with (first
                | (go_at_call 84; refine (Err_any r bb l 0 _ H.out).mono ?_; rintro x w' ⟨rfl, rfl⟩)
                | (go_at_call 85; refine (number_any _ _ l _ K2.out (by omega)).mono ?_; rintro x w' ⟨rfl, rfl⟩; rw [T.out]))
              all_goals
                go_ret
                refine textPost (rtext_ok T.out (by rw [← HM.out]; exact HI.out) hfit) rfl (read_at K1.out ?_ (by rw [List.length_drop]; omega) (by omega) (by omega) (fun ad h => by cases h; exact K5.out ⟨b, o, none⟩ rfl))
                first
                  | exact text_rest K2.out
                  | (rw [show List.drop (s + a) l = [] from List.drop_of_length_le (by omega)]; exact BytesAt.nil _ _)
      · have hpos : 0 ≤ most := by omega
        have HM := Lib.hid (show most = max most 0 by omega)
        by_cases hlong : most < (a : Int)
        · go_enter Try.func89, Try.ntmps89
          go_wp2_with (first
            | (go_at_call 84; refine (Err_any r bb l 0 _ H.out).mono ?_; rintro x w' ⟨rfl, rfl⟩)
            | (go_at_call 85; refine (number_any _ _ l _ K2.out (by omega)).mono ?_; rintro x w' ⟨rfl, rfl⟩; rw [T.out]))
          all_goals
            first
              | (exfalso; omega)
              | (go_ret; exact textPost (rtext_long T.out (by rw [← HM.out]; exact hlong)) rfl (read_err K1.out K2.out h3 h4 K5.out))
        · have hin : (a : Int) ≤ most := by omega
          have HI := Lib.hid hin
          by_cases hshort : l.length - s < a
          · have hsh : ((l.length - s : Nat) : Int) < (a : Int) := by omega
            go_enter Try.func89, Try.ntmps89
            go_wp2_with (first
              | (go_at_call 84; refine (Err_any r bb l 0 _ H.out).mono ?_; rintro x w' ⟨rfl, rfl⟩)
              | (go_at_call 85; refine (number_any _ _ l _ K2.out (by omega)).mono ?_; rintro x w' ⟨rfl, rfl⟩; rw [T.out]))
            all_goals
              first
                | (exfalso; omega)
                | (go_ret; exact textPost (rtext_short T.out (by rw [← HM.out]; exact HI.out) hshort) rfl (read_err K1.out K2.out h3 h4 K5.out))
          · have hfit : a ≤ l.length - s := by omega
            have hfi : (a : Int) ≤ ((l.length - s : Nat) : Int) := by omega
            by_cases hcs : c = s
            · have ha0 : a = 0 := by omega
              subst ha0
              subst hcs
              have hS : ∀ (w' : World) (A : Option Addr) (c' : Nat), (convert 88 9 (.slice A 0 c')).run Try.prog w' = .ok (.string ⟨#[]⟩) w' := fun w' A c' => str_of (c := c') (BytesAt.nil w' A)
              go_enter Try.func89, Try.ntmps89
              go_wp2_with (first
                | (go_at_call 84; refine (Err_any r bb l 0 _ H.out).mono ?_; rintro x w' ⟨rfl, rfl⟩)
                | (go_at_call 85; refine (number_any _ _ l _ K2.out (by omega)).mono ?_; rintro x w' ⟨rfl, rfl⟩; rw [T.out]))
              all_goals
                go_ret
                refine textPost (rtext_ok T.out (by rw [← HM.out]; exact HI.out) hfit) (by rw [List.take_zero]) (read_at K1.out ?_ (by rw [List.length_drop]; omega) (by omega) (by omega) (fun ad h => by cases h; exact K5.out ⟨b, o, none⟩ rfl))
                rw [show List.drop (c + 0) l = [] from List.drop_of_length_le (by omega)]
                exact BytesAt.nil _ _
            · have hS := text_cut (a := a) K1.out K2.out hs h3 hcs hfit
              go_enter Try.func89, Try.ntmps89
              go_wp2_with (first
                | (go_at_call 84; refine (Err_any r bb l 0 _ H.out).mono ?_; rintro x w' ⟨rfl, rfl⟩)
                | (go_at_call 85; refine (number_any _ _ l _ K2.out (by omega)).mono ?_; rintro x w' ⟨rfl, rfl⟩; rw [T.out]))
              all_goals
                go_ret
                refine textPost (rtext_ok T.out (by rw [← HM.out]; exact HI.out) hfit) rfl (read_at K1.out ?_ (by rw [List.length_drop]; omega) (by omega) (by omega) (fun ad h => by cases h; exact K5.out ⟨b, o, none⟩ rfl))
                first
                  | exact text_rest K2.out
                  | (rw [show List.drop (s + a) l = [] from List.drop_of_length_le (by omega)]; exact BytesAt.nil _ _)
    all_goals
      have T := Lib.hid ht; clear ht
      go_enter Try.func89, Try.ntmps89
      go_wp2_with (first
        | (go_at_call 84; refine (Err_any r bb l 0 _ H.out).mono ?_; rintro x w' ⟨rfl, rfl⟩)
        | (go_at_call 85; refine (number_any A c l _ K2.out (by omega)).mono ?_; rintro x w' ⟨rfl, rfl⟩; rw [T.out]))
      all_goals
        go_ret
        exact textPost (rtext_bad T.out (by decide)) rfl (read_err K1.out K2.out h3 h4 K5.out)
  · have he' : ¬ (e : Int) = 0 := by omega
    go_enter Try.func89, Try.ntmps89
    go_wp2_with (go_at_call 84; refine (Err_any r bb l e _ H.out).mono ?_; rintro x w' ⟨rfl, rfl⟩)
    go_ret
    exact textPost (rtext_stuck he) rfl (Read.id H.out)
theorem lay_nil (v : Value) (w : World) : Calls Try.prog 88 #[.pointer none, v] w fun e w' => e = .returned (.tuple #[]) ∧ w = w' := by
  go_enter Try.func88, Try.ntmps88
  go_wp2
  refine bodyPost_ret (results_none rfl _ _ _) rfl ?_
  exact ⟨rfl, rfl⟩
set_option maxHeartbeats 1000000 in
theorem Num_nil (w : World) : Calls Try.prog 72 #[.pointer none, .int .i64 1] w fun e w' => e = .returned (.tuple #[]) ∧ w = w' := by
  go_enter Try.func72, Try.ntmps72
  go_wp2_with fail
  go_loop [1] (fun i => i = .int .i64 1) (fun _ => 0)
  case atStart => rfl
  case round =>
    subst hrel
    go_wp2_with (go_at_call 88; refine (lay_nil _ _).mono ?_; rintro e w2 ⟨rfl, rfl⟩)
    go_end0
    exact ⟨rfl, rfl⟩
set_option maxHeartbeats 1000000 in
theorem eachByte_nil (w : World) : Calls Try.prog 87 #[.string ⟨#[97]⟩, .func (Fn.func 88) #[.pointer none] #[]] w fun e w' => e = .returned (.tuple #[]) ∧ w = w' := by
  go_enter Try.func87, Try.ntmps87
  go_wp2_with fail
  go_loop [7] (fun i => ∃ k : Nat, k ≤ 1 ∧ i = .int .i64 (k : Int)) (fun i => 1 - (intOf i).toNat)
  case atStart => exact ⟨0, by omega, rfl⟩
  case round =>
    obtain ⟨k, hk, rfl⟩ := hrel
    by_cases h : k < 1
    · have e0 : k = 0 := by omega
      subst e0
      go_wp2_with (go_at_call 88; refine (lay_nil _ _).mono ?_; rintro e w2 ⟨rfl, rfl⟩)
      go_round
      case rel => exact ⟨1, by omega, rfl⟩
      case measure => decide
    · have e1 : k = 1 := by omega
      subst e1
      go_wp2_with fail
      go_end0
      exact ⟨rfl, rfl⟩
set_option maxHeartbeats 1000000 in
theorem Text_nil (w : World) : Calls Try.prog 70 #[.pointer none, .string ⟨#[97]⟩] w fun e w' => e = .returned (.tuple #[]) ∧ w = w' := by
  go_enter Try.func70, Try.ntmps70
  go_wp2_with (go_at_call 72; refine (Num_nil _).mono ?_; rintro e w2 ⟨rfl, rfl⟩)
  refine (eachByte_nil _).mono ?_
  rintro e w2 ⟨rfl, rfl⟩
  go_wp2
  go_end0
  exact ⟨rfl, rfl⟩
theorem Bytes_nil (w : World) : Calls Try.prog 67 #[.pointer none] w fun e w' => e = .returned (.slice none 0 0) ∧ w = w' := by
  go_enter Try.func67, Try.ntmps67
  go_wp2
  go_ret
  exact ⟨rfl, rfl⟩
theorem Err_nil (w : World) : Calls Try.prog 84 #[.pointer none] w fun e w' => e = .returned (.int .i64 1) ∧ w = w' := by
  go_enter Try.func84, Try.ntmps84
  go_wp2
  go_ret
  exact ⟨rfl, rfl⟩
theorem RNum_nil (w : World) : Calls Try.prog 65 #[.pointer none] w fun e w' => e = .returned (.int .i64 0) ∧ w = w' := by
  go_enter Try.func65, Try.ntmps65
  go_wp2_with (go_at_call 84; refine (Err_nil _).mono ?_; rintro e w2 ⟨rfl, rfl⟩)
  go_ret
  exact ⟨rfl, rfl⟩
theorem RText_nil (w : World) : Calls Try.prog 89 #[.pointer none, .int .i64 3] w fun e w' => e = .returned (.string ⟨#[]⟩) ∧ w = w' := by
  go_enter Try.func89, Try.ntmps89
  go_wp2_with (go_at_call 84; refine (Err_nil _).mono ?_; rintro e w2 ⟨rfl, rfl⟩)
  go_ret
  exact ⟨rfl, rfl⟩
end Go.Proofs.Ytbjemihcbbiiaaa.Oct
namespace Go.Proofs.Ytbjemihcbbiiaaa.Oct
open Go.RowKit
set_option maxRecDepth 100000
theorem enc_len {N m : Nat} {pre : List UInt8} (h : OM.enc N = pre ++ OM.enc m) (hN : N ≤ 9223372036854775807) : pre.length + 1 ≤ 9 := by
  have h1 := OM.enc_pos m
  have h2 := OM.enc_nine hN
  rw [h, List.length_append] at h2
  omega
/-- What the call itself has grown holds these bytes. -/
def Grew (w : World) (xs : List UInt8) (v : Value) (w' : World) : Prop := w'.ownsRow w.heap.size 5 1 v xs.length (u8s xs) ∧ Below w.heap.size w w'
theorem Grew.nil (w : World) : Grew w [] (.slice none 0 0) w := ⟨World.ownsRow_nil _ _ _ _, Below.refl _ _⟩
theorem one_one {c : UInt8} : ∀ u ∈ [u8 c], u.oneCell' = true := by
  intro u hu
  have e : u = u8 c := by simpa using hu
  rw [e]; rfl
/-- One byte put behind what the call itself has grown. -/
theorem app_one {w w1 : World} {ops : Array Oper} {rest : List Oper} {o : Oper} {a : Act} {Q : Exit → Act → World → Prop} (hgd : o.guard = none) (s x : Operand)
    (ho : o.op = .call { callee := .builtin .append, args := #[s, x], argTypes := #[88, 88] })
    (v : Value) (pre : List UInt8) (hG : Grew w pre v w1) (hs : a.eval s = v) (k : Int) (c : UInt8) (hk : k = (c.toNat : Int)) (hx : a.eval x = .slice (some ⟨w1.heap.size, 0, none⟩) 1 1) (hl : pre.length + 1 ≤ 140737488355328)
    (h : ∀ v' w2, Grew w (pre ++ [c]) v' w2 → wpList Try.prog ops Q rest (a.put o.dst v') w2) : wpList Try.prog ops Q (o :: rest) a (w1.alloc (.cells #[.int .u8 k] 5)) := by
  obtain ⟨i0, hi, hz0, hz1, hz2⟩ := info_parts info_u8
  subst hk
  refine wpList_append_own_at _ hgd s x 88 ho w.heap.size 5 i0 (.int .u8 0) 1 1 Try.underlying88 hi hz0 hz1 hz2 rfl (by decide) v pre.length (u8s pre) hs (hG.1.alloc _) ⟨w1.heap.size, 0, none⟩ 1 1 [u8 c] hx rfl
    (World.news_of_block (cs := #[u8 c]) (t := 5) (fr := (0, 0)) (heap_alloc_new w1 _)) one_one (by unfold maxLen; omega) (by omega) (by have := hG.2.size; rw [World.size_alloc]; omega) ?_
  intro v' w2 hown hgrow _ _
  refine h v' w2 ⟨by rw [List.length_append, u8s_append]; exact hown, (hG.2.alloc hG.2.size _).grown hgrow ?_ (fun k hk => (hG.1.lt k hk).1)⟩
  have := hG.2.size
  rw [World.size_alloc]
  omega
end Go.Proofs.Ytbjemihcbbiiaaa.Oct
namespace Go.Proofs.Ytbjemihcbbiiaaa.Oct
open Go.RowKit
set_option maxRecDepth 100000
theorem small_sum {acc x k U : Nat} (hU : U = 128 ^ k) (hx : x < 128) : (acc : Int) + (x : Int) * (U : Int) = ((acc + x % 128 * 128 ^ k : Nat) : Int) := by
  rw [← hU, Nat.mod_eq_of_lt hx, Int.natCast_add, Int.natCast_mul]
theorem big_sum {acc x k U : Nat} (hU : U = 128 ^ k) (hx : 128 ≤ x) (h1 : x < 256) : (acc : Int) + ((x : Int) - 128) * (U : Int) = ((acc + x % 128 * 128 ^ k : Nat) : Int) := by
  rw [← hU, show x % 128 = x - 128 by omega, Int.natCast_add, Int.natCast_mul, show ((x - 128 : Nat) : Int) = (x : Int) - 128 by omega]
theorem unit_next {k U : Nat} (hU : U = 128 ^ k) : U * 128 = 128 ^ (k + 1) := by rw [Nat.pow_succ, hU]
theorem big_room {acc x k U : Nat} (hU : U = 128 ^ k) (h : acc < U) : acc + x % 128 * 128 ^ k < U * 128 := by
  rw [unit_next hU]
  exact next_room (by rw [← hU]; exact h)
theorem unit_small {k U : Nat} (hU : U = 128 ^ k) (hk : k < 8) : U ≤ 562949953421312 := by
  have h : 128 ^ k ≤ 128 ^ 7 := Nat.pow_le_pow_right (by decide) (by omega)
  rw [hU]
  exact Nat.le_trans h (by decide)
theorem tk_eight {l : List UInt8} {k acc x : Nat} (HE : OM.take l = OM.tk (9 - k) k acc (l.drop k)) (hk : k = 8) (h : k < l.length) (hx : (l[k]).toNat = x) (h0 : 128 ≤ x) : OM.take l = (0, 0, 21) := by
  rw [tk_at HE (by omega) h hx, if_neg (by omega), show 9 - (k + 1) = 0 by omega]
  rfl
theorem unit_room {acc x k U : Nat} (hU : U = 128 ^ k) (hk : k < 9) (hacc : acc < U) (hx : x < 128) : (0 : Int) ≤ (x : Int) * (U : Int) ∧ (x : Int) * (U : Int) ≤ 9223372036854775807 ∧ (acc : Int) + (x : Int) * (U : Int) ≤ 9223372036854775807 := by
  have hp := pow128_le hk
  rw [Nat.pow_succ, ← hU] at hp
  have h1 : x * U ≤ 127 * U := Nat.mul_le_mul_right _ (by omega)
  have h2 : ((x * U : Nat) : Int) = (x : Int) * (U : Int) := Int.natCast_mul _ _
  omega
/-- What TakeText answers. -/
def tt (l : List UInt8) (most : Int) : List UInt8 × Nat × Nat :=
  if (OM.take l).2.2 ≠ 0 then ([], 0, (OM.take l).2.2)
  else if (max most 0) < ((OM.take l).1 : Int) then ([], 0, 21)
  else if l.length - (OM.take l).2.1 < (OM.take l).1 then ([], 0, 20)
  else ((l.drop (OM.take l).2.1).take (OM.take l).1, (OM.take l).2.1 + (OM.take l).1, 0)
theorem tt_bad {l : List UInt8} {x : Nat} {most : Int} (h : OM.take l = (0, 0, x)) (hx : x ≠ 0) : tt l most = ([], 0, x) := by
  unfold tt
  rw [h]
  simp [hx]
theorem tt_long {l : List UInt8} {a s : Nat} {most : Int} (h : OM.take l = (a, s, 0)) (h1 : max most 0 < (a : Int)) : tt l most = ([], 0, 21) := by
  unfold tt
  rw [h]
  simp only [ne_eq, not_true_eq_false, if_false]
  rw [if_pos h1]
theorem tt_short {l : List UInt8} {a s : Nat} {most : Int} (h : OM.take l = (a, s, 0)) (h1 : (a : Int) ≤ max most 0) (h2 : l.length - s < a) : tt l most = ([], 0, 20) := by
  unfold tt
  rw [h]
  simp only [ne_eq, not_true_eq_false, if_false]
  rw [if_neg (by omega), if_pos h2]
theorem tt_ok {l : List UInt8} {a s : Nat} {most : Int} (h : OM.take l = (a, s, 0)) (h1 : (a : Int) ≤ max most 0) (h2 : a ≤ l.length - s) : tt l most = ((l.drop s).take a, s + a, 0) := by
  unfold tt
  rw [h]
  simp only [ne_eq, not_true_eq_false, if_false]
  rw [if_neg (by omega), if_neg (by omega)]
theorem rtext_tt (l : List UInt8) (most : Int) : OM.rtext l 0 most = if (tt l most).2.2 ≠ 0 then ([], l, (tt l most).2.2) else ((tt l most).1, l.drop (tt l most).2.1, 0) := by
  unfold OM.rtext tt
  rw [if_neg (by simp)]
  split
  · simp
  · split
    · simp
    · split
      · simp
      · simp
theorem tt_le (l : List UInt8) (most : Int) : (tt l most).2.1 ≤ l.length := by
  unfold tt
  rcases OM.take_err l with ⟨a, s, ht⟩ | ht | ht
  · have := OM.take_le ht
    rw [ht]
    simp only [ne_eq, not_true_eq_false, if_false]
    split
    · simp
    · split
      · simp
      · simp; omega
  · rw [ht]; simp
  · rw [ht]; simp
/-- What TakeText answers, as an ending. -/
def TTPost (l : List UInt8) (most : Int) (w : World) (x : Ending) (w' : World) : Prop := x = .returned (.tuple #[.string ⟨(tt l most).1.toArray⟩, .int .i64 ((tt l most).2.1 : Int), .int .i64 ((tt l most).2.2 : Int)]) ∧ w = w'
theorem ttPost {l t : List UInt8} {most : Int} {w : World} {s : ByteArray} {k e : Nat} {i j : Int} (h : tt l most = (t, k, e)) (hs : s = ⟨t.toArray⟩) (hi : i = (k : Int)) (hj : j = (e : Int)) : TTPost l most w (.returned (.tuple #[.string s, .int .i64 i, .int .i64 j])) w := by
  unfold TTPost
  rw [h, hs, hi, hj]
  exact ⟨rfl, rfl⟩
theorem text_mid {w : World} {b o s a c : Nat} {l : List UInt8} (K2 : BytesAt w (some ⟨b, o, none⟩) l) (hs : s ≤ l.length) (h3 : l.length ≤ c) (hcs : ¬ c = s) (hfit : a ≤ l.length - s) :
    ∀ (c' : Nat), (convert 88 9 (.slice (some ⟨b, o + s, none⟩) a c')).run Try.prog w = .ok (.string ⟨((l.drop s).take a).toArray⟩) w := by
  intro c'
  have h1 := K2.cut (k := s) (c := c) hs h3
  rw [if_neg hcs] at h1
  have h2 : BytesAt w (some ⟨b, o + s, none⟩) (l.drop s) := by
    have e : Option.map (fun x : Addr => x.add s) (some ⟨b, o, none⟩) = some ⟨b, o + s, none⟩ := by
      show some ((⟨b, o, none⟩ : Addr).add s) = _
      rw [Addr.add_lit]
    rw [← e]
    exact h1
  have h3 := str_of (c := c') (h2.front a)
  have hl : ((l.drop s).take a).length = a := by rw [List.length_take, List.length_drop]; omega
  rw [hl] at h3
  exact h3
end Go.Proofs.Ytbjemihcbbiiaaa.Oct
namespace Go.Proofs.Ytbjemihcbbiiaaa.Oct
open Go.RowKit
set_option maxRecDepth 100000
/-- What the document's reader answers: a first value, and the reader behind it; its bytes lie where they lay. -/
def RefRead (w : World) (v : Value) (l : List UInt8) (e : Nat) (x : Ending) (w' : World) : Prop :=
  ∃ A c, x = .returned (.tuple #[v, .agg #[.slice A l.length c, .int .i64 (e : Int)]]) ∧ BytesAt w A l ∧ l.length ≤ c ∧ c ≤ 9223372036854775807 ∧ Below w.heap.size w w'
theorem results_tmp_cell {fn : Func} {p u : Tmp} {ty : TypeId} (h : fn.results = #[.tmp u, .cell p ty]) (tmps : Array Value) (P : Program) (w : World) :
    (results fn tmps).run P w =
      ((asAddr (tmps.getD p undef)).run P w).andThen fun a w₁ => ((loadVar ty a).run P w₁).andThen fun v w₂ => .ok (.tuple #[tmps.getD u undef, v]) w₂ := by
  simp only [results, h]
  simp [Sem.run_bind, Result.andThen]
theorem refRead {w w' : World} {l m : List UInt8} {e a x n : Nat} {A : Option Addr} {c : Nat} {k : Int} (h : OM.rnum l e = (a, m, x)) (hk : k = (a : Int)) (hn : m.length = n) (hB : BytesAt w A m) (h3 : n ≤ c) (h4 : c ≤ 9223372036854775807) (hb : Below w.heap.size w w') :
    RefRead w (.int .i64 ((OM.rnum l e).1 : Int)) (OM.rnum l e).2.1 (OM.rnum l e).2.2 (.returned (.tuple #[.int .i64 k, .agg #[.slice A n c, .int .i64 (x : Int)]])) w' := by
  rw [h, hk]
  subst hn
  exact ⟨A, c, rfl, hB, h3, h4, hb⟩
theorem refReadT {w w' : World} {l m t : List UInt8} {e x n : Nat} {most : Int} {A : Option Addr} {c : Nat} {k : ByteArray} (h : OM.rtext l e most = (t, m, x)) (hk : k = ⟨t.toArray⟩) (hn : m.length = n) (hB : BytesAt w A m) (h3 : n ≤ c) (h4 : c ≤ 9223372036854775807) (hb : Below w.heap.size w w') :
    RefRead w (.string ⟨(OM.rtext l e most).1.toArray⟩) (OM.rtext l e most).2.1 (OM.rtext l e most).2.2 (.returned (.tuple #[.string k, .agg #[.slice A n c, .int .i64 (x : Int)]])) w' := by
  rw [h, hk]
  subst hn
  exact ⟨A, c, rfl, hB, h3, h4, hb⟩
theorem tt_good {l t : List UInt8} {k : Nat} {most : Int} (h : tt l most = (t, k, 0)) : OM.rtext l 0 most = (t, l.drop k, 0) := by
  rw [rtext_tt, h]
  simp
theorem tt_fail {l t : List UInt8} {k x : Nat} {most : Int} (h : tt l most = (t, k, x)) (hx : x ≠ 0) : OM.rtext l 0 most = ([], l, x) := by
  rw [rtext_tt, h]
  simp [hx]
end Go.Proofs.Ytbjemihcbbiiaaa.Oct
namespace Go.Proofs.Ytbjemihcbbiiaaa.Oct
open Go.RowKit
set_option maxRecDepth 100000
theorem cell_at {w : World} {A : Option Addr} {l : List UInt8} (h : BytesAt w A l) {k : Nat} (hk : k < l.length) : ∃ b o, A = some ⟨b, o, none⟩ ∧ w.cell? ⟨b, o + k, none⟩ = some (.int .u8 ((l[k]).toNat : Int)) := by
  obtain ⟨b, o, e, _, hc⟩ := h (by omega)
  exact ⟨b, o, e, hc k l[k] (List.getElem?_eq_getElem hk)⟩
theorem and_one {q : Nat} (h : q < 4294967296) : bits .and .u32 (q : Int) 1 = ((q % 2 : Nat) : Int) := by
  have e := u32_and_nat q 1 h (by decide)
  rw [nat_mask1] at e
  exact e
theorem odd_is {q : Nat} (h : q < 4294967296) (ho : q % 2 = 1) : bits .and .u32 (q : Int) 1 = 1 := by rw [and_one h, ho]; rfl
theorem odd_not {q : Nat} (h : q < 4294967296) (ho : ¬ q % 2 = 1) : bits .and .u32 (q : Int) 1 = 0 := by rw [and_one h, show q % 2 = 0 by omega]; rfl
theorem xor_poly {q : Nat} (h : q < 4294967296) : bits .xor .u32 (q : Int) 3988292384 = ((q ^^^ 3988292384 : Nat) : Int) := u32_xor_nat q 3988292384 h (by decide)
theorem xor_half_poly {q : Nat} (h : q < 4294967296) : bits .xor .u32 ((q : Int) / 2) 3988292384 = ((q / 2 ^^^ 3988292384 : Nat) : Int) := by
  have e := xor_poly (q := q / 2) (by omega)
  rw [← e, Int.natCast_ediv]
  rfl
theorem sh_odd {q : Nat} (h : q % 2 = 1) : OM.sh q = q / 2 ^^^ 3988292384 := by unfold OM.sh; rw [if_pos h]
theorem sh_even {q : Nat} (h : ¬ q % 2 = 1) : OM.sh q = q / 2 := by unfold OM.sh; rw [if_neg h]
theorem shN_step {j q t : Nat} (h : OM.shN (8 - j) q = t) (hj : j < 8) : OM.shN (8 - (j + 1)) (OM.sh q) = t := by
  rw [show 8 - j = (8 - (j + 1)) + 1 by omega] at h
  exact h
theorem shN_end {j q t : Nat} (h : OM.shN (8 - j) q = t) (hj : ¬ j < 8) : q = t := by
  rw [show 8 - j = 0 by omega] at h
  exact h
theorem crc_step {l : List UInt8} {k r x q : Nat} (HE : OM.crc l 4294967295 = OM.crc (l.drop k) r) (hk : k < l.length) (hx : (l[k]).toNat = x) (hq : q = OM.shN 8 (r ^^^ x)) : OM.crc l 4294967295 = OM.crc (l.drop (k + 1)) q := by
  rw [HE, List.drop_eq_getElem_cons hk, OM.crc_cons, hx, hq]
theorem crc_end {l : List UInt8} {k r : Nat} (HE : OM.crc l 4294967295 = OM.crc (l.drop k) r) (hk : l.length ≤ k) : OM.crc l 4294967295 = r := by
  rw [HE, List.drop_of_length_le hk]
  rfl
theorem sum_not {l : List UInt8} {k r : Nat} (HE : OM.crc l 4294967295 = OM.crc (l.drop k) r) (hk : l.length ≤ k) (hr : r < 4294967296) : bits .xor .u32 IntKind.u32.max (r : Int) = (OM.sum l : Int) := by
  have e := u32_xor_nat 4294967295 r (by decide) hr
  unfold OM.sum
  rw [crc_end HE hk, Nat.xor_comm]
  exact e
theorem sum_xor {l : List UInt8} {k r : Nat} (HE : OM.crc l 4294967295 = OM.crc (l.drop k) r) (hk : l.length ≤ k) (hr : r < 4294967296) : bits .xor .u32 (r : Int) 4294967295 = (OM.sum l : Int) := by
  have e := u32_xor_nat r 4294967295 hr (by decide)
  unfold OM.sum
  rw [crc_end HE hk]
  exact e
theorem bit_of {x j : Nat} (hx : x < 256) : bits .and .u32 ((x : Int) / 2 ^ j) 1 = ((x / 2 ^ j % 2 : Nat) : Int) := by
  have hle : x / 2 ^ j ≤ x := Nat.div_le_self _ _
  have e := and_one (q := x / 2 ^ j) (by omega)
  rw [← e, Int.natCast_ediv, Int.natCast_pow]
  rfl
theorem bit_same {q x j : Nat} (hq : q < 4294967296) (hx : x < 256) (h : (bits .and .u32 ((x : Int) / 2 ^ j) 1 != bits .and .u32 (q : Int) 1) = false) : x / 2 ^ j % 2 = q % 2 := by
  rw [bit_of hx, and_one hq] at h
  simp only [bne_eq_false_iff_eq] at h
  omega
theorem bit_other {q x j : Nat} (hq : q < 4294967296) (hx : x < 256) (h : (bits .and .u32 ((x : Int) / 2 ^ j) 1 != bits .and .u32 (q : Int) 1) = true) : ¬ x / 2 ^ j % 2 = q % 2 := by
  rw [bit_of hx, and_one hq] at h
  simp only [bne_iff_ne, ne_eq] at h
  omega
theorem half_pow (x j : Nat) : x / 2 ^ j / 2 = x / 2 ^ (j + 1) := by rw [Nat.div_div_eq_div_mul, Nat.pow_succ]
theorem refSum_same {j q t x : Nat} (h : OM.shN (8 - j) (q ^^^ x / 2 ^ j) = t) (hj : j < 8) (hp : x / 2 ^ j % 2 = q % 2) : OM.shN (8 - (j + 1)) (q / 2 ^^^ x / 2 ^ (j + 1)) = t := by
  have e := shN_step h hj
  rw [OM.sh_xor, if_pos hp, half_pow] at e
  exact e
theorem refSum_other {j q t x : Nat} (h : OM.shN (8 - j) (q ^^^ x / 2 ^ j) = t) (hj : j < 8) (hp : ¬ x / 2 ^ j % 2 = q % 2) : OM.shN (8 - (j + 1)) (q / 2 ^^^ 3988292384 ^^^ x / 2 ^ (j + 1)) = t := by
  have e := shN_step h hj
  rw [OM.sh_xor, if_neg hp, half_pow] at e
  exact e
theorem refSum_end {j q t x : Nat} (h : OM.shN (8 - j) (q ^^^ x / 2 ^ j) = t) (hj : ¬ j < 8) (hj' : j ≤ 8) (hx : x < 256) : q = t := by
  have e : j = 8 := by omega
  subst e
  rw [show x / 2 ^ 8 = 0 by rw [show (2 : Nat) ^ 8 = 256 by decide]; omega, Nat.xor_zero] at h
  exact h
end Go.Proofs.Ytbjemihcbbiiaaa.Oct
namespace Go.Proofs.Ytbjemihcbbiiaaa.Oct
open Go.RowKit
set_option maxRecDepth 100000
/-- The four bytes of a number. -/
def four (x : Nat) : List UInt8 := [OM.by8 (x % 256), OM.by8 (x / 256 % 256), OM.by8 (x / 65536 % 256), OM.by8 (x / 16777216 % 256)]
theorem by8_val {n : Nat} (h : n < 256) {k : Int} (e : k = (n : Int)) : Value.int .u8 k = u8 (OM.by8 n) := by
  unfold u8
  rw [OM.by8_nat h, e]
theorem four_cells {x : Nat} (hx : x < 4294967296) : (#[Value.int .u8 ((x : Int) % 256), .int .u8 ((x : Int) / 256 % 256), .int .u8 ((x : Int) / 65536 % 256), .int .u8 ((x : Int) / 16777216)] : Array Value) = (u8s (four x)).toArray := by
  rw [by8_val (n := x % 256) (by omega) (by omega), by8_val (n := x / 256 % 256) (by omega) (by omega), by8_val (n := x / 65536 % 256) (by omega) (by omega), by8_val (n := x / 16777216 % 256) (by omega) (by omega)]
  rfl
/-- The number of the first four bytes. -/
def ofFour (l : List UInt8) : Nat := if l.length < 4 then 0 else (l.getD 0 0).toNat + (l.getD 1 0).toNat * 256 + (l.getD 2 0).toNat * 65536 + (l.getD 3 0).toNat * 16777216
theorem or_join {a y : Nat} (sh : Nat) (ha : a < 2 ^ sh) (hl : y * 2 ^ sh < 4294967296) (ha2 : a < 4294967296) : bits .or .u32 (a : Int) ((y * 2 ^ sh : Nat) : Int) = ((a + y * 2 ^ sh : Nat) : Int) := by
  rw [u32_or_nat _ _ ha2 hl, Nat.or_comm, nat_join sh _ a (Nat.mul_mod_left _ _) ha, Nat.add_comm]
theorem four_join {y0 y1 y2 y3 : Nat} (h0 : y0 < 256) (h1 : y1 < 256) (h2 : y2 < 256) (h3 : y3 < 256) :
    bits .or .u32 (bits .or .u32 (bits .or .u32 (bits .or .u32 0 (y0 : Int)) ((y1 : Int) * 256)) ((y2 : Int) * 65536)) ((y3 : Int) * 16777216) = ((y0 + y1 * 256 + y2 * 65536 + y3 * 16777216 : Nat) : Int) := by
  have e0 : bits .or .u32 0 (y0 : Int) = (y0 : Int) := by
    have e := u32_or_nat 0 y0 (by decide) (by omega)
    rw [Nat.zero_or] at e
    exact e
  have e1 : bits .or .u32 (y0 : Int) ((y1 : Int) * 256) = ((y0 + y1 * 256 : Nat) : Int) := by
    have e := or_join (a := y0) (y := y1) 8 (by omega) (by omega) (by omega)
    rw [Int.natCast_mul] at e
    exact e
  have e2 : bits .or .u32 ((y0 + y1 * 256 : Nat) : Int) ((y2 : Int) * 65536) = ((y0 + y1 * 256 + y2 * 65536 : Nat) : Int) := by
    have e := or_join (a := y0 + y1 * 256) (y := y2) 16 (by omega) (by omega) (by omega)
    rw [Int.natCast_mul] at e
    exact e
  have e3 : bits .or .u32 ((y0 + y1 * 256 + y2 * 65536 : Nat) : Int) ((y3 : Int) * 16777216) = ((y0 + y1 * 256 + y2 * 65536 + y3 * 16777216 : Nat) : Int) := by
    have e := or_join (a := y0 + y1 * 256 + y2 * 65536) (y := y3) 24 (by omega) (by omega) (by omega)
    rw [Int.natCast_mul] at e
    exact e
  rw [e0, e1, e2, e3]
theorem getD_at {l : List UInt8} {k : Nat} (h : k < l.length) : l.getD k 0 = l[k] := by simp [List.getD, List.getElem?_eq_getElem h]
theorem ofFour_short {l : List UInt8} (h : l.length < 4) : ofFour l = 0 := by unfold ofFour; rw [if_pos h]
theorem ofFour_long {l : List UInt8} (h : ¬ l.length < 4) {y0 y1 y2 y3 : Nat} (e : (l[0]).toNat = y0 ∧ (l[1]).toNat = y1 ∧ (l[2]).toNat = y2 ∧ (l[3]).toNat = y3) : ofFour l = y0 + y1 * 256 + y2 * 65536 + y3 * 16777216 := by
  unfold ofFour
  rw [if_neg h, ← e.1, ← e.2.1, ← e.2.2.1, ← e.2.2.2]
  rw [getD_at (by omega), getD_at (by omega), getD_at (by omega), getD_at (by omega)]
theorem two_back {a b : Int} {x y : Bool} (h : a = b) (h' : x = y) : Ending.returned (.tuple #[.int .u32 a, .bool x]) = .returned (.tuple #[.int .u32 b, .bool y]) := by rw [h, h']
theorem ref_join (y0 y1 y2 y3 : Nat) : (((y3 : Int) * 256 + y2) * 256 + y1) * 256 + y0 = ((y0 + y1 * 256 + y2 * 65536 + y3 * 16777216 : Nat) : Int) := by omega
theorem four_take {x k q : Nat} (hk : k < 4) (hq : q = x / 256 ^ k) : (four x).take (k + 1) = (four x).take k ++ [OM.by8 (q % 256)] := by
  subst hq
  match k, hk with
  | 0, _ => simp [four]
  | 1, _ => simp [four]
  | 2, _ => simp [four]
  | 3, _ => simp [four]
end Go.Proofs.Ytbjemihcbbiiaaa.Oct
