/- The writer's calls that lay down: a number's form, a text's form; each behind what there is. -/
import Derived.Test.YtboflkadabagfabOctetsLayA
import Derived.Test.YtboflkadabagfabOctetsLayB
namespace Go.Proofs.Ytboflkadabagfab.Oct
open Go.RowKit
set_option maxRecDepth 100000
theorem ofInt64 (a : Nat) (ha : a < 9223372036854775808) : (BitVec.ofInt 64 (a : Int)).toNat = a := by
  rw [BitVec.ofInt_natCast, BitVec.toNat_ofNat]
  exact Nat.mod_eq_of_lt (by omega)
theorem and64 (a b : Nat) (ha : a < 9223372036854775808) (hb : b < 9223372036854775808) : bits .and .i64 (a : Int) (b : Int) = ((a &&& b : Nat) : Int) := by
  have hx : a &&& b < 2 ^ 63 := Nat.and_lt_two_pow _ (by omega)
  show IntKind.i64.wrap ((BitVec.ofInt 64 (a : Int) &&& BitVec.ofInt 64 (b : Int)).toNat : Int) = _
  rw [BitVec.toNat_and, ofInt64 a ha, ofInt64 b hb, IntKind.wrap_i64]
  omega
theorem or64 (a b : Nat) (ha : a < 9223372036854775808) (hb : b < 9223372036854775808) : bits .or .i64 (a : Int) (b : Int) = ((a ||| b : Nat) : Int) := by
  have hx : a ||| b < 2 ^ 63 := Nat.or_lt_two_pow (by omega) (by omega)
  show IntKind.i64.wrap ((BitVec.ofInt 64 (a : Int) ||| BitVec.ofInt 64 (b : Int)).toNat : Int) = _
  rw [BitVec.toNat_or, ofInt64 a ha, ofInt64 b hb, IntKind.wrap_i64]
  omega
theorem low7 (m : Nat) (hm : m ≤ 9223372036854775807) : bits .and .i64 (m : Int) 127 = ((m % 128 : Nat) : Int) := by
  have h := and64 m 127 (by omega) (by decide)
  rw [nat_mask7] at h
  exact h
theorem more7 (m : Nat) : bits .or .i64 ((m % 128 : Nat) : Int) 128 = ((m % 128 + 128 : Nat) : Int) := by
  have h := or64 (m % 128) 128 (by omega) (by decide)
  rw [Nat.or_comm, nat_join 7 128 (m % 128) (by decide) (by omega), Nat.add_comm] at h
  exact h
theorem more7' (m : Nat) (hm : m ≤ 9223372036854775807) : bits .or .i64 (bits .and .i64 (m : Int) 127) 128 % 256 = ((m % 128 + 128 : Nat) : Int) := by
  rw [low7 m hm, more7 m]
  omega
theorem enc_step {N m : Nat} {pre : List UInt8} (h : OM.enc N = pre ++ OM.enc m) (hm : 128 ≤ m) : OM.enc N = (pre ++ [OM.by8 (m % 128 + 128)]) ++ OM.enc (m / 128) := by
  rw [h, OM.enc_more hm, List.append_assoc]
  rfl
theorem enc_stop {N m : Nat} {pre : List UInt8} (h : OM.enc N = pre ++ OM.enc m) (hm : m < 128) : OM.enc N = pre ++ [OM.by8 m] := by
  rw [h, OM.enc_last hm]
theorem enc_room {N m : Nat} {L pre : List UInt8} (h : OM.enc N = pre ++ OM.enc m) (hl : (L ++ OM.enc N).length ≤ 140737488355328) : (L ++ pre).length + 1 ≤ 140737488355328 := by
  have h1 := OM.enc_pos m
  rw [h, List.length_append, List.length_append] at hl
  rw [List.length_append]
  omega
theorem Laid.more {w w1 w2 : World} {a : Nat} {L pre : List UInt8} {F : List Nat} {c : UInt8} (h : Laid w a F (L ++ pre) w1) (k : ∀ F1, WAt w1 a (L ++ pre) F1 → Laid w1 a F1 ((L ++ pre) ++ [c]) w2) :
    Laid w a F (L ++ (pre ++ [c])) w2 := by
  rw [← List.append_assoc]
  exact h.then_ k
/-- One byte laid down. -/
theorem lay_any (a : Nat) (c : UInt8) (L : List UInt8) (F : List Nat) (w : World) (h : WAt w a L F) (hlen : L.length + 1 ≤ 140737488355328) :
    Calls Try.prog 74 #[.pointer (some ⟨a, 0, none⟩), u8 c] w fun e w' => e = .returned (.tuple #[]) ∧ Laid w a F (L ++ [c]) w' := by
  rcases h with ⟨rfl, rfl, h⟩ | ⟨p, g, cap, rfl, h1, h2, h3⟩
  · exact lay_none a c w h
  · exact lay_some a p g cap c L w hlen h1 h2 h3
theorem lay_nat (a m : Nat) (L : List UInt8) (F : List Nat) (w : World) (hm : m < 256) (h : WAt w a L F) (hlen : L.length + 1 ≤ 140737488355328) :
    Calls Try.prog 74 #[.pointer (some ⟨a, 0, none⟩), .int .u8 (m : Int)] w fun e w' => e = .returned (.tuple #[]) ∧ Laid w a F (L ++ [OM.by8 m]) w' := by
  have e := lay_any a (OM.by8 m) L F w h hlen
  unfold u8 at e
  rw [OM.by8_nat hm] at e
  exact e
set_option maxHeartbeats 1000000 in
theorem Num_any (a : Nat) (n : Int) (L : List UInt8) (F : List Nat) (w : World) (hn : -9223372036854775808 ≤ n ∧ n ≤ 9223372036854775807) (h : WAt w a L F) (hlen : (L ++ OM.enc n.toNat).length ≤ 140737488355328) :
    Calls Try.prog 41 #[.pointer (some ⟨a, 0, none⟩), .int .i64 n] w fun e w' => e = .returned (.tuple #[]) ∧ Laid w a F (L ++ OM.enc n.toNat) w' := by
  have H := Lib.hid h; clear h
  have HB := Lib.hid hlen; clear hlen
  go_enter Try.func41, Try.ntmps41
  go_wp2_with fail
  all_goals
    rename_i hsign
    go_loopw [1] (fun i wx => ∃ (m : Nat) (pre : List UInt8), i = .int .i64 (m : Int) ∧ m ≤ 9223372036854775807 ∧ Hid (OM.enc n.toNat = pre ++ OM.enc m) ∧ Laid w a F (L ++ pre) wx) (fun i _ => (intOf i).toNat)
    case atStart => exact ⟨n.toNat, [], by first | exact congrArg (Value.int .i64) (by omega) | skip, by omega, Lib.hid rfl, by rw [List.append_nil]; exact Laid.refl H.out⟩
    case round =>
      obtain ⟨m, pre, rfl, hm, HE, hL⟩ := hrel
      have HL := Lib.hid hL; clear hL
      obtain ⟨F1, hA, hM, hF⟩ := HL.out
      by_cases hlt : 127 < (m : Int)
      · have E2 := Lib.hid (more7' m hm)
        go_wp2_with (go_at_call 74; rw [E2.out]; refine (lay_nat a (m % 128 + 128) (L ++ pre) F1 _ (by omega) hA (enc_room HE.out HB.out)).mono ?_; rintro e w2 ⟨rfl, hl2⟩; have HL2 := Lib.hid hl2; clear hl2)
        go_roundw
        case rel => exact ⟨m / 128, pre ++ [OM.by8 (m % 128 + 128)], rfl, by omega, Lib.hid (enc_step HE.out (by omega)), by
          rw [← List.append_assoc]
          obtain ⟨F2, k1, k2, k3⟩ := HL2.out
          exact ⟨F2, k1, hM.trans k2 hF, fun x hx => (k3 x hx).elim (hF x) (fun hs => .inr (Nat.le_trans hM.size hs))⟩⟩
        case measure => simp only [intOf]; omega
      · go_wp2_with (go_at_call 74; refine (lay_nat a m (L ++ pre) F1 _ (by omega) hA (enc_room HE.out HB.out)).mono ?_; rintro e w2 ⟨rfl, hl2⟩; have HL2 := Lib.hid hl2; clear hl2)
        go_end0
        refine ⟨rfl, ?_⟩
        rw [enc_stop HE.out (by omega), ← List.append_assoc]
        obtain ⟨F2, k1, k2, k3⟩ := HL2.out
        exact ⟨F2, k1, hM.trans k2 hF, fun x hx => (k3 x hx).elim (hF x) (fun hs => .inr (Nat.le_trans hM.size hs))⟩
theorem take_step {s : ByteArray} {k : Nat} (h : k < s.size) : s.data.toList.take (k + 1) = s.data.toList.take k ++ [s[k]] := by
  rw [List.take_add_one]
  congr 1
  have h' : k < s.data.toList.length := by simpa using h
  rw [List.getElem?_eq_getElem h']
  rfl
theorem take_room {s : ByteArray} {k : Nat} {L : List UInt8} (h : k < s.size) (hl : (L ++ s.data.toList).length ≤ 140737488355328) : (L ++ s.data.toList.take k).length + 1 ≤ 140737488355328 := by
  have e : s.data.toList.length = s.size := rfl
  rw [List.length_append, e] at hl
  rw [List.length_append, List.length_take, e]
  omega
set_option maxHeartbeats 1000000 in
theorem eachByte_any (a : Nat) (s : ByteArray) (L : List UInt8) (F : List Nat) (w : World) (hs : s.size ≤ 9223372036854775807) (h : WAt w a L F) (hlen : (L ++ s.data.toList).length ≤ 140737488355328) :
    Calls Try.prog 93 #[.string s, .func (Fn.func 74) #[.pointer (some ⟨a, 0, none⟩)] #[]] w fun e w' => e = .returned (.tuple #[]) ∧ Laid w a F (L ++ s.data.toList) w' := by
  have H := Lib.hid h; clear h
  have HB := Lib.hid hlen; clear hlen
  go_enter Try.func93, Try.ntmps93
  go_wp2_with fail
  go_loopw [7] (fun i wx => ∃ (k : Nat), i = .int .i64 (k : Int) ∧ k ≤ s.size ∧ Laid w a F (L ++ s.data.toList.take k) wx) (fun i _ => s.size - (intOf i).toNat)
  case atStart => exact ⟨0, rfl, by omega, by rw [List.take_zero, List.append_nil]; exact Laid.refl H.out⟩
  case round =>
    obtain ⟨k, rfl, hk, hL⟩ := hrel
    have HL := Lib.hid hL; clear hL
    obtain ⟨F1, hA, hM, hF⟩ := HL.out
    by_cases hlt : k < s.size
    · go_wp2_with (go_at_call 74; refine (lay_any a s[k] (L ++ s.data.toList.take k) F1 _ hA (take_room hlt HB.out)).mono ?_; rintro e w2 ⟨rfl, hl2⟩; have HL2 := Lib.hid hl2; clear hl2)
      go_roundw
      case rel => exact ⟨k + 1, rfl, by omega, by
        rw [take_step hlt, ← List.append_assoc]
        obtain ⟨F2, k1, k2, k3⟩ := HL2.out
        exact ⟨F2, k1, hM.trans k2 hF, fun x hx => (k3 x hx).elim (hF x) (fun hs => .inr (Nat.le_trans hM.size hs))⟩⟩
      case measure => simp only [intOf]; omega
    · go_wp2_with fail
      go_end0
      refine ⟨rfl, ?_⟩
      have e : s.data.toList.take k = s.data.toList := List.take_of_length_le (by show s.size ≤ k; omega)
      rw [e] at HL
      exact HL.out
theorem encT_room {s : ByteArray} {L : List UInt8} (h : (L ++ OM.encT s.data.toList).length ≤ 140737488355328) : (L ++ OM.enc ((s.size : Int)).toNat).length ≤ 140737488355328 := by
  have e : s.data.toList.length = s.size := rfl
  unfold OM.encT at h
  rw [Int.toNat_natCast]
  rw [e, List.length_append, List.length_append] at h
  rw [List.length_append]
  omega
theorem encT_eq (s : ByteArray) (L : List UInt8) : L ++ OM.encT s.data.toList = (L ++ OM.enc ((s.size : Int)).toNat) ++ s.data.toList := by
  have e : s.data.toList.length = s.size := rfl
  unfold OM.encT
  rw [Int.toNat_natCast, e, List.append_assoc]
set_option maxHeartbeats 1000000 in
theorem Text_any (a : Nat) (s : ByteArray) (L : List UInt8) (F : List Nat) (w : World) (hs : s.size ≤ 9223372036854775807) (h : WAt w a L F) (hlen : (L ++ OM.encT s.data.toList).length ≤ 140737488355328) :
    Calls Try.prog 75 #[.pointer (some ⟨a, 0, none⟩), .string s] w fun e w' => e = .returned (.tuple #[]) ∧ Laid w a F (L ++ OM.encT s.data.toList) w' := by
  have H := Lib.hid h; clear h
  have HB := Lib.hid hlen; clear hlen
  go_enter Try.func75, Try.ntmps75
  go_wp2_with (go_at_call 41; refine (Num_any a _ L F _ (by omega) H.out (encT_room HB.out)).mono ?_; rintro e w1 ⟨rfl, hl1⟩; have HL1 := Lib.hid hl1; clear hl1)
  obtain ⟨F1, hA, hM, hF⟩ := HL1.out
  refine (eachByte_any a s _ F1 _ hs hA (by rw [← encT_eq]; exact HB.out)).mono ?_
  rintro e w2 ⟨rfl, hl2⟩
  have HL2 := Lib.hid hl2; clear hl2
  go_wp2
  go_end0
  refine ⟨rfl, ?_⟩
  rw [encT_eq]
  obtain ⟨F2, k1, k2, k3⟩ := HL2.out
  exact ⟨F2, k1, hM.trans k2 hF, fun x hx => (k3 x hx).elim (hF x) (fun hs => .inr (Nat.le_trans hM.size hs))⟩
end Go.Proofs.Ytboflkadabagfab.Oct
