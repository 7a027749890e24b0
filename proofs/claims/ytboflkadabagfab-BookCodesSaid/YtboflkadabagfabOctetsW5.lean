/- The document's own answers of layer 2: a number's and a text's form, and how they are taken up. -/
import Derived.Test.YtboflkadabagfabOctetsW4
import Derived.Maps.AppendAt
namespace Go.Proofs.Ytboflkadabagfab.Oct
open Go.RowKit
set_option maxRecDepth 100000
theorem enc_len {N m : Nat} {pre : List UInt8} (h : OM.enc N = pre ++ OM.enc m) (hN : N ≤ 9223372036854775807) : pre.length + 1 ≤ 9 := by
  have h1 := OM.enc_pos m
  have h2 := OM.enc_nine hN
  rw [h, List.length_append] at h2
  omega
/-- What the call itself has grown holds these bytes. -/
def Grew (w : World) (xs : List UInt8) (v : Value) (w' : World) : Prop := w'.ownsRow w.heap.size 5 1 v xs.length (u8s xs) ∧ Below w.heap.size w w'
theorem Grew.nil (w : World) : Grew w [] (.slice none 0 0) w := ⟨World.ownsRow_nil _ _ _ _, Below.refl _ _⟩
theorem one_one {c : UInt8} : ∀ u ∈ [u8 c], u.oneCell' = true := by
  intro u hu
  have e : u = u8 c := by simpa using hu
  rw [e]; rfl
/-- One byte put behind what the call itself has grown. -/
theorem app_one {w w1 : World} {ops : Array Oper} {rest : List Oper} {o : Oper} {a : Act} {Q : Exit → Act → World → Prop} (hgd : o.guard = none) (s x : Operand)
    (ho : o.op = .call { callee := .builtin .append, args := #[s, x], argTypes := #[29, 29] })
    (v : Value) (pre : List UInt8) (hG : Grew w pre v w1) (hs : a.eval s = v) (k : Int) (c : UInt8) (hk : k = (c.toNat : Int)) (hx : a.eval x = .slice (some ⟨w1.heap.size, 0, none⟩) 1 1) (hl : pre.length + 1 ≤ 140737488355328)
    (h : ∀ v' w2, Grew w (pre ++ [c]) v' w2 → wpList Try.prog ops Q rest (a.put o.dst v') w2) : wpList Try.prog ops Q (o :: rest) a (w1.alloc (.cells #[.int .u8 k] 5)) := by
  obtain ⟨i0, hi, hz0, hz1, hz2⟩ := info_parts info_u8
  subst hk
  refine wpList_append_own_at _ hgd s x 29 ho w.heap.size 5 i0 (.int .u8 0) 1 1 Try.underlying29 hi hz0 hz1 hz2 rfl (by decide) v pre.length (u8s pre) hs (hG.1.alloc _) ⟨w1.heap.size, 0, none⟩ 1 1 [u8 c] hx rfl
    (World.news_of_block (cs := #[u8 c]) (t := 5) (fr := (0, 0)) (heap_alloc_new w1 _)) one_one (by unfold maxLen; omega) (by omega) (by have := hG.2.size; rw [World.size_alloc]; omega) ?_
  intro v' w2 hown hgrow _ _
  refine h v' w2 ⟨by rw [List.length_append, u8s_append]; exact hown, (hG.2.alloc hG.2.size _).grown hgrow ?_ (fun k hk => (hG.1.lt k hk).1)⟩
  have := hG.2.size
  rw [World.size_alloc]
  omega
set_option maxHeartbeats 1000000 in
theorem RefNum_any (n : Int) (w : World) (hn : -9223372036854775808 ≤ n ∧ n ≤ 9223372036854775807) :
    Calls Try.prog 53 #[.int .i64 n] w (Fresh w (OM.enc n.toNat)) := by
  by_cases hn0 : n < 0
  · go_enter Try.func53, Try.ntmps53
    go_wp2_with fail
    have HN := Lib.hid (show (0 : Int) = ((n.toNat : Nat) : Int) by omega)
    have HM := Lib.hid (show n.toNat ≤ 9223372036854775807 by omega)
    clear hn0 hn
    go_loopw [0, 3] (fun i v wx => ∃ (m : Nat) (pre : List UInt8), i = .int .i64 (m : Int) ∧ m ≤ 9223372036854775807 ∧ Hid (OM.enc n.toNat = pre ++ OM.enc m) ∧ Grew w pre v wx) (fun i _ _ => (intOf i).toNat)
    case atStart => exact ⟨n.toNat, [], congrArg (Value.int .i64) HN.out, HM.out, Lib.hid rfl, Grew.nil w⟩
    case round =>
      obtain ⟨m, pre, rfl, hm, HE, hG⟩ := hrel
      have HG := Lib.hid hG; clear hG
      have hlen := enc_len HE.out HM.out
      by_cases hlt : 128 ≤ (m : Int)
      · have HC := Lib.hid (show (m : Int) % 128 + 128 = ((OM.by8 (m % 128 + 128)).toNat : Int) by rw [OM.by8_nat (by omega)]; omega)
        go_wp2_with (at_builtin; refine app_one rfl (.tmp 8) (.tmp 13) rfl _ pre HG.out rfl _ _ HC.out rfl (by omega) ?_; intro v2 w2 hg2; have HG2 := Lib.hid hg2; clear hg2)
        go_roundw
        case rel => exact ⟨m / 128, pre ++ [OM.by8 (m % 128 + 128)], rfl, by omega, Lib.hid (enc_step HE.out (by omega)), HG2.out⟩
        case measure => simp only [intOf]; omega
      · have HC := Lib.hid (show (m : Int) = ((OM.by8 m).toNat : Int) by rw [OM.by8_nat (by omega)])
        go_wp2_with (at_builtin; refine app_one rfl (.tmp 17) (.tmp 20) rfl _ pre HG.out rfl _ _ HC.out rfl (by omega) ?_; intro v2 w2 hg2; have HG2 := Lib.hid hg2; clear hg2)
        go_ret
        rw [enc_stop HE.out (by omega)]
        exact ⟨_, rfl, HG2.out.1, HG2.out.2⟩
  · have hn1 : 0 ≤ n := by omega
    go_enter Try.func53, Try.ntmps53
    go_wp2_with fail
    have HN := Lib.hid (show n = ((n.toNat : Nat) : Int) by omega)
    have HM := Lib.hid (show n.toNat ≤ 9223372036854775807 by omega)
    clear hn0 hn hn1
    go_loopw [0, 3] (fun i v wx => ∃ (m : Nat) (pre : List UInt8), i = .int .i64 (m : Int) ∧ m ≤ 9223372036854775807 ∧ Hid (OM.enc n.toNat = pre ++ OM.enc m) ∧ Grew w pre v wx) (fun i _ _ => (intOf i).toNat)
    case atStart => exact ⟨n.toNat, [], congrArg (Value.int .i64) HN.out, HM.out, Lib.hid rfl, Grew.nil w⟩
    case round =>
      obtain ⟨m, pre, rfl, hm, HE, hG⟩ := hrel
      have HG := Lib.hid hG; clear hG
      have hlen := enc_len HE.out HM.out
      by_cases hlt : 128 ≤ (m : Int)
      · have HC := Lib.hid (show (m : Int) % 128 + 128 = ((OM.by8 (m % 128 + 128)).toNat : Int) by rw [OM.by8_nat (by omega)]; omega)
        go_wp2_with (at_builtin; refine app_one rfl (.tmp 8) (.tmp 13) rfl _ pre HG.out rfl _ _ HC.out rfl (by omega) ?_; intro v2 w2 hg2; have HG2 := Lib.hid hg2; clear hg2)
        go_roundw
        case rel => exact ⟨m / 128, pre ++ [OM.by8 (m % 128 + 128)], rfl, by omega, Lib.hid (enc_step HE.out (by omega)), HG2.out⟩
        case measure => simp only [intOf]; omega
      · have HC := Lib.hid (show (m : Int) = ((OM.by8 m).toNat : Int) by rw [OM.by8_nat (by omega)])
        go_wp2_with (at_builtin; refine app_one rfl (.tmp 17) (.tmp 20) rfl _ pre HG.out rfl _ _ HC.out rfl (by omega) ?_; intro v2 w2 hg2; have HG2 := Lib.hid hg2; clear hg2)
        go_ret
        rw [enc_stop HE.out (by omega)]
        exact ⟨_, rfl, HG2.out.1, HG2.out.2⟩
set_option maxHeartbeats 1000000 in
theorem RefText_any (s : ByteArray) (w : World) (hs : s.size ≤ 140737488351232) :
    Calls Try.prog 22 #[.string s] w (Fresh w (OM.encT s.data.toList)) := by
  go_enter Try.func22, Try.ntmps22
  go_wp2_with (go_at_call 53; refine (RefNum_any _ _ (by omega)).mono ?_; rintro e w1 ⟨v, rfl, h1, h2⟩; have HG := Lib.hid (show Grew w (OM.enc ((s.size : Int)).toNat) v w1 from ⟨h1, h2⟩); clear h1 h2)
  have hnine : (OM.enc ((s.size : Int)).toNat).length ≤ 9 := OM.enc_nine (by omega)
  go_loopw [4, 3] (fun i v wx => ∃ (k : Nat), i = .int .i64 (k : Int) ∧ k ≤ s.size ∧ Grew w (OM.enc ((s.size : Int)).toNat ++ s.data.toList.take k) v wx) (fun i _ _ => s.size - (intOf i).toNat)
  case atStart => exact ⟨0, rfl, by omega, by rw [List.take_zero, List.append_nil]; exact HG.out⟩
  case round =>
    obtain ⟨k, rfl, hk, hG⟩ := hrel
    have HK := Lib.hid hG; clear hG
    have hlk : (OM.enc ((s.size : Int)).toNat ++ s.data.toList.take k).length ≤ 9 + k := by
      rw [List.length_append, List.length_take]; omega
    by_cases hlt : k < s.size
    · go_wp2_with (at_builtin; refine app_one rfl (.tmp 14) (.tmp 18) rfl _ _ HK.out rfl _ s[k] rfl rfl (by omega) ?_; intro v2 w2 hg2; have HG2 := Lib.hid hg2; clear hg2)
      go_roundw
      case rel => exact ⟨k + 1, rfl, by omega, by rw [take_step hlt, ← List.append_assoc]; exact HG2.out⟩
      case measure => simp only [intOf]; omega
    · go_wp2_with fail
      go_ret
      have e : s.data.toList.take k = s.data.toList := List.take_of_length_le (by show s.size ≤ k; omega)
      rw [e] at HK
      have e2 := encT_eq s []
      rw [List.nil_append, List.nil_append] at e2
      rw [e2]
      exact ⟨_, rfl, HK.out.1, HK.out.2⟩
end Go.Proofs.Ytboflkadabagfab.Oct
