/- Texts that belong together: WireW9, WireTM. -/
import Derived.Test.YtboflkadabagfaaWireF
import Derived.Test.YtboflkadabagfaaWireA
import Derived.Test.YtboflkadabagfaaOctB
namespace Go.Proofs.Ytboflkadabagfaa
open Go.RowKit
open Oct (BytesAt)
open WM (Msg)
set_option linter.unusedVariables false
set_option maxRecDepth 100000
set_option maxHeartbeats 2000000 in
theorem Equal_any (A B : Option Addr) (c d : Nat) (a b : List Int) (w : World) (hA : IntsAt w A a) (hB : IntsAt w B b) (ha : a.length ≤ c) (hb : b.length ≤ d) (hc : c ≤ 9223372036854775807) (hd : d ≤ 9223372036854775807) :
    Calls Try.prog 39 #[.slice A a.length c, .slice B b.length d] w fun e w' => e = .returned (.bool (decide (a = b))) ∧ Below w.heap.size w w' := by
  have HA := Lib.hid hA; clear hA
  have HB := Lib.hid hB; clear hB
  by_cases hlen : a.length = b.length
  · go_enter Try.func39, Try.ntmps39
    rw [← hlen]
    go_wp2_with fail
    go_loopw [5, 13] (fun _ i wx => ∃ k : Nat, i = .int .i64 (k : Int) ∧ k ≤ a.length ∧ Below w.heap.size w wx ∧ Hid (a.take k = b.take k)) (fun _ i _ => a.length - (intOf i).toNat)
    case atStart => exact ⟨0, rfl, by omega, Below.refl _ _, Lib.hid (by rw [List.take_zero, List.take_zero])⟩
    case round =>
      obtain ⟨k, rfl, hk, hW, HT⟩ := hrel
      have HW := Lib.hid hW; clear hW
      by_cases hlt : k < a.length
      · have hltb : k < b.length := by omega
        obtain ⟨ba, oa, eA, _, hca⟩ := (HA.out.below HW.out) (by omega)
        obtain ⟨bb, ob, eB, _, hcb⟩ := (HB.out.below HW.out) (by omega)
        subst eA
        subst eB
        have ca := hca k a[k] (List.getElem?_eq_getElem hlt)
        have cb := hcb k b[k] (List.getElem?_eq_getElem hltb)
        clear hca hcb
        by_cases he : a[k] = b[k]
        · have HS := Lib.hid (take_same HT.out hlt hltb he)
          rw [← he] at cb
          clear he
          generalize a[k] = x at ca cb
          go_wp2_with fail
          go_region
          all_goals
            go_wp2
            go_roundw
            case rel => exact ⟨k + 1, rfl, by omega, HW.out.drew, HS⟩
            case measure => simp only [intOf]; omega
        · have HN := Lib.hid (take_not hlt hltb he)
          have hd2 : (a[k] == b[k]) = false := by simpa using he
          have hd3 : (a[k] != b[k]) = true := by simpa using he
          clear he
          generalize a[k] = x at ca hd2 hd3
          generalize b[k] = y at cb hd2 hd3
          go_wp2_with fail
          go_region
          all_goals
            go_wp2
            try rw [Exit.noGoto_ret]
            go_ret
            exact ⟨ret_bool (decide_eq_false HN.out).symm, HW.out.drew⟩
      · have HE := Lib.hid (show a = b by have := HT.out; rwa [List.take_of_length_le (by omega), List.take_of_length_le (by omega)] at this)
        go_wp2_with fail
        go_ret
        exact ⟨ret_bool (decide_eq_true HE.out).symm, HW.out⟩
  · go_enter Try.func39, Try.ntmps39
    go_wp2_with fail
    go_ret
    exact ⟨ret_bool (decide_eq_false (fun e => hlen (by rw [e]))).symm, Below.refl _ _⟩
set_option maxHeartbeats 1000000 in
theorem BytesEqual_any (A B : Option Addr) (c d : Nat) (a b : List UInt8) (w : World) (hA : BytesAt w A a) (hB : BytesAt w B b) :
    Calls Try.prog 36 #[.slice A a.length c, .slice B b.length d] w fun e w' => e = .returned (.bool (decide (a = b))) ∧ w = w' := by
  have h1 := Oct.str_of (c := c) hA
  have h2 := Oct.str_of (c := d) hB
  clear hA hB
  go_enter Try.func36, Try.ntmps36
  go_wp2_with fail
  go_ret
  exact ⟨ret_bool (by rw [Bool.eq_iff_iff]; simp), rfl⟩
end Go.Proofs.Ytboflkadabagfaa
namespace Go.Proofs.Ytboflkadabagfaa
open Go.RowKit
open WM (Msg)
set_option linter.unusedVariables false
theorem rnum_in (l : List UInt8) (e : Nat) : (OM.rnum l e).1 ≤ 9223372036854775807 := by
  by_cases he : e = 0
  · subst he
    by_cases h : (OM.rnum l 0).2.2 = 0
    · obtain ⟨a, r, x, hx⟩ : ∃ a r x, OM.rnum l 0 = (a, r, x) := ⟨_, _, _, rfl⟩
      rw [hx] at h ⊢
      subst h
      exact (OM.rnum_one hx).1
    · rw [(OM.rnum_stay h).2]; omega
  · have h : (OM.rnum l e).2.2 ≠ 0 := by
      rcases OM.rnum_err l e with h | h
      · rw [h]; exact he
      · exact absurd h.1 he
    rw [(OM.rnum_stay h).2]; omega
theorem tnum_in (s : WM.St) : In64 (WM.tnum s).1 := by
  have := rnum_in s.1 s.2
  unfold In64 WM.tnum
  simp only
  omega
theorem rtext_in (l : List UInt8) (e : Nat) : (OM.rtext l e 200).1.length ≤ 200 := by
  unfold OM.rtext
  split
  · simp
  · split
    · simp
    · split
      · simp
      · split
        · simp
        · rename_i h _
          simp only [List.length_take]
          omega
theorem ttext_in (s : WM.St) : (WM.ttext s).1.size ≤ 140737488351232 := by
  have := rtext_in s.1 s.2
  have e : (WM.ttext s).1.size = (OM.rtext s.1 s.2 200).1.length := by
    unfold WM.ttext
    simp [ByteArray.size]
  omega
theorem tnums_in : ∀ (k : Nat) (s : WM.St), ∀ x ∈ (WM.tnums k s).1, In64 x
  | 0, s => by intro x hx; simp [WM.tnums] at hx
  | k + 1, s => by
    intro x hx
    rw [WM.tnums] at hx
    simp only [List.mem_cons] at hx
    rcases hx with rfl | hx
    · exact tnum_in s
    · exact tnums_in k _ x hx
theorem in0 : In64 0 := by unfold In64; omega
theorem wide_zero : Wide WM.zero := ⟨in0, in0, in0, in0, in0, in0, in0, in0, in0, in0, in0, in0, in0, by intro x hx; simp [WM.zero] at hx, by show ((⟨#[]⟩ : ByteArray)).size ≤ _; simp [ByteArray.size]⟩
theorem wide_taken (most : Nat) (xs : List UInt8) : Wide (WM.taken most xs) := by
  have h0 : Wide (WM.headT (xs, 0)).1 := ⟨tnum_in _, tnum_in _, tnum_in _, in0, in0, in0, in0, in0, in0, in0, in0, in0, in0, wide_zero.stamp, wide_zero.path⟩
  unfold WM.taken
  generalize (WM.headT (xs, 0)).2 = s
  generalize (WM.headT (xs, 0)).1 = m at h0
  unfold WM.partT
  split
  · unfold WM.askT
    simp only
    split
    · exact ⟨h0.kind, h0.frm, h0.dst, tnum_in _, tnum_in _, tnum_in _, tnum_in _, tnum_in _, tnum_in _, h0.id, h0.code, h0.origin, h0.number, h0.stamp, ttext_in _⟩
    · split
      · exact ⟨h0.kind, h0.frm, h0.dst, tnum_in _, tnum_in _, tnum_in _, tnum_in _, h0.mode, tnum_in _, tnum_in _, h0.code, h0.origin, h0.number, h0.stamp, h0.path⟩
      · split
        · exact ⟨h0.kind, h0.frm, h0.dst, tnum_in _, tnum_in _, tnum_in _, tnum_in _, h0.mode, h0.term, tnum_in _, h0.code, h0.origin, h0.number, h0.stamp, h0.path⟩
        · exact ⟨h0.kind, h0.frm, h0.dst, tnum_in _, tnum_in _, tnum_in _, tnum_in _, h0.mode, h0.term, h0.id, h0.code, h0.origin, h0.number, h0.stamp, h0.path⟩
  · split
    · unfold WM.replyT
      simp only
      split
      · exact ⟨h0.kind, h0.frm, h0.dst, tnum_in _, tnum_in _, h0.low, h0.verb, h0.mode, tnum_in _, tnum_in _, tnum_in _, h0.origin, h0.number, tnums_in _ _, h0.path⟩
      · exact ⟨h0.kind, h0.frm, h0.dst, tnum_in _, tnum_in _, h0.low, h0.verb, h0.mode, h0.term, h0.id, tnum_in _, h0.origin, h0.number, h0.stamp, h0.path⟩
    · split
      · exact ⟨h0.kind, h0.frm, h0.dst, h0.boot, h0.seq, h0.low, h0.verb, h0.mode, h0.term, tnum_in _, h0.code, tnum_in _, tnum_in _, h0.stamp, ttext_in _⟩
      · split
        · exact ⟨h0.kind, h0.frm, h0.dst, h0.boot, h0.seq, h0.low, h0.verb, h0.mode, h0.term, tnum_in _, h0.code, tnum_in _, tnum_in _, h0.stamp, h0.path⟩
        · split
          · exact ⟨h0.kind, h0.frm, h0.dst, h0.boot, h0.seq, h0.low, h0.verb, tnum_in _, h0.term, h0.id, h0.code, h0.origin, h0.number, tnums_in _ _, ttext_in _⟩
          · exact h0
end Go.Proofs.Ytboflkadabagfaa
