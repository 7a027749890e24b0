/- What is taken up out of bytes may be handed on. -/
import Derived.Test.YtboflkadabagfabBkMem
import Derived.Test.YtboflkadabagfabOctetsW3
namespace Go.Proofs.Ytboflkadabagfab
open Go.RowKit
open BM (Gr Rc Bk g0 r0 b0)
set_option linter.unusedVariables false
theorem rnum_in (l : List UInt8) (e : Nat) : (OM.rnum l e).1 ≤ 9223372036854775807 := by
  by_cases he : e = 0
  · subst he
    by_cases h : (OM.rnum l 0).2.2 = 0
    · obtain ⟨a, r, x, hx⟩ : ∃ a r x, OM.rnum l 0 = (a, r, x) := ⟨_, _, _, rfl⟩
      rw [hx] at h ⊢
      subst h
      exact (OM.rnum_one hx).1
    · rw [(OM.rnum_stay h).2]; omega
  · have h : (OM.rnum l e).2.2 ≠ 0 := by
      rcases OM.rnum_err l e with h | h
      · rw [h]; exact he
      · exact absurd h.1 he
    rw [(OM.rnum_stay h).2]; omega
theorem tnum_in (s : WM.St) : In64 (WM.tnum s).1 := by
  have := rnum_in s.1 s.2
  unfold In64 WM.tnum
  simp only
  omega
theorem rtext_in (l : List UInt8) (e : Nat) : (OM.rtext l e 188).1.length ≤ 188 := by
  unfold OM.rtext
  split
  · simp
  · split
    · simp
    · split
      · simp
      · split
        · simp
        · rename_i h _
          simp only [List.length_take]
          omega
theorem ttext_in (s : WM.St) : (BM.ttext s).1.size ≤ 140737488351232 := by
  have := rtext_in s.1 s.2
  have e : (BM.ttext s).1.size = (OM.rtext s.1 s.2 188).1.length := by
    unfold BM.ttext
    simp [ByteArray.size]
  omega
theorem tnums_in : ∀ (k : Nat) (s : WM.St), ∀ x ∈ (WM.tnums k s).1, In64 x
  | 0, s => by intro x hx; simp [WM.tnums] at hx
  | k + 1, s => by
    intro x hx
    rw [WM.tnums] at hx
    simp only [List.mem_cons] at hx
    rcases hx with rfl | hx
    · exact tnum_in s
    · exact tnums_in k _ x hx
theorem in0 : In64 0 := by unfold In64; omega
theorem tstamp_in (most : Nat) (s : WM.St) : ∀ x ∈ (WM.tstamp most s).1, In64 x := tnums_in _ _
theorem tstamp_len (most : Nat) (s : WM.St) : (WM.tstamp most s).1.length ≤ most := by
  unfold WM.tstamp
  rw [WM.tnums_len]
  omega
theorem gw0 : GW g0 := ⟨in0, in0, in0, in0, by show ((⟨#[]⟩ : ByteArray)).size ≤ _; simp [ByteArray.size]⟩
theorem gw_taken (most : Nat) (s : WM.St) : GW (BM.grantT most s).1 := ⟨tnum_in _, tnum_in _, tnum_in _, tnum_in _, ttext_in _⟩
/-- All that is said of a record's numbers. -/
structure RW (r : Rc) : Prop where
  g : GW r.g
  gs : (∀ x ∈ r.g.stamp, In64 x) ∧ r.g.stamp.length ≤ 8
  st : (∀ x ∈ r.stamp, In64 x) ∧ r.stamp.length ≤ 8
  kind : In64 r.kind
  id : In64 r.id
  next : In64 r.next
  boots : In64 r.boots
  longest : In64 r.longest
theorem in_lit (k : Int) (h : 0 ≤ k ∧ k ≤ 8) : In64 k := by unfold In64; omega
section
attribute [local irreducible] WM.tnum WM.tstamp BM.ttext
theorem rw_part (most : Nat) (hm : most ≤ 8) (k : Int) (hk : In64 k) (s : WM.St) : RW (BM.partT most k s) := by
  have z : (∀ x ∈ ([] : List Int), In64 x) ∧ ([] : List Int).length ≤ 8 := ⟨by simp, by simp⟩
  have t : ∀ s, (∀ x ∈ (WM.tstamp most s).1, In64 x) ∧ (WM.tstamp most s).1.length ≤ 8 := fun s => ⟨tstamp_in most s, Nat.le_trans (tstamp_len most s) hm⟩
  unfold BM.partT
  split
  · exact ⟨gw0, z, z, hk, in0, tnum_in s, tnum_in (WM.tnum s).2, in0⟩
  · split
    · exact ⟨gw0, z, z, hk, in0, in0, in0, tnum_in s⟩
    · split
      · exact ⟨gw_taken most s, t (WM.tnum (WM.tnum (BM.ttext (WM.tnum (WM.tnum s).2).2).2).2).2, z, hk, in0, in0, in0, in0⟩
      · split
        · exact ⟨gw_taken most s, t (WM.tnum (WM.tnum (BM.ttext (WM.tnum (WM.tnum s).2).2).2).2).2, z, hk, in0, in0, in0, in0⟩
        · split
          · exact ⟨gw0, z, t (WM.tnum s).2, hk, tnum_in s, in0, in0, in0⟩
          · split
            · exact ⟨gw0, z, z, hk, tnum_in s, in0, in0, in0⟩
            · exact ⟨gw0, z, z, hk, in0, in0, in0, in0⟩
end
theorem rw_taken (most : Nat) (hm : most ≤ 8) (b : List UInt8) : RW (BM.taken most b) := rw_part most hm _ (tnum_in _) _
/-- A list of the call's own as a header that may be handed on. -/
theorem hd_own {w : World} {base : Nat} {v : Value} {l : List Int} (h : w.ownsRow base 3 1 v l.length (i64s l)) (hl : (∀ x ∈ l, In64 x) ∧ l.length ≤ 8) : HdI w v l := by
  obtain ⟨A, c, rfl, h1, h2⟩ := own_shape h
  exact ⟨A, c, rfl, IntsAt.own h, h1, h2, by have := hl.2; omega, hl.1⟩
theorem fit_own {w : World} {base : Nat} {v u : Value} {r : Rc} (hr : RW r) (h1 : w.ownsRow base 3 1 v r.g.stamp.length (i64s r.g.stamp)) (h2 : w.ownsRow base 3 1 u r.stamp.length (i64s r.stamp)) : FitR w v u r :=
  ⟨⟨hd_own h1 hr.gs, hr.g⟩, hd_own h2 hr.st, hr.kind, hr.id, hr.next, hr.boots, hr.longest⟩
theorem bytes_own {w : World} {base : Nat} {A : Option Addr} {n c : Nat} {xs : List UInt8} (h : w.ownsRow base 5 1 (.slice A n c) n (Oct.u8s xs)) : Oct.BytesAt w A xs := Oct.BytesAt.own h
end Go.Proofs.Ytboflkadabagfab
