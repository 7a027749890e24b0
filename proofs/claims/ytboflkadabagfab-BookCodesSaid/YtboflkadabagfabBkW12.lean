/- Whether two books are one, and whether a book may be: the package's calls and the document's. -/
import Derived.Test.YtboflkadabagfabBkW2
import Derived.Test.YtboflkadabagfabBkSm1
namespace Go.Proofs.Ytboflkadabagfab
open Go.RowKit
open BM (Gr Rc Bk g0 r0 b0)
set_option linter.unusedVariables false
set_option linter.unusedSimpArgs false
set_option maxRecDepth 100000
def fnV (f : Nat) : Value := .func (.func f) #[] #[]
theorem GrAt.open_ {w : World} {b o : Nat} {g : Gr} (h : GrAt w b o g) : ∃ A c, (w.cell? ⟨b, o, none⟩ = some (.int .i64 g.id) ∧ w.cell? ⟨b, o + 1, none⟩ = some (.int .i64 g.holder) ∧ w.cell? ⟨b, o + 2, none⟩ = some (.string g.path) ∧ w.cell? ⟨b, o + 3, none⟩ = some (.int .i64 g.mode) ∧
    w.cell? ⟨b, o + 4, none⟩ = some (.slice A g.stamp.length c) ∧ w.cell? ⟨b, o + 5, none⟩ = some (.int .i64 g.term)) ∧ FitG w (.slice A g.stamp.length c) g := by
  obtain ⟨v, h0, h1, h2, h3, h4, h5, h6⟩ := h
  obtain ⟨A, c, rfl, hs⟩ := h6.hd
  exact ⟨A, c, ⟨h0, h1, h2, h3, h4, h5⟩, h6⟩
theorem take_same2 {α : Type} {a b : List α} {k : Nat} (h : a.take k = b.take k) (ha : k < a.length) (hb : k < b.length) (he : a[k] = b[k]) : a.take (k + 1) = b.take (k + 1) := take_same h ha hb he
set_option maxHeartbeats 4000000 in
theorem EqualFunc_any (u v : Value) (a b : List Gr) (w : World) (hA : HdG w u a) (hB : HdG w v b) :
    Calls Try.prog 36 #[u, v, fnV 37] w fun e w' => e = .returned (.bool (decide (a = b))) ∧ Below w.heap.size w w' := by
  obtain ⟨A, c, rfl, hA, ha, hc, hca⟩ := hA
  obtain ⟨B, d, rfl, hB, hb, hd, hcb⟩ := hB
  have HA := Lib.hid hA; clear hA
  have HB := Lib.hid hB; clear hB
  unfold fnV
  by_cases hlen : a.length = b.length
  · go_enter Try.func36, Try.ntmps36
    rw [← hlen]
    rw [← hlen] at hb hcb
    have HLEN := Lib.hid hlen
    clear hlen
    go_wp2_with fail
    go_loopw [7, 17] (fun _ i wx => ∃ k : Nat, i = .int .i64 (k : Int) ∧ k ≤ a.length ∧ Below w.heap.size w wx ∧ Hid (a.take k = b.take k)) (fun _ i _ => a.length - (intOf i).toNat)
    case atStart => exact ⟨0, rfl, by omega, Below.refl _ _, Lib.hid (by rw [List.take_zero, List.take_zero])⟩
    case round =>
      obtain ⟨k, rfl, hk, hW, HT⟩ := hrel
      have HW := Lib.hid hW; clear hW
      by_cases hlt : k < a.length
      · have hltb : k < b.length := by have := HLEN.out; omega
        obtain ⟨ba, oa, eA, hza, hca'⟩ := (HA.out.below HW.out) (by omega)
        obtain ⟨bb, ob, eB, hzb, hcb'⟩ := (HB.out.below HW.out) (by omega)
        subst eA
        subst eB
        obtain ⟨Ax, cx, ⟨a0, a1, a2, a3, a4, a5⟩, hfa⟩ := (hca' k a[k] (List.getElem?_eq_getElem hlt)).open_
        obtain ⟨Ay, cy, ⟨b0', b1, b2, b3, b4, b5⟩, hfb⟩ := (hcb' k b[k] (List.getElem?_eq_getElem hltb)).open_
        have HFA := Lib.hid hfa; clear hfa
        have HFB := Lib.hid hfb; clear hfb
        clear hca' hcb'
        have HS := Lib.hid (fun he => take_same HT.out hlt hltb he)
        have HN := Lib.hid (fun (he : a[k] ≠ b[k]) => take_not hlt hltb he)
        generalize a[k] = x at HFA a0 a1 a2 a3 a4 a5 HS HN
        generalize b[k] = y at HFB b0' b1 b2 b3 b4 b5 HS HN
        go_wp2_with fail
        refine (b_sameGrant (.slice Ax x.stamp.length cx) (.slice Ay y.stamp.length cy) x y _ (HFA.out.hd.below (((Below.refl _ _).alloc (Nat.le_refl _) _).alloc (by simp) _)) (HFB.out.hd.below (((Below.refl _ _).alloc (Nat.le_refl _) _).alloc (by simp) _))).mono ?_
        rintro e w5 ⟨rfl, hb5⟩
        have HX5 := Lib.hid (below_on ((HW.out.alloc HW.out.size _).alloc (by have := HW.out.size; simp; omega) _) hb5)
        clear hb5 a0 a1 a2 a3 a4 a5 b0' b1 b2 b3 b4 b5
        by_cases he : x = y
        · rw [decide_eq_true he]
          have HS2 := Lib.hid (HS.out he)
          clear he
          go_wp2_with fail
          go_roundw
          case rel => exact ⟨k + 1, rfl, by omega, HX5.out, HS2⟩
          case measure => simp only [intOf]; omega
        · rw [decide_eq_false he]
          have HN2 := Lib.hid (HN.out he)
          clear he
          go_wp2_with fail
          try rw [Exit.noGoto_ret]
          go_ret
          exact ⟨ret_bool (decide_eq_false HN2.out).symm, HX5.out⟩
      · have HE := Lib.hid (show a = b by have h1 := HT.out; have h2 := HLEN.out; rwa [List.take_of_length_le (by omega), List.take_of_length_le (by omega)] at h1)
        go_wp2_with fail
        go_ret
        exact ⟨ret_bool (decide_eq_true HE.out).symm, HW.out⟩
  · go_enter Try.func36, Try.ntmps36
    go_wp2_with fail
    go_ret
    exact ⟨ret_bool (decide_eq_false (fun e => hlen (by rw [e]))).symm, Below.refl _ _⟩
/-- Two books. -/
theorem same_bk {a b : Bk} (e0 : a.next = b.next) (e1 : a.boots = b.boots) (e2 : a.longest = b.longest) (e3 : a.gs = b.gs) : a = b := by
  cases a; cases b; simp only at e0 e1 e2 e3; subst e0 e1 e2 e3; rfl
set_option maxHeartbeats 4000000 in
theorem b_Same (u v : Value) (a b : Bk) (w : World) (hA : FitB w u a) (hB : FitB w v b) :
    Calls Try.prog 15 #[.agg (four a u), .agg (four b v)] w fun e w' => e = .returned (.bool (decide (a = b))) ∧ Below w.heap.size w w' := by
  have HX := Lib.hid (((Below.refl _ w).alloc (Nat.le_refl _) (.cells (four a u) 45)).alloc (by simp) (.cells (four b v) 45))
  have HA := Lib.hid (hA.below HX.out)
  have HB := Lib.hid (hB.below HX.out)
  have HKA := (Whole.new w 45 (four a u)).alloc (.cells (four b v) 45)
  have HKB := (show Whole ((w.alloc (.cells (four a u) 45)).alloc (.cells (four b v) 45)) (w.heap.size + 1) 45 (four b v) from by have h := Whole.new (w.alloc (.cells (four a u) 45)) 45 (four b v); have e : (w.alloc (.cells (four a u) 45)).heap.size = w.heap.size + 1 := (by simp); rw [e] at h; exact h)
  have a0 : ((w.alloc (.cells (four a u) 45)).alloc (.cells (four b v) 45)).cell? ⟨w.heap.size, 0, none⟩ = some (.int .i64 a.next) := HKA.cell 0
  have a1 : ((w.alloc (.cells (four a u) 45)).alloc (.cells (four b v) 45)).cell? ⟨w.heap.size, 1, none⟩ = some (.int .i64 a.boots) := HKA.cell 1
  have a2 : ((w.alloc (.cells (four a u) 45)).alloc (.cells (four b v) 45)).cell? ⟨w.heap.size, 2, none⟩ = some (.int .i64 a.longest) := HKA.cell 2
  have a3 : ((w.alloc (.cells (four a u) 45)).alloc (.cells (four b v) 45)).cell? ⟨w.heap.size, 3, none⟩ = some u := HKA.cell 3
  have b0 : ((w.alloc (.cells (four a u) 45)).alloc (.cells (four b v) 45)).cell? ⟨w.heap.size + 1, 0, none⟩ = some (.int .i64 b.next) := HKB.cell 0
  have b1 : ((w.alloc (.cells (four a u) 45)).alloc (.cells (four b v) 45)).cell? ⟨w.heap.size + 1, 1, none⟩ = some (.int .i64 b.boots) := HKB.cell 1
  have b2 : ((w.alloc (.cells (four a u) 45)).alloc (.cells (four b v) 45)).cell? ⟨w.heap.size + 1, 2, none⟩ = some (.int .i64 b.longest) := HKB.cell 2
  have b3 : ((w.alloc (.cells (four a u) 45)).alloc (.cells (four b v) 45)).cell? ⟨w.heap.size + 1, 3, none⟩ = some v := HKB.cell 3
  clear HKA HKB hA hB
  by_cases e0 : a.next = b.next
  rotate_left
  · have HN := Lib.hid (show ¬ a = b from fun e => e0 (by rw [e]))
    have d0 : (a.next == b.next) = false := by simpa using e0
    clear e0
    go_enter Try.func15, Try.ntmps15
    go_wp2_with fail
    go_ret
    exact bools (decide_eq_false HN.out).symm HX.out
  have E0 := Lib.hid e0
  rw [← e0] at b0
  clear e0
  by_cases e1 : a.boots = b.boots
  rotate_left
  · have HN := Lib.hid (show ¬ a = b from fun e => e1 (by rw [e]))
    have d1 : (a.boots == b.boots) = false := by simpa using e1
    clear e1
    go_enter Try.func15, Try.ntmps15
    go_wp2_with fail
    go_ret
    exact bools (decide_eq_false HN.out).symm HX.out
  have E1 := Lib.hid e1
  rw [← e1] at b1
  clear e1
  by_cases e2 : a.longest = b.longest
  rotate_left
  · have HN := Lib.hid (show ¬ a = b from fun e => e2 (by rw [e]))
    have d2 : (a.longest == b.longest) = false := by simpa using e2
    clear e2
    go_enter Try.func15, Try.ntmps15
    go_wp2_with fail
    go_ret
    exact bools (decide_eq_false HN.out).symm HX.out
  have E2 := Lib.hid e2
  rw [← e2] at b2
  clear e2
  go_enter Try.func15, Try.ntmps15
  go_wp2_with fail
  refine (EqualFunc_any u v a.gs b.gs _ HA.out.gs HB.out.gs).mono ?_
  rintro e w5 ⟨rfl, hb5⟩
  have HX5 := Lib.hid (below_on HX.out hb5)
  clear hb5 a0 a1 a2 a3 b0 b1 b2 b3
  have HE := Lib.hid (show decide (a.gs = b.gs) = decide (a = b) by
    rw [Bool.eq_iff_iff]
    simp only [decide_eq_true_eq]
    exact ⟨fun h => same_bk E0.out E1.out E2.out h, fun h => by rw [h]⟩)
  go_wp2_with fail
  go_ret
  exact bools HE.out HX5.out
end Go.Proofs.Ytboflkadabagfab
