/- Does a record go with a book? The package's calls. -/
import Derived.Test.YtdegamlnkleddaaBkW15
import Derived.Test.YtdegamlnkleddaaBkW13
namespace Go.Proofs.Ytdegamlnkleddaa
open Go.RowKit
open BM (Gr Rc Bk g0 r0 b0)
set_option linter.unusedVariables false
set_option linter.unusedSimpArgs false
set_option maxRecDepth 100000
theorem b_New (w : World) : Calls Try.prog 20 #[] w fun e w' => e = .returned (.agg (four BM.new (.slice none 0 0))) ∧ Below w.heap.size w w' := by
  have HX := Lib.hid ((Below.refl _ w).alloc (Nat.le_refl _) (.cells (four BM.new (.slice none 0 0)) 25))
  go_enter Try.func20, Try.ntmps20
  go_wp2_with fail
  refine bodyPost_ret (v := .agg (four BM.new (.slice none 0 0))) (by simp [results, Try.results20, go_sem, four, BM.new]) rfl ?_
  exact ⟨rfl, HX.out⟩
theorem fitB_new (w : World) : FitB w (.slice none 0 0) BM.new := ⟨HdG.nil, by unfold In64; decide, by unfold In64; decide, by unfold In64; decide⟩
set_option maxHeartbeats 2000000 in
theorem b_isSpent (v : Value) (b : Bk) (k : Int) (w : World) :
    Calls Try.prog 65 #[.agg (four b v), .int .i64 k] w fun e w' => e = .returned (.bool (BM.spent b k)) ∧ Below w.heap.size w w' := by
  have HX := Lib.hid ((Below.refl _ w).alloc (Nat.le_refl _) (.cells (four b v) 25))
  have HK := Whole.new w 25 (four b v)
  have c0 : (w.alloc (.cells (four b v) 25)).cell? ⟨w.heap.size, 0, none⟩ = some (.int .i64 b.next) := HK.cell 0
  have c1 : (w.alloc (.cells (four b v) 25)).cell? ⟨w.heap.size, 1, none⟩ = some (.int .i64 b.boots) := HK.cell 1
  clear HK
  by_cases h4 : k = 4
  · subst h4
    have HE := Lib.hid (show BM.spent b 4 = decide (1099511627776 < b.next) from rfl)
    go_enter Try.func65, Try.ntmps65
    go_wp2_with fail
    go_ret
    exact bools (by first | (rw [HE.out]; done) | (rw [HE.out, Bool.eq_iff_iff]; simp)) HX.out
  by_cases h5 : k = 5
  · subst h5
    have HE := Lib.hid (show BM.spent b 5 = decide (1099511627776 < b.next) from rfl)
    go_enter Try.func65, Try.ntmps65
    go_wp2_with fail
    go_ret
    exact bools (by first | (rw [HE.out]; done) | (rw [HE.out, Bool.eq_iff_iff]; simp)) HX.out
  by_cases h7 : k = 7
  · subst h7
    have HE := Lib.hid (show BM.spent b 7 = decide (b.boots = 1099511627776) from rfl)
    go_enter Try.func65, Try.ntmps65
    go_wp2_with fail
    go_ret
    exact bools (by first | (rw [HE.out]; done) | (rw [HE.out, Bool.eq_iff_iff]; simp)) HX.out
  have d4 : (k == 4) = false := by simpa using h4
  have d5 : (k == 5) = false := by simpa using h5
  have d7 : (k == 7) = false := by simpa using h7
  have HE := Lib.hid (show BM.spent b k = false by unfold BM.spent; rw [if_neg h4, if_neg h5, if_neg h7])
  clear h4 h5 h7
  go_enter Try.func65, Try.ntmps65
  go_wp2_with fail
  go_ret
  exact bools HE.out.symm HX.out
set_option maxHeartbeats 2000000 in
theorem b_isFull (v : Value) (b : Bk) (k : Int) (w : World) (h : HdG w v b.gs) :
    Calls Try.prog 66 #[.agg (four b v), .int .i64 k] w fun e w' => e = .returned (.bool (BM.full b k)) ∧ Below w.heap.size w w' := by
  obtain ⟨A, c, rfl, _⟩ := h
  have HX := Lib.hid ((Below.refl _ w).alloc (Nat.le_refl _) (.cells (four b (.slice A b.gs.length c)) 25))
  have c3 : (w.alloc (.cells (four b (.slice A b.gs.length c)) 25)).cell? ⟨w.heap.size, 3, none⟩ = some (.slice A b.gs.length c) := (Whole.new w 25 (four b (.slice A b.gs.length c))).cell 3
  have hn : (((b.gs.length : Nat) : Int) == 6) = decide (b.gs.length = 6) := by rw [Bool.eq_iff_iff]; simp; omega
  have HN := Lib.hid hn
  clear hn
  by_cases h3 : k = 3
  · subst h3
    have HE := Lib.hid (show BM.full b 3 = decide (b.gs.length = 6) from by simp [BM.full])
    go_enter Try.func66, Try.ntmps66
    go_wp2_with fail
    go_ret
    exact bools (by first | (rw [HE.out, ← HN.out]; done) | (rw [HE.out, ← HN.out]; rfl)) HX.out
  by_cases h4 : k = 4
  · subst h4
    have HE := Lib.hid (show BM.full b 4 = decide (b.gs.length = 6) from by simp [BM.full])
    go_enter Try.func66, Try.ntmps66
    go_wp2_with fail
    go_ret
    exact bools (by first | (rw [HE.out, ← HN.out]; done) | (rw [HE.out, ← HN.out]; rfl)) HX.out
  have d3 : (k == 3) = false := by simpa using h3
  have d4 : (k == 4) = false := by simpa using h4
  have HE := Lib.hid (show BM.full b k = false by unfold BM.full; simp [h3, h4])
  clear h3 h4
  go_enter Try.func66, Try.ntmps66
  go_wp2_with fail
  go_ret
  exact bools HE.out.symm HX.out
end Go.Proofs.Ytdegamlnkleddaa
