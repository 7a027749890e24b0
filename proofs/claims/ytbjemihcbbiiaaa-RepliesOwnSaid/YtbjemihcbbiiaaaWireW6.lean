/- Whether a message's fields may be so: the package's own questions of layer 6. -/
import Derived.Test.YtbjemihcbbiiaaaWireF
import Derived.Test.YtbjemihcbbiiaaaWireA
import Derived.Test.YtbjemihcbbiiaaaPaths
namespace Go.Proofs.Ytbjemihcbbiiaaa
open Go.RowKit
open WM (Msg)
set_option linter.unusedVariables false
set_option maxRecDepth 100000
theorem w_isNode (n : Int) (w : World) : Calls Try.prog 61 #[.int .i64 n] w fun e w' => e = .returned (.bool (WM.node n)) ∧ w = w' := by
  have HE := Lib.hid (show WM.node n = (decide (0 ≤ n) && decide (n < 8)) from rfl)
  go_enter Try.func61, Try.ntmps61
  go_wp2_with fail
  all_goals
    go_ret
    exact ⟨ret_bool (by rw [HE.out]; simp; try omega), rfl⟩
theorem w_isGate (n : Int) (w : World) : Calls Try.prog 62 #[.int .i64 n] w fun e w' => e = .returned (.bool (WM.gate n)) ∧ w = w' := by
  have HE := Lib.hid (show WM.gate n = (decide (8 ≤ n) && decide (n < 12)) from rfl)
  go_enter Try.func62, Try.ntmps62
  go_wp2_with fail
  all_goals
    go_ret
    exact ⟨ret_bool (by rw [HE.out]; simp; try omega), rfl⟩
theorem w_isCounter (n : Int) (w : World) : Calls Try.prog 75 #[.int .i64 n] w fun e w' => e = .returned (.bool (SM.count n)) ∧ w = w' := by
  have HE := Lib.hid (show SM.count n = (decide (1 ≤ n) && decide (n ≤ 1099511627776)) from rfl)
  go_enter Try.func75, Try.ntmps75
  go_wp2_with fail
  all_goals
    go_ret
    exact ⟨ret_bool (by rw [HE.out]; simp; try omega), rfl⟩
theorem w_isMode (n : Int) (w : World) : Calls Try.prog 81 #[.int .i64 n] w fun e w' => e = .returned (.bool (WM.okMode n)) ∧ w = w' := by
  have HE := Lib.hid (show WM.okMode n = (decide (n = 1) || decide (n = 2)) from rfl)
  by_cases h1 : n = 1
  · subst h1
    go_enter Try.func81, Try.ntmps81
    go_wp2_with fail
    go_ret
    exact ⟨rfl, rfl⟩
  · have d1 : (n == 1) = false := by simpa using h1
    have HF := Lib.hid (show WM.okMode n = (n == 2) by rw [HE.out, decide_eq_false h1, Bool.false_or, Bool.eq_iff_iff]; simp)
    clear h1
    go_enter Try.func81, Try.ntmps81
    go_wp2_with fail
    go_ret
    exact ⟨ret_bool HF.out.symm, rfl⟩
set_option maxHeartbeats 2000000 in
theorem w_mayDone (A : Option Addr) (c : Nat) (m : Msg) (w : World) (hw : Wide m) (hA : IntsAt w A m.stamp) (hl : m.stamp.length ≤ c) (hc : c ≤ 9223372036854775807) :
    Calls Try.prog 57 #[.agg (cellsM m (.slice A m.stamp.length c))] w fun e w' => e = .returned (.bool (WM.mayDone m)) ∧ Below w.heap.size w w' := by
  have HW := Lib.hid hw; clear hw
  have HI := Lib.hid (fun w' (h : Below w.heap.size w w') => hA.below h)
  have HX := Lib.hid ((Below.refl _ w).alloc (Nat.le_refl _) (.cells (cellsM m (.slice A m.stamp.length c)) 32))
  clear hA
  have c10 : (w.alloc (.cells (cellsM m (.slice A m.stamp.length c)) 32)).cell? ⟨w.heap.size, 10, none⟩ = some (.int .i64 m.id) := (Whole.new w 32 (cellsM m (.slice A m.stamp.length c))).cell 10
  have c14 : (w.alloc (.cells (cellsM m (.slice A m.stamp.length c)) 32)).cell? ⟨w.heap.size, 14, none⟩ = some (.int .i64 m.origin) := (Whole.new w 32 (cellsM m (.slice A m.stamp.length c))).cell 14
  have c15 : (w.alloc (.cells (cellsM m (.slice A m.stamp.length c)) 32)).cell? ⟨w.heap.size, 15, none⟩ = some (.int .i64 m.number) := (Whole.new w 32 (cellsM m (.slice A m.stamp.length c))).cell 15
  go_enter Try.func57, Try.ntmps57
  go_wp2_with (first
    | (go_at_call 75; refine (w_isCounter _ _).mono ?_; rintro x w9 ⟨rfl, rfl⟩)
    | (go_at_call 61; refine (w_isNode _ _).mono ?_; rintro x w9 ⟨rfl, rfl⟩))
  all_goals
    go_ret
    (try clear c10 c14 c15)
    exact ⟨ret_bool (by unfold WM.mayDone; simp [*]), HX.out⟩
set_option maxHeartbeats 2000000 in
theorem w_mayWant (A : Option Addr) (c : Nat) (m : Msg) (w : World) (hw : Wide m) (hA : IntsAt w A m.stamp) (hl : m.stamp.length ≤ c) (hc : c ≤ 9223372036854775807) :
    Calls Try.prog 76 #[.agg (cellsM m (.slice A m.stamp.length c))] w fun e w' => e = .returned (.bool (WM.want m)) ∧ Below w.heap.size w w' := by
  have HW := Lib.hid hw; clear hw
  have HI := Lib.hid (fun w' (h : Below w.heap.size w w') => hA.below h)
  have HX := Lib.hid ((Below.refl _ w).alloc (Nat.le_refl _) (.cells (cellsM m (.slice A m.stamp.length c)) 32))
  clear hA
  have c6 : (w.alloc (.cells (cellsM m (.slice A m.stamp.length c)) 32)).cell? ⟨w.heap.size, 6, none⟩ = some (.int .i64 m.verb) := (Whole.new w 32 (cellsM m (.slice A m.stamp.length c))).cell 6
  have c7 : (w.alloc (.cells (cellsM m (.slice A m.stamp.length c)) 32)).cell? ⟨w.heap.size, 7, none⟩ = some (.string m.path) := (Whole.new w 32 (cellsM m (.slice A m.stamp.length c))).cell 7
  have c8 : (w.alloc (.cells (cellsM m (.slice A m.stamp.length c)) 32)).cell? ⟨w.heap.size, 8, none⟩ = some (.int .i64 m.mode) := (Whole.new w 32 (cellsM m (.slice A m.stamp.length c))).cell 8
  have c9 : (w.alloc (.cells (cellsM m (.slice A m.stamp.length c)) 32)).cell? ⟨w.heap.size, 9, none⟩ = some (.int .i64 m.term) := (Whole.new w 32 (cellsM m (.slice A m.stamp.length c))).cell 9
  have c10 : (w.alloc (.cells (cellsM m (.slice A m.stamp.length c)) 32)).cell? ⟨w.heap.size, 10, none⟩ = some (.int .i64 m.id) := (Whole.new w 32 (cellsM m (.slice A m.stamp.length c))).cell 10
  go_enter Try.func76, Try.ntmps76
  go_wp2_with (first
    | (go_at_call 75; refine (w_isCounter _ _).mono ?_; rintro x w9 ⟨rfl, rfl⟩)
    | (go_at_call 81; refine (w_isMode _ _).mono ?_; rintro x w9 ⟨rfl, rfl⟩)
    | (go_at_call 80; refine (Valid_any _ _ (by have := HW.out.path; omega)).mono ?_; rintro x w9 ⟨rfl, rfl⟩)
    | (go_at_call 90; refine (Legal_any _ _ HW.out.term).mono ?_; rintro x w9 ⟨rfl, rfl⟩))
  all_goals
    go_ret
    (try clear c6 c7 c8 c9 c10)
    exact ⟨ret_bool (by unfold WM.want WM.p; first | (simp [*]; done) | (simp_all; done) | (simp_all; omega)), HX.out⟩
set_option maxHeartbeats 2000000 in
theorem w_mayAsk (A : Option Addr) (c : Nat) (m : Msg) (w : World) (hw : Wide m) (hA : IntsAt w A m.stamp) (hl : m.stamp.length ≤ c) (hc : c ≤ 9223372036854775807) :
    Calls Try.prog 48 #[.agg (cellsM m (.slice A m.stamp.length c))] w fun e w' => e = .returned (.bool (WM.mayAsk m)) ∧ Below w.heap.size w w' := by
  have HW := Lib.hid hw; clear hw
  have HI := Lib.hid (fun w' (h : Below w.heap.size w w') => hA.below h)
  have HX := Lib.hid ((Below.refl _ w).alloc (Nat.le_refl _) (.cells (cellsM m (.slice A m.stamp.length c)) 32))
  clear hA
  have c0 : (w.alloc (.cells (cellsM m (.slice A m.stamp.length c)) 32)).cell? ⟨w.heap.size, 0, none⟩ = some (.int .i64 m.kind) := (Whole.new w 32 (cellsM m (.slice A m.stamp.length c))).cell 0
  have c1 : (w.alloc (.cells (cellsM m (.slice A m.stamp.length c)) 32)).cell? ⟨w.heap.size, 1, none⟩ = some (.int .i64 m.frm) := (Whole.new w 32 (cellsM m (.slice A m.stamp.length c))).cell 1
  have c2 : (w.alloc (.cells (cellsM m (.slice A m.stamp.length c)) 32)).cell? ⟨w.heap.size, 2, none⟩ = some (.int .i64 m.dst) := (Whole.new w 32 (cellsM m (.slice A m.stamp.length c))).cell 2
  have c3 : (w.alloc (.cells (cellsM m (.slice A m.stamp.length c)) 32)).cell? ⟨w.heap.size, 3, none⟩ = some (.int .i64 m.boot) := (Whole.new w 32 (cellsM m (.slice A m.stamp.length c))).cell 3
  have c4 : (w.alloc (.cells (cellsM m (.slice A m.stamp.length c)) 32)).cell? ⟨w.heap.size, 4, none⟩ = some (.int .i64 m.seq) := (Whole.new w 32 (cellsM m (.slice A m.stamp.length c))).cell 4
  have c5 : (w.alloc (.cells (cellsM m (.slice A m.stamp.length c)) 32)).cell? ⟨w.heap.size, 5, none⟩ = some (.int .i64 m.low) := (Whole.new w 32 (cellsM m (.slice A m.stamp.length c))).cell 5
  have c6 : (w.alloc (.cells (cellsM m (.slice A m.stamp.length c)) 32)).cell? ⟨w.heap.size, 6, none⟩ = some (.int .i64 m.verb) := (Whole.new w 32 (cellsM m (.slice A m.stamp.length c))).cell 6
  have c7 : (w.alloc (.cells (cellsM m (.slice A m.stamp.length c)) 32)).cell? ⟨w.heap.size, 7, none⟩ = some (.string m.path) := (Whole.new w 32 (cellsM m (.slice A m.stamp.length c))).cell 7
  have c8 : (w.alloc (.cells (cellsM m (.slice A m.stamp.length c)) 32)).cell? ⟨w.heap.size, 8, none⟩ = some (.int .i64 m.mode) := (Whole.new w 32 (cellsM m (.slice A m.stamp.length c))).cell 8
  have c9 : (w.alloc (.cells (cellsM m (.slice A m.stamp.length c)) 32)).cell? ⟨w.heap.size, 9, none⟩ = some (.int .i64 m.term) := (Whole.new w 32 (cellsM m (.slice A m.stamp.length c))).cell 9
  have c10 : (w.alloc (.cells (cellsM m (.slice A m.stamp.length c)) 32)).cell? ⟨w.heap.size, 10, none⟩ = some (.int .i64 m.id) := (Whole.new w 32 (cellsM m (.slice A m.stamp.length c))).cell 10
  have c11 : (w.alloc (.cells (cellsM m (.slice A m.stamp.length c)) 32)).cell? ⟨w.heap.size, 11, none⟩ = some (.bool m.fresh) := (Whole.new w 32 (cellsM m (.slice A m.stamp.length c))).cell 11
  have c12 : (w.alloc (.cells (cellsM m (.slice A m.stamp.length c)) 32)).cell? ⟨w.heap.size, 12, none⟩ = some (.int .i64 m.code) := (Whole.new w 32 (cellsM m (.slice A m.stamp.length c))).cell 12
  have c13 : (w.alloc (.cells (cellsM m (.slice A m.stamp.length c)) 32)).cell? ⟨w.heap.size, 13, none⟩ = some (.slice A m.stamp.length c) := (Whole.new w 32 (cellsM m (.slice A m.stamp.length c))).cell 13
  have c14 : (w.alloc (.cells (cellsM m (.slice A m.stamp.length c)) 32)).cell? ⟨w.heap.size, 14, none⟩ = some (.int .i64 m.origin) := (Whole.new w 32 (cellsM m (.slice A m.stamp.length c))).cell 14
  have c15 : (w.alloc (.cells (cellsM m (.slice A m.stamp.length c)) 32)).cell? ⟨w.heap.size, 15, none⟩ = some (.int .i64 m.number) := (Whole.new w 32 (cellsM m (.slice A m.stamp.length c))).cell 15
  go_enter Try.func48, Try.ntmps48
  go_wp2_with (first
    | (go_at_call 75; refine (w_isCounter _ _).mono ?_; rintro x w9 ⟨rfl, rfl⟩)
    | (go_at_call 76; refine (w_mayWant A c m _ HW.out (HI.out _ HX.out) hl hc).mono ?_; rintro x w9 ⟨rfl, hb⟩; replace HX := Lib.hid (below_on HX.out hb); clear hb))
  all_goals
    go_ret
    (try clear c0 c1 c2 c3 c4 c5 c6 c7 c8 c9 c10 c11 c12 c13 c14 c15)
    exact ⟨ret_bool (by unfold WM.mayAsk; first | (simp [*]; done) | (simp_all; done) | (simp_all; omega)), HX.out⟩
theorem give_nil {m : Msg} (h : m.stamp = []) : WM.give m = decide (m.term = 0) := by unfold WM.give; rw [if_pos h]
theorem give_more {m : Msg} (h : ¬ m.stamp = []) : WM.give m = (TM.legal m.term && SM.valid m.stamp) := by unfold WM.give; rw [if_neg h]
set_option maxHeartbeats 2000000 in
theorem w_mayGive (A : Option Addr) (c : Nat) (m : Msg) (w : World) (hw : Wide m) (hA : IntsAt w A m.stamp) (hl : m.stamp.length ≤ c) (hc : c ≤ 9223372036854775807) :
    Calls Try.prog 79 #[.agg (cellsM m (.slice A m.stamp.length c))] w fun e w' => e = .returned (.bool (WM.give m)) ∧ Below w.heap.size w w' := by
  have HW := Lib.hid hw; clear hw
  have HI := Lib.hid (fun w' (h : Below w.heap.size w w') => hA.below h)
  have HX := Lib.hid ((Below.refl _ w).alloc (Nat.le_refl _) (.cells (cellsM m (.slice A m.stamp.length c)) 32))
  clear hA
  have c9 : (w.alloc (.cells (cellsM m (.slice A m.stamp.length c)) 32)).cell? ⟨w.heap.size, 9, none⟩ = some (.int .i64 m.term) := (Whole.new w 32 (cellsM m (.slice A m.stamp.length c))).cell 9
  have c13 : (w.alloc (.cells (cellsM m (.slice A m.stamp.length c)) 32)).cell? ⟨w.heap.size, 13, none⟩ = some (.slice A m.stamp.length c) := (Whole.new w 32 (cellsM m (.slice A m.stamp.length c))).cell 13
  by_cases h0 : m.stamp = []
  · have H0 := Lib.hid (give_nil h0)
    have d0 : (m.stamp.length == 0) = true := by rw [h0]; rfl
    clear h0
    go_enter Try.func79, Try.ntmps79
    go_wp2_with (first
      | (go_at_call 90; refine (Legal_any _ _ HW.out.term).mono ?_; rintro x w9 ⟨rfl, rfl⟩)
      | (go_at_call 82; refine (St.Valid_any A c m.stamp _ (HI.out _ HX.out) hl hc).mono ?_; rintro x w9 ⟨rfl, rfl⟩))
    all_goals
      go_ret
      (try clear c9 c13)
      exact ⟨ret_bool (by rw [H0.out]; first | (simp [*]; done) | (rw [Bool.eq_iff_iff]; simp; done) | (simp_all; done)), HX.out⟩
  · have H0 := Lib.hid (give_more h0)
    have d0 : (m.stamp.length == 0) = false := by cases h : m.stamp with | nil => exact absurd h h0 | cons x r => rfl
    clear h0
    go_enter Try.func79, Try.ntmps79
    go_wp2_with (first
      | (go_at_call 90; refine (Legal_any _ _ HW.out.term).mono ?_; rintro x w9 ⟨rfl, rfl⟩)
      | (go_at_call 82; refine (St.Valid_any A c m.stamp _ (HI.out _ HX.out) hl hc).mono ?_; rintro x w9 ⟨rfl, rfl⟩))
    all_goals
      go_ret
      (try clear c9 c13)
      exact ⟨ret_bool (by rw [H0.out]; first | (simp [*]; done) | (rw [Bool.eq_iff_iff]; simp; done) | (simp_all; done)), HX.out⟩
/-- The message with the code 0. -/
def code0 (m : Msg) : Msg := { m with code := 0 }
theorem code0_same {m : Msg} (h : m.code = 0) : code0 m = m := by cases m; simp only at h; subst h; rfl
theorem wide0 {m : Msg} (h : Wide m) : Wide (code0 m) := ⟨h.kind, h.frm, h.dst, h.boot, h.seq, h.low, h.verb, h.mode, h.term, h.id, by show In64 0; unfold In64; omega, h.origin, h.number, h.stamp, h.path⟩
theorem reply0 (m : Msg) : WM.mayReply (code0 m) = (SM.count m.boot && (SM.count m.seq && (SM.count m.id && WM.give (code0 m)))) := by unfold WM.mayReply code0; simp
theorem reply1 {m : Msg} (h : m.code ≠ 0) : WM.mayReply m = (SM.count m.boot && (SM.count m.seq && (decide (0 ≤ m.code) && decide (m.code ≤ 99)))) := by unfold WM.mayReply; simp [h]
theorem go5 {m : Msg} (h : m.kind = 5) : WM.mayGo m = (WM.node m.frm && WM.gate m.dst) := by unfold WM.mayGo; rw [if_pos h]
theorem go1 {m : Msg} (h : m.kind ≠ 5) : WM.mayGo m = (WM.node m.frm && (WM.node m.dst && (m.dst != m.frm))) := by
  unfold WM.mayGo
  rw [if_neg h]
  congr 2
  rw [Bool.eq_iff_iff]
  simp
set_option maxHeartbeats 2000000 in
theorem w_mayReply0 (A : Option Addr) (c : Nat) (m : Msg) (w : World) (hw : Wide m) (hA : IntsAt w A m.stamp) (hl : m.stamp.length ≤ c) (hc : c ≤ 9223372036854775807) :
    Calls Try.prog 51 #[.agg (cellsM (code0 m) (.slice A m.stamp.length c))] w fun e w' => e = .returned (.bool (WM.mayReply (code0 m))) ∧ Below w.heap.size w w' := by
  have HW := Lib.hid (wide0 hw); clear hw
  have HI := Lib.hid (fun w' (h : Below w.heap.size w w') => hA.below h)
  have HX := Lib.hid ((Below.refl _ w).alloc (Nat.le_refl _) (.cells (cellsM (code0 m) (.slice A m.stamp.length c)) 32))
  clear hA
  have c0 : (w.alloc (.cells (cellsM (code0 m) (.slice A m.stamp.length c)) 32)).cell? ⟨w.heap.size, 0, none⟩ = some (.int .i64 m.kind) := (Whole.new w 32 (cellsM (code0 m) (.slice A m.stamp.length c))).cell 0
  have c1 : (w.alloc (.cells (cellsM (code0 m) (.slice A m.stamp.length c)) 32)).cell? ⟨w.heap.size, 1, none⟩ = some (.int .i64 m.frm) := (Whole.new w 32 (cellsM (code0 m) (.slice A m.stamp.length c))).cell 1
  have c2 : (w.alloc (.cells (cellsM (code0 m) (.slice A m.stamp.length c)) 32)).cell? ⟨w.heap.size, 2, none⟩ = some (.int .i64 m.dst) := (Whole.new w 32 (cellsM (code0 m) (.slice A m.stamp.length c))).cell 2
  have c3 : (w.alloc (.cells (cellsM (code0 m) (.slice A m.stamp.length c)) 32)).cell? ⟨w.heap.size, 3, none⟩ = some (.int .i64 m.boot) := (Whole.new w 32 (cellsM (code0 m) (.slice A m.stamp.length c))).cell 3
  have c4 : (w.alloc (.cells (cellsM (code0 m) (.slice A m.stamp.length c)) 32)).cell? ⟨w.heap.size, 4, none⟩ = some (.int .i64 m.seq) := (Whole.new w 32 (cellsM (code0 m) (.slice A m.stamp.length c))).cell 4
  have c5 : (w.alloc (.cells (cellsM (code0 m) (.slice A m.stamp.length c)) 32)).cell? ⟨w.heap.size, 5, none⟩ = some (.int .i64 m.low) := (Whole.new w 32 (cellsM (code0 m) (.slice A m.stamp.length c))).cell 5
  have c6 : (w.alloc (.cells (cellsM (code0 m) (.slice A m.stamp.length c)) 32)).cell? ⟨w.heap.size, 6, none⟩ = some (.int .i64 m.verb) := (Whole.new w 32 (cellsM (code0 m) (.slice A m.stamp.length c))).cell 6
  have c7 : (w.alloc (.cells (cellsM (code0 m) (.slice A m.stamp.length c)) 32)).cell? ⟨w.heap.size, 7, none⟩ = some (.string m.path) := (Whole.new w 32 (cellsM (code0 m) (.slice A m.stamp.length c))).cell 7
  have c8 : (w.alloc (.cells (cellsM (code0 m) (.slice A m.stamp.length c)) 32)).cell? ⟨w.heap.size, 8, none⟩ = some (.int .i64 m.mode) := (Whole.new w 32 (cellsM (code0 m) (.slice A m.stamp.length c))).cell 8
  have c9 : (w.alloc (.cells (cellsM (code0 m) (.slice A m.stamp.length c)) 32)).cell? ⟨w.heap.size, 9, none⟩ = some (.int .i64 m.term) := (Whole.new w 32 (cellsM (code0 m) (.slice A m.stamp.length c))).cell 9
  have c10 : (w.alloc (.cells (cellsM (code0 m) (.slice A m.stamp.length c)) 32)).cell? ⟨w.heap.size, 10, none⟩ = some (.int .i64 m.id) := (Whole.new w 32 (cellsM (code0 m) (.slice A m.stamp.length c))).cell 10
  have c11 : (w.alloc (.cells (cellsM (code0 m) (.slice A m.stamp.length c)) 32)).cell? ⟨w.heap.size, 11, none⟩ = some (.bool m.fresh) := (Whole.new w 32 (cellsM (code0 m) (.slice A m.stamp.length c))).cell 11
  have c12 : (w.alloc (.cells (cellsM (code0 m) (.slice A m.stamp.length c)) 32)).cell? ⟨w.heap.size, 12, none⟩ = some (.int .i64 0) := (Whole.new w 32 (cellsM (code0 m) (.slice A m.stamp.length c))).cell 12
  have c13 : (w.alloc (.cells (cellsM (code0 m) (.slice A m.stamp.length c)) 32)).cell? ⟨w.heap.size, 13, none⟩ = some (.slice A m.stamp.length c) := (Whole.new w 32 (cellsM (code0 m) (.slice A m.stamp.length c))).cell 13
  have c14 : (w.alloc (.cells (cellsM (code0 m) (.slice A m.stamp.length c)) 32)).cell? ⟨w.heap.size, 14, none⟩ = some (.int .i64 m.origin) := (Whole.new w 32 (cellsM (code0 m) (.slice A m.stamp.length c))).cell 14
  have c15 : (w.alloc (.cells (cellsM (code0 m) (.slice A m.stamp.length c)) 32)).cell? ⟨w.heap.size, 15, none⟩ = some (.int .i64 m.number) := (Whole.new w 32 (cellsM (code0 m) (.slice A m.stamp.length c))).cell 15
  have H0 := Lib.hid (reply0 m)
  go_enter Try.func51, Try.ntmps51
  go_wp2_with (first
    | (go_at_call 75; refine (w_isCounter _ _).mono ?_; rintro x w9 ⟨rfl, rfl⟩)
    | (go_at_call 79; refine (w_mayGive A c (code0 m) _ HW.out (HI.out _ HX.out) hl hc).mono ?_; rintro x w9 ⟨rfl, hb⟩; replace HX := Lib.hid (below_on HX.out hb); clear hb))
  all_goals
    go_ret
    (try clear c0 c1 c2 c3 c4 c5 c6 c7 c8 c9 c10 c11 c12 c13 c14 c15)
    exact ⟨ret_bool (by rw [H0.out]; first | (simp [*]; done) | (simp_all; done)), HX.out⟩
set_option maxHeartbeats 2000000 in
theorem w_mayReply (A : Option Addr) (c : Nat) (m : Msg) (w : World) (hw : Wide m) (hA : IntsAt w A m.stamp) (hl : m.stamp.length ≤ c) (hc : c ≤ 9223372036854775807) :
    Calls Try.prog 51 #[.agg (cellsM m (.slice A m.stamp.length c))] w fun e w' => e = .returned (.bool (WM.mayReply m)) ∧ Below w.heap.size w w' := by
  by_cases h0 : m.code = 0
  · have h := w_mayReply0 A c m w hw hA hl hc
    rw [code0_same h0] at h
    exact h
  have H0 := Lib.hid (reply1 h0)
  have d0 : (m.code != 0) = true := by simpa using h0
  clear h0
  have HW := Lib.hid hw; clear hw
  have HI := Lib.hid (fun w' (h : Below w.heap.size w w') => hA.below h)
  have HX := Lib.hid ((Below.refl _ w).alloc (Nat.le_refl _) (.cells (cellsM m (.slice A m.stamp.length c)) 32))
  clear hA
  have c0 : (w.alloc (.cells (cellsM m (.slice A m.stamp.length c)) 32)).cell? ⟨w.heap.size, 0, none⟩ = some (.int .i64 m.kind) := (Whole.new w 32 (cellsM m (.slice A m.stamp.length c))).cell 0
  have c1 : (w.alloc (.cells (cellsM m (.slice A m.stamp.length c)) 32)).cell? ⟨w.heap.size, 1, none⟩ = some (.int .i64 m.frm) := (Whole.new w 32 (cellsM m (.slice A m.stamp.length c))).cell 1
  have c2 : (w.alloc (.cells (cellsM m (.slice A m.stamp.length c)) 32)).cell? ⟨w.heap.size, 2, none⟩ = some (.int .i64 m.dst) := (Whole.new w 32 (cellsM m (.slice A m.stamp.length c))).cell 2
  have c3 : (w.alloc (.cells (cellsM m (.slice A m.stamp.length c)) 32)).cell? ⟨w.heap.size, 3, none⟩ = some (.int .i64 m.boot) := (Whole.new w 32 (cellsM m (.slice A m.stamp.length c))).cell 3
  have c4 : (w.alloc (.cells (cellsM m (.slice A m.stamp.length c)) 32)).cell? ⟨w.heap.size, 4, none⟩ = some (.int .i64 m.seq) := (Whole.new w 32 (cellsM m (.slice A m.stamp.length c))).cell 4
  have c5 : (w.alloc (.cells (cellsM m (.slice A m.stamp.length c)) 32)).cell? ⟨w.heap.size, 5, none⟩ = some (.int .i64 m.low) := (Whole.new w 32 (cellsM m (.slice A m.stamp.length c))).cell 5
  have c6 : (w.alloc (.cells (cellsM m (.slice A m.stamp.length c)) 32)).cell? ⟨w.heap.size, 6, none⟩ = some (.int .i64 m.verb) := (Whole.new w 32 (cellsM m (.slice A m.stamp.length c))).cell 6
  have c7 : (w.alloc (.cells (cellsM m (.slice A m.stamp.length c)) 32)).cell? ⟨w.heap.size, 7, none⟩ = some (.string m.path) := (Whole.new w 32 (cellsM m (.slice A m.stamp.length c))).cell 7
  have c8 : (w.alloc (.cells (cellsM m (.slice A m.stamp.length c)) 32)).cell? ⟨w.heap.size, 8, none⟩ = some (.int .i64 m.mode) := (Whole.new w 32 (cellsM m (.slice A m.stamp.length c))).cell 8
  have c9 : (w.alloc (.cells (cellsM m (.slice A m.stamp.length c)) 32)).cell? ⟨w.heap.size, 9, none⟩ = some (.int .i64 m.term) := (Whole.new w 32 (cellsM m (.slice A m.stamp.length c))).cell 9
  have c10 : (w.alloc (.cells (cellsM m (.slice A m.stamp.length c)) 32)).cell? ⟨w.heap.size, 10, none⟩ = some (.int .i64 m.id) := (Whole.new w 32 (cellsM m (.slice A m.stamp.length c))).cell 10
  have c11 : (w.alloc (.cells (cellsM m (.slice A m.stamp.length c)) 32)).cell? ⟨w.heap.size, 11, none⟩ = some (.bool m.fresh) := (Whole.new w 32 (cellsM m (.slice A m.stamp.length c))).cell 11
  have c12 : (w.alloc (.cells (cellsM m (.slice A m.stamp.length c)) 32)).cell? ⟨w.heap.size, 12, none⟩ = some (.int .i64 m.code) := (Whole.new w 32 (cellsM m (.slice A m.stamp.length c))).cell 12
  have c13 : (w.alloc (.cells (cellsM m (.slice A m.stamp.length c)) 32)).cell? ⟨w.heap.size, 13, none⟩ = some (.slice A m.stamp.length c) := (Whole.new w 32 (cellsM m (.slice A m.stamp.length c))).cell 13
  have c14 : (w.alloc (.cells (cellsM m (.slice A m.stamp.length c)) 32)).cell? ⟨w.heap.size, 14, none⟩ = some (.int .i64 m.origin) := (Whole.new w 32 (cellsM m (.slice A m.stamp.length c))).cell 14
  have c15 : (w.alloc (.cells (cellsM m (.slice A m.stamp.length c)) 32)).cell? ⟨w.heap.size, 15, none⟩ = some (.int .i64 m.number) := (Whole.new w 32 (cellsM m (.slice A m.stamp.length c))).cell 15
  go_enter Try.func51, Try.ntmps51
  go_wp2_with (first
    | (go_at_call 75; refine (w_isCounter _ _).mono ?_; rintro x w9 ⟨rfl, rfl⟩))
  all_goals
    go_ret
    (try clear c0 c1 c2 c3 c4 c5 c6 c7 c8 c9 c10 c11 c12 c13 c14 c15)
    exact ⟨ret_bool (by rw [H0.out]; first | (simp [*]; done) | (simp; omega)), HX.out⟩
set_option maxHeartbeats 2000000 in
theorem w_mayRecall (A : Option Addr) (c : Nat) (m : Msg) (w : World) (hw : Wide m) (hA : IntsAt w A m.stamp) (hl : m.stamp.length ≤ c) (hc : c ≤ 9223372036854775807) :
    Calls Try.prog 54 #[.agg (cellsM m (.slice A m.stamp.length c))] w fun e w' => e = .returned (.bool (WM.mayRecall m)) ∧ Below w.heap.size w w' := by
  have HW := Lib.hid hw; clear hw
  have HI := Lib.hid (fun w' (h : Below w.heap.size w w') => hA.below h)
  have HX := Lib.hid ((Below.refl _ w).alloc (Nat.le_refl _) (.cells (cellsM m (.slice A m.stamp.length c)) 32))
  clear hA
  have c0 : (w.alloc (.cells (cellsM m (.slice A m.stamp.length c)) 32)).cell? ⟨w.heap.size, 0, none⟩ = some (.int .i64 m.kind) := (Whole.new w 32 (cellsM m (.slice A m.stamp.length c))).cell 0
  have c1 : (w.alloc (.cells (cellsM m (.slice A m.stamp.length c)) 32)).cell? ⟨w.heap.size, 1, none⟩ = some (.int .i64 m.frm) := (Whole.new w 32 (cellsM m (.slice A m.stamp.length c))).cell 1
  have c2 : (w.alloc (.cells (cellsM m (.slice A m.stamp.length c)) 32)).cell? ⟨w.heap.size, 2, none⟩ = some (.int .i64 m.dst) := (Whole.new w 32 (cellsM m (.slice A m.stamp.length c))).cell 2
  have c3 : (w.alloc (.cells (cellsM m (.slice A m.stamp.length c)) 32)).cell? ⟨w.heap.size, 3, none⟩ = some (.int .i64 m.boot) := (Whole.new w 32 (cellsM m (.slice A m.stamp.length c))).cell 3
  have c4 : (w.alloc (.cells (cellsM m (.slice A m.stamp.length c)) 32)).cell? ⟨w.heap.size, 4, none⟩ = some (.int .i64 m.seq) := (Whole.new w 32 (cellsM m (.slice A m.stamp.length c))).cell 4
  have c5 : (w.alloc (.cells (cellsM m (.slice A m.stamp.length c)) 32)).cell? ⟨w.heap.size, 5, none⟩ = some (.int .i64 m.low) := (Whole.new w 32 (cellsM m (.slice A m.stamp.length c))).cell 5
  have c6 : (w.alloc (.cells (cellsM m (.slice A m.stamp.length c)) 32)).cell? ⟨w.heap.size, 6, none⟩ = some (.int .i64 m.verb) := (Whole.new w 32 (cellsM m (.slice A m.stamp.length c))).cell 6
  have c7 : (w.alloc (.cells (cellsM m (.slice A m.stamp.length c)) 32)).cell? ⟨w.heap.size, 7, none⟩ = some (.string m.path) := (Whole.new w 32 (cellsM m (.slice A m.stamp.length c))).cell 7
  have c8 : (w.alloc (.cells (cellsM m (.slice A m.stamp.length c)) 32)).cell? ⟨w.heap.size, 8, none⟩ = some (.int .i64 m.mode) := (Whole.new w 32 (cellsM m (.slice A m.stamp.length c))).cell 8
  have c9 : (w.alloc (.cells (cellsM m (.slice A m.stamp.length c)) 32)).cell? ⟨w.heap.size, 9, none⟩ = some (.int .i64 m.term) := (Whole.new w 32 (cellsM m (.slice A m.stamp.length c))).cell 9
  have c10 : (w.alloc (.cells (cellsM m (.slice A m.stamp.length c)) 32)).cell? ⟨w.heap.size, 10, none⟩ = some (.int .i64 m.id) := (Whole.new w 32 (cellsM m (.slice A m.stamp.length c))).cell 10
  have c11 : (w.alloc (.cells (cellsM m (.slice A m.stamp.length c)) 32)).cell? ⟨w.heap.size, 11, none⟩ = some (.bool m.fresh) := (Whole.new w 32 (cellsM m (.slice A m.stamp.length c))).cell 11
  have c12 : (w.alloc (.cells (cellsM m (.slice A m.stamp.length c)) 32)).cell? ⟨w.heap.size, 12, none⟩ = some (.int .i64 m.code) := (Whole.new w 32 (cellsM m (.slice A m.stamp.length c))).cell 12
  have c13 : (w.alloc (.cells (cellsM m (.slice A m.stamp.length c)) 32)).cell? ⟨w.heap.size, 13, none⟩ = some (.slice A m.stamp.length c) := (Whole.new w 32 (cellsM m (.slice A m.stamp.length c))).cell 13
  have c14 : (w.alloc (.cells (cellsM m (.slice A m.stamp.length c)) 32)).cell? ⟨w.heap.size, 14, none⟩ = some (.int .i64 m.origin) := (Whole.new w 32 (cellsM m (.slice A m.stamp.length c))).cell 14
  have c15 : (w.alloc (.cells (cellsM m (.slice A m.stamp.length c)) 32)).cell? ⟨w.heap.size, 15, none⟩ = some (.int .i64 m.number) := (Whole.new w 32 (cellsM m (.slice A m.stamp.length c))).cell 15
  go_enter Try.func54, Try.ntmps54
  go_wp2_with (first
    | (go_at_call 57; refine (w_mayDone A c m _ HW.out (HI.out _ HX.out) hl hc).mono ?_; rintro x w9 ⟨rfl, hb⟩; have c27 : w9.cell? ⟨w.heap.size, 7, none⟩ = some (.string m.path) := (hb.cell (by simp)).trans c7; replace HX := Lib.hid (below_on HX.out hb); clear hb)
    | (go_at_call 80; refine (Valid_any _ _ (by have := HW.out.path; omega)).mono ?_; rintro x w9 ⟨rfl, rfl⟩))
  all_goals
    go_ret
    (try clear c0 c1 c2 c3 c4 c5 c6 c7 c8 c9 c10 c11 c12 c13 c14 c15)
    exact ⟨ret_bool (by unfold WM.mayRecall WM.p; first | (simp [*]; done) | (simp_all; done) | (simp_all; omega)), HX.out⟩
set_option maxHeartbeats 2000000 in
theorem w_mayOp (A : Option Addr) (c : Nat) (m : Msg) (w : World) (hw : Wide m) (hA : IntsAt w A m.stamp) (hl : m.stamp.length ≤ c) (hc : c ≤ 9223372036854775807) :
    Calls Try.prog 60 #[.agg (cellsM m (.slice A m.stamp.length c))] w fun e w' => e = .returned (.bool (WM.mayOp m)) ∧ Below w.heap.size w w' := by
  have HW := Lib.hid hw; clear hw
  have HI := Lib.hid (fun w' (h : Below w.heap.size w w') => hA.below h)
  have HX := Lib.hid ((Below.refl _ w).alloc (Nat.le_refl _) (.cells (cellsM m (.slice A m.stamp.length c)) 32))
  clear hA
  have c7 : (w.alloc (.cells (cellsM m (.slice A m.stamp.length c)) 32)).cell? ⟨w.heap.size, 7, none⟩ = some (.string m.path) := (Whole.new w 32 (cellsM m (.slice A m.stamp.length c))).cell 7
  have c8 : (w.alloc (.cells (cellsM m (.slice A m.stamp.length c)) 32)).cell? ⟨w.heap.size, 8, none⟩ = some (.int .i64 m.mode) := (Whole.new w 32 (cellsM m (.slice A m.stamp.length c))).cell 8
  have c13 : (w.alloc (.cells (cellsM m (.slice A m.stamp.length c)) 32)).cell? ⟨w.heap.size, 13, none⟩ = some (.slice A m.stamp.length c) := (Whole.new w 32 (cellsM m (.slice A m.stamp.length c))).cell 13
  go_enter Try.func60, Try.ntmps60
  go_wp2_with (first
    | (go_at_call 81; refine (w_isMode _ _).mono ?_; rintro x w9 ⟨rfl, rfl⟩)
    | (go_at_call 80; refine (Valid_any _ _ (by have := HW.out.path; omega)).mono ?_; rintro x w9 ⟨rfl, rfl⟩)
    | (go_at_call 82; refine (St.Valid_any A c m.stamp _ (HI.out _ HX.out) hl hc).mono ?_; rintro x w9 ⟨rfl, rfl⟩))
  all_goals
    go_ret
    (try clear c7 c8 c13)
    exact ⟨ret_bool (by unfold WM.mayOp WM.p; first | (simp [*]; done) | (simp_all; done) | (simp_all; omega)), HX.out⟩
set_option maxHeartbeats 2000000 in
theorem w_mayGo (A : Option Addr) (c : Nat) (m : Msg) (w : World) (hw : Wide m) (hA : IntsAt w A m.stamp) (hl : m.stamp.length ≤ c) (hc : c ≤ 9223372036854775807) :
    Calls Try.prog 33 #[.agg (cellsM m (.slice A m.stamp.length c))] w fun e w' => e = .returned (.bool (WM.mayGo m)) ∧ Below w.heap.size w w' := by
  have HW := Lib.hid hw; clear hw
  have HI := Lib.hid (fun w' (h : Below w.heap.size w w') => hA.below h)
  have HX := Lib.hid ((Below.refl _ w).alloc (Nat.le_refl _) (.cells (cellsM m (.slice A m.stamp.length c)) 32))
  clear hA
  have c0 : (w.alloc (.cells (cellsM m (.slice A m.stamp.length c)) 32)).cell? ⟨w.heap.size, 0, none⟩ = some (.int .i64 m.kind) := (Whole.new w 32 (cellsM m (.slice A m.stamp.length c))).cell 0
  have c1 : (w.alloc (.cells (cellsM m (.slice A m.stamp.length c)) 32)).cell? ⟨w.heap.size, 1, none⟩ = some (.int .i64 m.frm) := (Whole.new w 32 (cellsM m (.slice A m.stamp.length c))).cell 1
  have c2 : (w.alloc (.cells (cellsM m (.slice A m.stamp.length c)) 32)).cell? ⟨w.heap.size, 2, none⟩ = some (.int .i64 m.dst) := (Whole.new w 32 (cellsM m (.slice A m.stamp.length c))).cell 2
  by_cases h0 : m.kind = 5
  · have H0 := Lib.hid (go5 h0)
    have d0 : (m.kind == 5) = true := by simpa using h0
    clear h0
    go_enter Try.func33, Try.ntmps33
    go_wp2_with (first
      | (go_at_call 61; refine (w_isNode _ _).mono ?_; rintro x w9 ⟨rfl, rfl⟩)
      | (go_at_call 62; refine (w_isGate _ _).mono ?_; rintro x w9 ⟨rfl, rfl⟩))
    all_goals
      go_ret
      (try clear c0 c1 c2)
      exact ⟨ret_bool (by rw [H0.out]; first | (simp [*]; done) | (simp_all; done)), HX.out⟩
  · have H0 := Lib.hid (go1 h0)
    have d0 : (m.kind == 5) = false := by simpa using h0
    clear h0
    go_enter Try.func33, Try.ntmps33
    go_wp2_with (first
      | (go_at_call 61; refine (w_isNode _ _).mono ?_; rintro x w9 ⟨rfl, rfl⟩)
      | (go_at_call 62; refine (w_isGate _ _).mono ?_; rintro x w9 ⟨rfl, rfl⟩))
    all_goals
      go_ret
      (try clear c0 c1 c2)
      exact ⟨ret_bool (by rw [H0.out]; first | (simp [*]; done) | (simp_all; done)), HX.out⟩
end Go.Proofs.Ytbjemihcbbiiaaa
