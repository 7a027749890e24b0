/- Whether two messages are one: the ways on which the package's call of layer 6 says no (part 4). -/
import Derived.Test.YtbjemihcbbiiaaaWireW9
namespace Go.Proofs.Ytbjemihcbbiiaaa
open Go.RowKit
open WM (Msg)
set_option linter.unusedVariables false
set_option maxRecDepth 100000
set_option maxHeartbeats 8000000 in
theorem Same_no14 (A B : Option Addr) (c d : Nat) (a b : Msg) (w : World) (hA : IntsAt w A a.stamp) (hB : IntsAt w B b.stamp) (ha : a.stamp.length ≤ c) (hb : b.stamp.length ≤ d) (hc : c ≤ 9223372036854775807) (hd : d ≤ 9223372036854775807) (e0 : a.kind = b.kind) (e1 : a.frm = b.frm) (e2 : a.dst = b.dst) (e3 : a.boot = b.boot) (e4 : a.seq = b.seq) (e5 : a.low = b.low) (e6 : a.verb = b.verb) (e7 : a.path = b.path) (e8 : a.mode = b.mode) (e9 : a.term = b.term) (e10 : a.id = b.id) (e11 : a.fresh = b.fresh) (e12 : a.code = b.code) (e13 : a.stamp = b.stamp) (hne : a.origin ≠ b.origin) :
    Calls Try.prog 34 #[.agg (cellsM a (.slice A a.stamp.length c)), .agg (cellsM b (.slice B b.stamp.length d))] w fun e w' => e = .returned (.bool false) ∧ Below w.heap.size w w' := by
  have HX := Lib.hid (((Below.refl _ w).alloc (Nat.le_refl _) (.cells (cellsM a (.slice A a.stamp.length c)) 32)).alloc (by simp) (.cells (cellsM b (.slice B b.stamp.length d)) 32))
  have HE := Lib.hid (Equal_any A B c d a.stamp b.stamp _ (hA.below HX.out) (hB.below HX.out) ha hb hc hd)
  have HKA := (Whole.new w 32 (cellsM a (.slice A a.stamp.length c))).alloc (.cells (cellsM b (.slice B b.stamp.length d)) 32)
  have HKB := (show Whole ((w.alloc (.cells (cellsM a (.slice A a.stamp.length c)) 32)).alloc (.cells (cellsM b (.slice B b.stamp.length d)) 32)) (w.heap.size + 1) 32 (cellsM b (.slice B b.stamp.length d)) from by have h := Whole.new (w.alloc (.cells (cellsM a (.slice A a.stamp.length c)) 32)) 32 (cellsM b (.slice B b.stamp.length d)); have e : (w.alloc (.cells (cellsM a (.slice A a.stamp.length c)) 32)).heap.size = w.heap.size + 1 := (by simp); rw [e] at h; exact h)
  clear hA hB
  have ca0 : ((w.alloc (.cells (cellsM a (.slice A a.stamp.length c)) 32)).alloc (.cells (cellsM b (.slice B b.stamp.length d)) 32)).cell? ⟨w.heap.size, 0, none⟩ = some (.int .i64 a.kind) := HKA.cell 0
  have cb0 : ((w.alloc (.cells (cellsM a (.slice A a.stamp.length c)) 32)).alloc (.cells (cellsM b (.slice B b.stamp.length d)) 32)).cell? ⟨w.heap.size + 1, 0, none⟩ = some (.int .i64 a.kind) := by rw [e0]; exact HKB.cell 0
  have ca1 : ((w.alloc (.cells (cellsM a (.slice A a.stamp.length c)) 32)).alloc (.cells (cellsM b (.slice B b.stamp.length d)) 32)).cell? ⟨w.heap.size, 1, none⟩ = some (.int .i64 a.frm) := HKA.cell 1
  have cb1 : ((w.alloc (.cells (cellsM a (.slice A a.stamp.length c)) 32)).alloc (.cells (cellsM b (.slice B b.stamp.length d)) 32)).cell? ⟨w.heap.size + 1, 1, none⟩ = some (.int .i64 a.frm) := by rw [e1]; exact HKB.cell 1
  have ca2 : ((w.alloc (.cells (cellsM a (.slice A a.stamp.length c)) 32)).alloc (.cells (cellsM b (.slice B b.stamp.length d)) 32)).cell? ⟨w.heap.size, 2, none⟩ = some (.int .i64 a.dst) := HKA.cell 2
  have cb2 : ((w.alloc (.cells (cellsM a (.slice A a.stamp.length c)) 32)).alloc (.cells (cellsM b (.slice B b.stamp.length d)) 32)).cell? ⟨w.heap.size + 1, 2, none⟩ = some (.int .i64 a.dst) := by rw [e2]; exact HKB.cell 2
  have ca3 : ((w.alloc (.cells (cellsM a (.slice A a.stamp.length c)) 32)).alloc (.cells (cellsM b (.slice B b.stamp.length d)) 32)).cell? ⟨w.heap.size, 3, none⟩ = some (.int .i64 a.boot) := HKA.cell 3
  have cb3 : ((w.alloc (.cells (cellsM a (.slice A a.stamp.length c)) 32)).alloc (.cells (cellsM b (.slice B b.stamp.length d)) 32)).cell? ⟨w.heap.size + 1, 3, none⟩ = some (.int .i64 a.boot) := by rw [e3]; exact HKB.cell 3
  have ca4 : ((w.alloc (.cells (cellsM a (.slice A a.stamp.length c)) 32)).alloc (.cells (cellsM b (.slice B b.stamp.length d)) 32)).cell? ⟨w.heap.size, 4, none⟩ = some (.int .i64 a.seq) := HKA.cell 4
  have cb4 : ((w.alloc (.cells (cellsM a (.slice A a.stamp.length c)) 32)).alloc (.cells (cellsM b (.slice B b.stamp.length d)) 32)).cell? ⟨w.heap.size + 1, 4, none⟩ = some (.int .i64 a.seq) := by rw [e4]; exact HKB.cell 4
  have ca5 : ((w.alloc (.cells (cellsM a (.slice A a.stamp.length c)) 32)).alloc (.cells (cellsM b (.slice B b.stamp.length d)) 32)).cell? ⟨w.heap.size, 5, none⟩ = some (.int .i64 a.low) := HKA.cell 5
  have cb5 : ((w.alloc (.cells (cellsM a (.slice A a.stamp.length c)) 32)).alloc (.cells (cellsM b (.slice B b.stamp.length d)) 32)).cell? ⟨w.heap.size + 1, 5, none⟩ = some (.int .i64 a.low) := by rw [e5]; exact HKB.cell 5
  have ca6 : ((w.alloc (.cells (cellsM a (.slice A a.stamp.length c)) 32)).alloc (.cells (cellsM b (.slice B b.stamp.length d)) 32)).cell? ⟨w.heap.size, 6, none⟩ = some (.int .i64 a.verb) := HKA.cell 6
  have cb6 : ((w.alloc (.cells (cellsM a (.slice A a.stamp.length c)) 32)).alloc (.cells (cellsM b (.slice B b.stamp.length d)) 32)).cell? ⟨w.heap.size + 1, 6, none⟩ = some (.int .i64 a.verb) := by rw [e6]; exact HKB.cell 6
  have ca7 : ((w.alloc (.cells (cellsM a (.slice A a.stamp.length c)) 32)).alloc (.cells (cellsM b (.slice B b.stamp.length d)) 32)).cell? ⟨w.heap.size, 7, none⟩ = some (.string a.path) := HKA.cell 7
  have cb7 : ((w.alloc (.cells (cellsM a (.slice A a.stamp.length c)) 32)).alloc (.cells (cellsM b (.slice B b.stamp.length d)) 32)).cell? ⟨w.heap.size + 1, 7, none⟩ = some (.string a.path) := by rw [e7]; exact HKB.cell 7
  have ca8 : ((w.alloc (.cells (cellsM a (.slice A a.stamp.length c)) 32)).alloc (.cells (cellsM b (.slice B b.stamp.length d)) 32)).cell? ⟨w.heap.size, 8, none⟩ = some (.int .i64 a.mode) := HKA.cell 8
  have cb8 : ((w.alloc (.cells (cellsM a (.slice A a.stamp.length c)) 32)).alloc (.cells (cellsM b (.slice B b.stamp.length d)) 32)).cell? ⟨w.heap.size + 1, 8, none⟩ = some (.int .i64 a.mode) := by rw [e8]; exact HKB.cell 8
  have ca9 : ((w.alloc (.cells (cellsM a (.slice A a.stamp.length c)) 32)).alloc (.cells (cellsM b (.slice B b.stamp.length d)) 32)).cell? ⟨w.heap.size, 9, none⟩ = some (.int .i64 a.term) := HKA.cell 9
  have cb9 : ((w.alloc (.cells (cellsM a (.slice A a.stamp.length c)) 32)).alloc (.cells (cellsM b (.slice B b.stamp.length d)) 32)).cell? ⟨w.heap.size + 1, 9, none⟩ = some (.int .i64 a.term) := by rw [e9]; exact HKB.cell 9
  have ca10 : ((w.alloc (.cells (cellsM a (.slice A a.stamp.length c)) 32)).alloc (.cells (cellsM b (.slice B b.stamp.length d)) 32)).cell? ⟨w.heap.size, 10, none⟩ = some (.int .i64 a.id) := HKA.cell 10
  have cb10 : ((w.alloc (.cells (cellsM a (.slice A a.stamp.length c)) 32)).alloc (.cells (cellsM b (.slice B b.stamp.length d)) 32)).cell? ⟨w.heap.size + 1, 10, none⟩ = some (.int .i64 a.id) := by rw [e10]; exact HKB.cell 10
  have ca11 : ((w.alloc (.cells (cellsM a (.slice A a.stamp.length c)) 32)).alloc (.cells (cellsM b (.slice B b.stamp.length d)) 32)).cell? ⟨w.heap.size, 11, none⟩ = some (.bool a.fresh) := HKA.cell 11
  have cb11 : ((w.alloc (.cells (cellsM a (.slice A a.stamp.length c)) 32)).alloc (.cells (cellsM b (.slice B b.stamp.length d)) 32)).cell? ⟨w.heap.size + 1, 11, none⟩ = some (.bool a.fresh) := by rw [e11]; exact HKB.cell 11
  have ca12 : ((w.alloc (.cells (cellsM a (.slice A a.stamp.length c)) 32)).alloc (.cells (cellsM b (.slice B b.stamp.length d)) 32)).cell? ⟨w.heap.size, 12, none⟩ = some (.int .i64 a.code) := HKA.cell 12
  have cb12 : ((w.alloc (.cells (cellsM a (.slice A a.stamp.length c)) 32)).alloc (.cells (cellsM b (.slice B b.stamp.length d)) 32)).cell? ⟨w.heap.size + 1, 12, none⟩ = some (.int .i64 a.code) := by rw [e12]; exact HKB.cell 12
  have ca13 : ((w.alloc (.cells (cellsM a (.slice A a.stamp.length c)) 32)).alloc (.cells (cellsM b (.slice B b.stamp.length d)) 32)).cell? ⟨w.heap.size, 13, none⟩ = some (.slice A a.stamp.length c) := HKA.cell 13
  have cb13 : ((w.alloc (.cells (cellsM a (.slice A a.stamp.length c)) 32)).alloc (.cells (cellsM b (.slice B b.stamp.length d)) 32)).cell? ⟨w.heap.size + 1, 13, none⟩ = some (.slice B b.stamp.length d) := HKB.cell 13
  have ca14 : ((w.alloc (.cells (cellsM a (.slice A a.stamp.length c)) 32)).alloc (.cells (cellsM b (.slice B b.stamp.length d)) 32)).cell? ⟨w.heap.size, 14, none⟩ = some (.int .i64 a.origin) := HKA.cell 14
  have cb14 : ((w.alloc (.cells (cellsM a (.slice A a.stamp.length c)) 32)).alloc (.cells (cellsM b (.slice B b.stamp.length d)) 32)).cell? ⟨w.heap.size + 1, 14, none⟩ = some (.int .i64 b.origin) := HKB.cell 14
  clear HKA HKB
  have hd1 : (a.origin == b.origin) = false := by simpa using hne
  have HD := Lib.hid (show decide (a.stamp = b.stamp) = true from decide_eq_true e13)
  clear hne e0 e1 e2 e3 e4 e5 e6 e7 e8 e9 e10 e11 e12 e13
  go_enter Try.func34, Try.ntmps34
  go_wp2_with fail
  refine HE.out.mono ?_
  rw [HD.out]
  rintro x w9 ⟨rfl, hb9⟩
  have ea14 := (hb9.cell (p := ⟨w.heap.size, 14, none⟩) (by simp; try omega)).trans ca14
  have eb14 := (hb9.cell (p := ⟨w.heap.size + 1, 14, none⟩) (by simp; try omega)).trans cb14
  replace HX := Lib.hid (below_on HX.out hb9)
  clear hb9
  go_wp2_with fail
  go_ret
  exact ⟨rfl, HX.out⟩
set_option maxHeartbeats 8000000 in
theorem Same_no15 (A B : Option Addr) (c d : Nat) (a b : Msg) (w : World) (hA : IntsAt w A a.stamp) (hB : IntsAt w B b.stamp) (ha : a.stamp.length ≤ c) (hb : b.stamp.length ≤ d) (hc : c ≤ 9223372036854775807) (hd : d ≤ 9223372036854775807) (e0 : a.kind = b.kind) (e1 : a.frm = b.frm) (e2 : a.dst = b.dst) (e3 : a.boot = b.boot) (e4 : a.seq = b.seq) (e5 : a.low = b.low) (e6 : a.verb = b.verb) (e7 : a.path = b.path) (e8 : a.mode = b.mode) (e9 : a.term = b.term) (e10 : a.id = b.id) (e11 : a.fresh = b.fresh) (e12 : a.code = b.code) (e13 : a.stamp = b.stamp) (e14 : a.origin = b.origin) (hne : a.number ≠ b.number) :
    Calls Try.prog 34 #[.agg (cellsM a (.slice A a.stamp.length c)), .agg (cellsM b (.slice B b.stamp.length d))] w fun e w' => e = .returned (.bool false) ∧ Below w.heap.size w w' := by
  have HX := Lib.hid (((Below.refl _ w).alloc (Nat.le_refl _) (.cells (cellsM a (.slice A a.stamp.length c)) 32)).alloc (by simp) (.cells (cellsM b (.slice B b.stamp.length d)) 32))
  have HE := Lib.hid (Equal_any A B c d a.stamp b.stamp _ (hA.below HX.out) (hB.below HX.out) ha hb hc hd)
  have HKA := (Whole.new w 32 (cellsM a (.slice A a.stamp.length c))).alloc (.cells (cellsM b (.slice B b.stamp.length d)) 32)
  have HKB := (show Whole ((w.alloc (.cells (cellsM a (.slice A a.stamp.length c)) 32)).alloc (.cells (cellsM b (.slice B b.stamp.length d)) 32)) (w.heap.size + 1) 32 (cellsM b (.slice B b.stamp.length d)) from by have h := Whole.new (w.alloc (.cells (cellsM a (.slice A a.stamp.length c)) 32)) 32 (cellsM b (.slice B b.stamp.length d)); have e : (w.alloc (.cells (cellsM a (.slice A a.stamp.length c)) 32)).heap.size = w.heap.size + 1 := (by simp); rw [e] at h; exact h)
  clear hA hB
  have ca0 : ((w.alloc (.cells (cellsM a (.slice A a.stamp.length c)) 32)).alloc (.cells (cellsM b (.slice B b.stamp.length d)) 32)).cell? ⟨w.heap.size, 0, none⟩ = some (.int .i64 a.kind) := HKA.cell 0
  have cb0 : ((w.alloc (.cells (cellsM a (.slice A a.stamp.length c)) 32)).alloc (.cells (cellsM b (.slice B b.stamp.length d)) 32)).cell? ⟨w.heap.size + 1, 0, none⟩ = some (.int .i64 a.kind) := by rw [e0]; exact HKB.cell 0
  have ca1 : ((w.alloc (.cells (cellsM a (.slice A a.stamp.length c)) 32)).alloc (.cells (cellsM b (.slice B b.stamp.length d)) 32)).cell? ⟨w.heap.size, 1, none⟩ = some (.int .i64 a.frm) := HKA.cell 1
  have cb1 : ((w.alloc (.cells (cellsM a (.slice A a.stamp.length c)) 32)).alloc (.cells (cellsM b (.slice B b.stamp.length d)) 32)).cell? ⟨w.heap.size + 1, 1, none⟩ = some (.int .i64 a.frm) := by rw [e1]; exact HKB.cell 1
  have ca2 : ((w.alloc (.cells (cellsM a (.slice A a.stamp.length c)) 32)).alloc (.cells (cellsM b (.slice B b.stamp.length d)) 32)).cell? ⟨w.heap.size, 2, none⟩ = some (.int .i64 a.dst) := HKA.cell 2
  have cb2 : ((w.alloc (.cells (cellsM a (.slice A a.stamp.length c)) 32)).alloc (.cells (cellsM b (.slice B b.stamp.length d)) 32)).cell? ⟨w.heap.size + 1, 2, none⟩ = some (.int .i64 a.dst) := by rw [e2]; exact HKB.cell 2
  have ca3 : ((w.alloc (.cells (cellsM a (.slice A a.stamp.length c)) 32)).alloc (.cells (cellsM b (.slice B b.stamp.length d)) 32)).cell? ⟨w.heap.size, 3, none⟩ = some (.int .i64 a.boot) := HKA.cell 3
  have cb3 : ((w.alloc (.cells (cellsM a (.slice A a.stamp.length c)) 32)).alloc (.cells (cellsM b (.slice B b.stamp.length d)) 32)).cell? ⟨w.heap.size + 1, 3, none⟩ = some (.int .i64 a.boot) := by rw [e3]; exact HKB.cell 3
  have ca4 : ((w.alloc (.cells (cellsM a (.slice A a.stamp.length c)) 32)).alloc (.cells (cellsM b (.slice B b.stamp.length d)) 32)).cell? ⟨w.heap.size, 4, none⟩ = some (.int .i64 a.seq) := HKA.cell 4
  have cb4 : ((w.alloc (.cells (cellsM a (.slice A a.stamp.length c)) 32)).alloc (.cells (cellsM b (.slice B b.stamp.length d)) 32)).cell? ⟨w.heap.size + 1, 4, none⟩ = some (.int .i64 a.seq) := by rw [e4]; exact HKB.cell 4
  have ca5 : ((w.alloc (.cells (cellsM a (.slice A a.stamp.length c)) 32)).alloc (.cells (cellsM b (.slice B b.stamp.length d)) 32)).cell? ⟨w.heap.size, 5, none⟩ = some (.int .i64 a.low) := HKA.cell 5
  have cb5 : ((w.alloc (.cells (cellsM a (.slice A a.stamp.length c)) 32)).alloc (.cells (cellsM b (.slice B b.stamp.length d)) 32)).cell? ⟨w.heap.size + 1, 5, none⟩ = some (.int .i64 a.low) := by rw [e5]; exact HKB.cell 5
  have ca6 : ((w.alloc (.cells (cellsM a (.slice A a.stamp.length c)) 32)).alloc (.cells (cellsM b (.slice B b.stamp.length d)) 32)).cell? ⟨w.heap.size, 6, none⟩ = some (.int .i64 a.verb) := HKA.cell 6
  have cb6 : ((w.alloc (.cells (cellsM a (.slice A a.stamp.length c)) 32)).alloc (.cells (cellsM b (.slice B b.stamp.length d)) 32)).cell? ⟨w.heap.size + 1, 6, none⟩ = some (.int .i64 a.verb) := by rw [e6]; exact HKB.cell 6
  have ca7 : ((w.alloc (.cells (cellsM a (.slice A a.stamp.length c)) 32)).alloc (.cells (cellsM b (.slice B b.stamp.length d)) 32)).cell? ⟨w.heap.size, 7, none⟩ = some (.string a.path) := HKA.cell 7
  have cb7 : ((w.alloc (.cells (cellsM a (.slice A a.stamp.length c)) 32)).alloc (.cells (cellsM b (.slice B b.stamp.length d)) 32)).cell? ⟨w.heap.size + 1, 7, none⟩ = some (.string a.path) := by rw [e7]; exact HKB.cell 7
  have ca8 : ((w.alloc (.cells (cellsM a (.slice A a.stamp.length c)) 32)).alloc (.cells (cellsM b (.slice B b.stamp.length d)) 32)).cell? ⟨w.heap.size, 8, none⟩ = some (.int .i64 a.mode) := HKA.cell 8
  have cb8 : ((w.alloc (.cells (cellsM a (.slice A a.stamp.length c)) 32)).alloc (.cells (cellsM b (.slice B b.stamp.length d)) 32)).cell? ⟨w.heap.size + 1, 8, none⟩ = some (.int .i64 a.mode) := by rw [e8]; exact HKB.cell 8
  have ca9 : ((w.alloc (.cells (cellsM a (.slice A a.stamp.length c)) 32)).alloc (.cells (cellsM b (.slice B b.stamp.length d)) 32)).cell? ⟨w.heap.size, 9, none⟩ = some (.int .i64 a.term) := HKA.cell 9
  have cb9 : ((w.alloc (.cells (cellsM a (.slice A a.stamp.length c)) 32)).alloc (.cells (cellsM b (.slice B b.stamp.length d)) 32)).cell? ⟨w.heap.size + 1, 9, none⟩ = some (.int .i64 a.term) := by rw [e9]; exact HKB.cell 9
  have ca10 : ((w.alloc (.cells (cellsM a (.slice A a.stamp.length c)) 32)).alloc (.cells (cellsM b (.slice B b.stamp.length d)) 32)).cell? ⟨w.heap.size, 10, none⟩ = some (.int .i64 a.id) := HKA.cell 10
  have cb10 : ((w.alloc (.cells (cellsM a (.slice A a.stamp.length c)) 32)).alloc (.cells (cellsM b (.slice B b.stamp.length d)) 32)).cell? ⟨w.heap.size + 1, 10, none⟩ = some (.int .i64 a.id) := by rw [e10]; exact HKB.cell 10
  have ca11 : ((w.alloc (.cells (cellsM a (.slice A a.stamp.length c)) 32)).alloc (.cells (cellsM b (.slice B b.stamp.length d)) 32)).cell? ⟨w.heap.size, 11, none⟩ = some (.bool a.fresh) := HKA.cell 11
  have cb11 : ((w.alloc (.cells (cellsM a (.slice A a.stamp.length c)) 32)).alloc (.cells (cellsM b (.slice B b.stamp.length d)) 32)).cell? ⟨w.heap.size + 1, 11, none⟩ = some (.bool a.fresh) := by rw [e11]; exact HKB.cell 11
  have ca12 : ((w.alloc (.cells (cellsM a (.slice A a.stamp.length c)) 32)).alloc (.cells (cellsM b (.slice B b.stamp.length d)) 32)).cell? ⟨w.heap.size, 12, none⟩ = some (.int .i64 a.code) := HKA.cell 12
  have cb12 : ((w.alloc (.cells (cellsM a (.slice A a.stamp.length c)) 32)).alloc (.cells (cellsM b (.slice B b.stamp.length d)) 32)).cell? ⟨w.heap.size + 1, 12, none⟩ = some (.int .i64 a.code) := by rw [e12]; exact HKB.cell 12
  have ca13 : ((w.alloc (.cells (cellsM a (.slice A a.stamp.length c)) 32)).alloc (.cells (cellsM b (.slice B b.stamp.length d)) 32)).cell? ⟨w.heap.size, 13, none⟩ = some (.slice A a.stamp.length c) := HKA.cell 13
  have cb13 : ((w.alloc (.cells (cellsM a (.slice A a.stamp.length c)) 32)).alloc (.cells (cellsM b (.slice B b.stamp.length d)) 32)).cell? ⟨w.heap.size + 1, 13, none⟩ = some (.slice B b.stamp.length d) := HKB.cell 13
  have ca14 : ((w.alloc (.cells (cellsM a (.slice A a.stamp.length c)) 32)).alloc (.cells (cellsM b (.slice B b.stamp.length d)) 32)).cell? ⟨w.heap.size, 14, none⟩ = some (.int .i64 a.origin) := HKA.cell 14
  have cb14 : ((w.alloc (.cells (cellsM a (.slice A a.stamp.length c)) 32)).alloc (.cells (cellsM b (.slice B b.stamp.length d)) 32)).cell? ⟨w.heap.size + 1, 14, none⟩ = some (.int .i64 a.origin) := by rw [e14]; exact HKB.cell 14
  have ca15 : ((w.alloc (.cells (cellsM a (.slice A a.stamp.length c)) 32)).alloc (.cells (cellsM b (.slice B b.stamp.length d)) 32)).cell? ⟨w.heap.size, 15, none⟩ = some (.int .i64 a.number) := HKA.cell 15
  have cb15 : ((w.alloc (.cells (cellsM a (.slice A a.stamp.length c)) 32)).alloc (.cells (cellsM b (.slice B b.stamp.length d)) 32)).cell? ⟨w.heap.size + 1, 15, none⟩ = some (.int .i64 b.number) := HKB.cell 15
  clear HKA HKB
  have hd1 : (a.number == b.number) = false := by simpa using hne
  have HD := Lib.hid (show decide (a.stamp = b.stamp) = true from decide_eq_true e13)
  clear hne e0 e1 e2 e3 e4 e5 e6 e7 e8 e9 e10 e11 e12 e13 e14
  go_enter Try.func34, Try.ntmps34
  go_wp2_with fail
  refine HE.out.mono ?_
  rw [HD.out]
  rintro x w9 ⟨rfl, hb9⟩
  have ea14 := (hb9.cell (p := ⟨w.heap.size, 14, none⟩) (by simp; try omega)).trans ca14
  have eb14 := (hb9.cell (p := ⟨w.heap.size + 1, 14, none⟩) (by simp; try omega)).trans cb14
  have ea15 := (hb9.cell (p := ⟨w.heap.size, 15, none⟩) (by simp; try omega)).trans ca15
  have eb15 := (hb9.cell (p := ⟨w.heap.size + 1, 15, none⟩) (by simp; try omega)).trans cb15
  replace HX := Lib.hid (below_on HX.out hb9)
  clear hb9
  go_wp2_with fail
  go_ret
  exact ⟨rfl, HX.out⟩
end Go.Proofs.Ytbjemihcbbiiaaa
