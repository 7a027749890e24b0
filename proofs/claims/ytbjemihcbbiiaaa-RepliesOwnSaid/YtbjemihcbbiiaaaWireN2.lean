/- Whether two messages are one: the ways on which the package's call of layer 6 says no (part 2). -/
import Derived.Test.YtbjemihcbbiiaaaWireW9
namespace Go.Proofs.Ytbjemihcbbiiaaa
open Go.RowKit
open WM (Msg)
set_option linter.unusedVariables false
set_option maxRecDepth 100000
set_option maxHeartbeats 8000000 in
theorem Same_no7 (A B : Option Addr) (c d : Nat) (a b : Msg) (w : World) (hA : IntsAt w A a.stamp) (hB : IntsAt w B b.stamp) (ha : a.stamp.length ≤ c) (hb : b.stamp.length ≤ d) (hc : c ≤ 9223372036854775807) (hd : d ≤ 9223372036854775807) (e0 : a.kind = b.kind) (e1 : a.frm = b.frm) (e2 : a.dst = b.dst) (e3 : a.boot = b.boot) (e4 : a.seq = b.seq) (e5 : a.low = b.low) (e6 : a.verb = b.verb) (hne : a.path ≠ b.path) :
    Calls Try.prog 34 #[.agg (cellsM a (.slice A a.stamp.length c)), .agg (cellsM b (.slice B b.stamp.length d))] w fun e w' => e = .returned (.bool false) ∧ Below w.heap.size w w' := by
  have HX := Lib.hid (((Below.refl _ w).alloc (Nat.le_refl _) (.cells (cellsM a (.slice A a.stamp.length c)) 32)).alloc (by simp) (.cells (cellsM b (.slice B b.stamp.length d)) 32))
  have HE := Lib.hid (Equal_any A B c d a.stamp b.stamp _ (hA.below HX.out) (hB.below HX.out) ha hb hc hd)
  have HKA := (Whole.new w 32 (cellsM a (.slice A a.stamp.length c))).alloc (.cells (cellsM b (.slice B b.stamp.length d)) 32)
  have HKB := (show Whole ((w.alloc (.cells (cellsM a (.slice A a.stamp.length c)) 32)).alloc (.cells (cellsM b (.slice B b.stamp.length d)) 32)) (w.heap.size + 1) 32 (cellsM b (.slice B b.stamp.length d)) from by have h := Whole.new (w.alloc (.cells (cellsM a (.slice A a.stamp.length c)) 32)) 32 (cellsM b (.slice B b.stamp.length d)); have e : (w.alloc (.cells (cellsM a (.slice A a.stamp.length c)) 32)).heap.size = w.heap.size + 1 := (by simp); rw [e] at h; exact h)
  clear hA hB
  have ca0 : ((w.alloc (.cells (cellsM a (.slice A a.stamp.length c)) 32)).alloc (.cells (cellsM b (.slice B b.stamp.length d)) 32)).cell? ⟨w.heap.size, 0, none⟩ = some (.int .i64 a.kind) := HKA.cell 0
  have cb0 : ((w.alloc (.cells (cellsM a (.slice A a.stamp.length c)) 32)).alloc (.cells (cellsM b (.slice B b.stamp.length d)) 32)).cell? ⟨w.heap.size + 1, 0, none⟩ = some (.int .i64 a.kind) := by rw [e0]; exact HKB.cell 0
  have ca1 : ((w.alloc (.cells (cellsM a (.slice A a.stamp.length c)) 32)).alloc (.cells (cellsM b (.slice B b.stamp.length d)) 32)).cell? ⟨w.heap.size, 1, none⟩ = some (.int .i64 a.frm) := HKA.cell 1
  have cb1 : ((w.alloc (.cells (cellsM a (.slice A a.stamp.length c)) 32)).alloc (.cells (cellsM b (.slice B b.stamp.length d)) 32)).cell? ⟨w.heap.size + 1, 1, none⟩ = some (.int .i64 a.frm) := by rw [e1]; exact HKB.cell 1
  have ca2 : ((w.alloc (.cells (cellsM a (.slice A a.stamp.length c)) 32)).alloc (.cells (cellsM b (.slice B b.stamp.length d)) 32)).cell? ⟨w.heap.size, 2, none⟩ = some (.int .i64 a.dst) := HKA.cell 2
  have cb2 : ((w.alloc (.cells (cellsM a (.slice A a.stamp.length c)) 32)).alloc (.cells (cellsM b (.slice B b.stamp.length d)) 32)).cell? ⟨w.heap.size + 1, 2, none⟩ = some (.int .i64 a.dst) := by rw [e2]; exact HKB.cell 2
  have ca3 : ((w.alloc (.cells (cellsM a (.slice A a.stamp.length c)) 32)).alloc (.cells (cellsM b (.slice B b.stamp.length d)) 32)).cell? ⟨w.heap.size, 3, none⟩ = some (.int .i64 a.boot) := HKA.cell 3
  have cb3 : ((w.alloc (.cells (cellsM a (.slice A a.stamp.length c)) 32)).alloc (.cells (cellsM b (.slice B b.stamp.length d)) 32)).cell? ⟨w.heap.size + 1, 3, none⟩ = some (.int .i64 a.boot) := by rw [e3]; exact HKB.cell 3
  have ca4 : ((w.alloc (.cells (cellsM a (.slice A a.stamp.length c)) 32)).alloc (.cells (cellsM b (.slice B b.stamp.length d)) 32)).cell? ⟨w.heap.size, 4, none⟩ = some (.int .i64 a.seq) := HKA.cell 4
  have cb4 : ((w.alloc (.cells (cellsM a (.slice A a.stamp.length c)) 32)).alloc (.cells (cellsM b (.slice B b.stamp.length d)) 32)).cell? ⟨w.heap.size + 1, 4, none⟩ = some (.int .i64 a.seq) := by rw [e4]; exact HKB.cell 4
  have ca5 : ((w.alloc (.cells (cellsM a (.slice A a.stamp.length c)) 32)).alloc (.cells (cellsM b (.slice B b.stamp.length d)) 32)).cell? ⟨w.heap.size, 5, none⟩ = some (.int .i64 a.low) := HKA.cell 5
  have cb5 : ((w.alloc (.cells (cellsM a (.slice A a.stamp.length c)) 32)).alloc (.cells (cellsM b (.slice B b.stamp.length d)) 32)).cell? ⟨w.heap.size + 1, 5, none⟩ = some (.int .i64 a.low) := by rw [e5]; exact HKB.cell 5
  have ca6 : ((w.alloc (.cells (cellsM a (.slice A a.stamp.length c)) 32)).alloc (.cells (cellsM b (.slice B b.stamp.length d)) 32)).cell? ⟨w.heap.size, 6, none⟩ = some (.int .i64 a.verb) := HKA.cell 6
  have cb6 : ((w.alloc (.cells (cellsM a (.slice A a.stamp.length c)) 32)).alloc (.cells (cellsM b (.slice B b.stamp.length d)) 32)).cell? ⟨w.heap.size + 1, 6, none⟩ = some (.int .i64 a.verb) := by rw [e6]; exact HKB.cell 6
  have ca7 : ((w.alloc (.cells (cellsM a (.slice A a.stamp.length c)) 32)).alloc (.cells (cellsM b (.slice B b.stamp.length d)) 32)).cell? ⟨w.heap.size, 7, none⟩ = some (.string a.path) := HKA.cell 7
  have cb7 : ((w.alloc (.cells (cellsM a (.slice A a.stamp.length c)) 32)).alloc (.cells (cellsM b (.slice B b.stamp.length d)) 32)).cell? ⟨w.heap.size + 1, 7, none⟩ = some (.string b.path) := HKB.cell 7
  clear HKA HKB
  have hd1 : (a.path.toList == b.path.toList) = false := by rw [beq_eq_false_iff_ne]; intro e; apply hne; rw [Lib.toList_data, Lib.toList_data] at e; exact ByteArray.ext (by simpa using congrArg List.toArray e)
  clear hne e0 e1 e2 e3 e4 e5 e6
  go_enter Try.func34, Try.ntmps34
  go_wp2_with fail
  go_ret
  exact ⟨rfl, HX.out⟩
set_option maxHeartbeats 8000000 in
theorem Same_no8 (A B : Option Addr) (c d : Nat) (a b : Msg) (w : World) (hA : IntsAt w A a.stamp) (hB : IntsAt w B b.stamp) (ha : a.stamp.length ≤ c) (hb : b.stamp.length ≤ d) (hc : c ≤ 9223372036854775807) (hd : d ≤ 9223372036854775807) (e0 : a.kind = b.kind) (e1 : a.frm = b.frm) (e2 : a.dst = b.dst) (e3 : a.boot = b.boot) (e4 : a.seq = b.seq) (e5 : a.low = b.low) (e6 : a.verb = b.verb) (e7 : a.path = b.path) (hne : a.mode ≠ b.mode) :
    Calls Try.prog 34 #[.agg (cellsM a (.slice A a.stamp.length c)), .agg (cellsM b (.slice B b.stamp.length d))] w fun e w' => e = .returned (.bool false) ∧ Below w.heap.size w w' := by
  have HX := Lib.hid (((Below.refl _ w).alloc (Nat.le_refl _) (.cells (cellsM a (.slice A a.stamp.length c)) 32)).alloc (by simp) (.cells (cellsM b (.slice B b.stamp.length d)) 32))
  have HE := Lib.hid (Equal_any A B c d a.stamp b.stamp _ (hA.below HX.out) (hB.below HX.out) ha hb hc hd)
  have HKA := (Whole.new w 32 (cellsM a (.slice A a.stamp.length c))).alloc (.cells (cellsM b (.slice B b.stamp.length d)) 32)
  have HKB := (show Whole ((w.alloc (.cells (cellsM a (.slice A a.stamp.length c)) 32)).alloc (.cells (cellsM b (.slice B b.stamp.length d)) 32)) (w.heap.size + 1) 32 (cellsM b (.slice B b.stamp.length d)) from by have h := Whole.new (w.alloc (.cells (cellsM a (.slice A a.stamp.length c)) 32)) 32 (cellsM b (.slice B b.stamp.length d)); have e : (w.alloc (.cells (cellsM a (.slice A a.stamp.length c)) 32)).heap.size = w.heap.size + 1 := (by simp); rw [e] at h; exact h)
  clear hA hB
  have ca0 : ((w.alloc (.cells (cellsM a (.slice A a.stamp.length c)) 32)).alloc (.cells (cellsM b (.slice B b.stamp.length d)) 32)).cell? ⟨w.heap.size, 0, none⟩ = some (.int .i64 a.kind) := HKA.cell 0
  have cb0 : ((w.alloc (.cells (cellsM a (.slice A a.stamp.length c)) 32)).alloc (.cells (cellsM b (.slice B b.stamp.length d)) 32)).cell? ⟨w.heap.size + 1, 0, none⟩ = some (.int .i64 a.kind) := by rw [e0]; exact HKB.cell 0
  have ca1 : ((w.alloc (.cells (cellsM a (.slice A a.stamp.length c)) 32)).alloc (.cells (cellsM b (.slice B b.stamp.length d)) 32)).cell? ⟨w.heap.size, 1, none⟩ = some (.int .i64 a.frm) := HKA.cell 1
  have cb1 : ((w.alloc (.cells (cellsM a (.slice A a.stamp.length c)) 32)).alloc (.cells (cellsM b (.slice B b.stamp.length d)) 32)).cell? ⟨w.heap.size + 1, 1, none⟩ = some (.int .i64 a.frm) := by rw [e1]; exact HKB.cell 1
  have ca2 : ((w.alloc (.cells (cellsM a (.slice A a.stamp.length c)) 32)).alloc (.cells (cellsM b (.slice B b.stamp.length d)) 32)).cell? ⟨w.heap.size, 2, none⟩ = some (.int .i64 a.dst) := HKA.cell 2
  have cb2 : ((w.alloc (.cells (cellsM a (.slice A a.stamp.length c)) 32)).alloc (.cells (cellsM b (.slice B b.stamp.length d)) 32)).cell? ⟨w.heap.size + 1, 2, none⟩ = some (.int .i64 a.dst) := by rw [e2]; exact HKB.cell 2
  have ca3 : ((w.alloc (.cells (cellsM a (.slice A a.stamp.length c)) 32)).alloc (.cells (cellsM b (.slice B b.stamp.length d)) 32)).cell? ⟨w.heap.size, 3, none⟩ = some (.int .i64 a.boot) := HKA.cell 3
  have cb3 : ((w.alloc (.cells (cellsM a (.slice A a.stamp.length c)) 32)).alloc (.cells (cellsM b (.slice B b.stamp.length d)) 32)).cell? ⟨w.heap.size + 1, 3, none⟩ = some (.int .i64 a.boot) := by rw [e3]; exact HKB.cell 3
  have ca4 : ((w.alloc (.cells (cellsM a (.slice A a.stamp.length c)) 32)).alloc (.cells (cellsM b (.slice B b.stamp.length d)) 32)).cell? ⟨w.heap.size, 4, none⟩ = some (.int .i64 a.seq) := HKA.cell 4
  have cb4 : ((w.alloc (.cells (cellsM a (.slice A a.stamp.length c)) 32)).alloc (.cells (cellsM b (.slice B b.stamp.length d)) 32)).cell? ⟨w.heap.size + 1, 4, none⟩ = some (.int .i64 a.seq) := by rw [e4]; exact HKB.cell 4
  have ca5 : ((w.alloc (.cells (cellsM a (.slice A a.stamp.length c)) 32)).alloc (.cells (cellsM b (.slice B b.stamp.length d)) 32)).cell? ⟨w.heap.size, 5, none⟩ = some (.int .i64 a.low) := HKA.cell 5
  have cb5 : ((w.alloc (.cells (cellsM a (.slice A a.stamp.length c)) 32)).alloc (.cells (cellsM b (.slice B b.stamp.length d)) 32)).cell? ⟨w.heap.size + 1, 5, none⟩ = some (.int .i64 a.low) := by rw [e5]; exact HKB.cell 5
  have ca6 : ((w.alloc (.cells (cellsM a (.slice A a.stamp.length c)) 32)).alloc (.cells (cellsM b (.slice B b.stamp.length d)) 32)).cell? ⟨w.heap.size, 6, none⟩ = some (.int .i64 a.verb) := HKA.cell 6
  have cb6 : ((w.alloc (.cells (cellsM a (.slice A a.stamp.length c)) 32)).alloc (.cells (cellsM b (.slice B b.stamp.length d)) 32)).cell? ⟨w.heap.size + 1, 6, none⟩ = some (.int .i64 a.verb) := by rw [e6]; exact HKB.cell 6
  have ca7 : ((w.alloc (.cells (cellsM a (.slice A a.stamp.length c)) 32)).alloc (.cells (cellsM b (.slice B b.stamp.length d)) 32)).cell? ⟨w.heap.size, 7, none⟩ = some (.string a.path) := HKA.cell 7
  have cb7 : ((w.alloc (.cells (cellsM a (.slice A a.stamp.length c)) 32)).alloc (.cells (cellsM b (.slice B b.stamp.length d)) 32)).cell? ⟨w.heap.size + 1, 7, none⟩ = some (.string a.path) := by rw [e7]; exact HKB.cell 7
  have ca8 : ((w.alloc (.cells (cellsM a (.slice A a.stamp.length c)) 32)).alloc (.cells (cellsM b (.slice B b.stamp.length d)) 32)).cell? ⟨w.heap.size, 8, none⟩ = some (.int .i64 a.mode) := HKA.cell 8
  have cb8 : ((w.alloc (.cells (cellsM a (.slice A a.stamp.length c)) 32)).alloc (.cells (cellsM b (.slice B b.stamp.length d)) 32)).cell? ⟨w.heap.size + 1, 8, none⟩ = some (.int .i64 b.mode) := HKB.cell 8
  clear HKA HKB
  have hd1 : (a.mode == b.mode) = false := by simpa using hne
  clear hne e0 e1 e2 e3 e4 e5 e6 e7
  go_enter Try.func34, Try.ntmps34
  go_wp2_with fail
  go_ret
  exact ⟨rfl, HX.out⟩
set_option maxHeartbeats 8000000 in
theorem Same_no9 (A B : Option Addr) (c d : Nat) (a b : Msg) (w : World) (hA : IntsAt w A a.stamp) (hB : IntsAt w B b.stamp) (ha : a.stamp.length ≤ c) (hb : b.stamp.length ≤ d) (hc : c ≤ 9223372036854775807) (hd : d ≤ 9223372036854775807) (e0 : a.kind = b.kind) (e1 : a.frm = b.frm) (e2 : a.dst = b.dst) (e3 : a.boot = b.boot) (e4 : a.seq = b.seq) (e5 : a.low = b.low) (e6 : a.verb = b.verb) (e7 : a.path = b.path) (e8 : a.mode = b.mode) (hne : a.term ≠ b.term) :
    Calls Try.prog 34 #[.agg (cellsM a (.slice A a.stamp.length c)), .agg (cellsM b (.slice B b.stamp.length d))] w fun e w' => e = .returned (.bool false) ∧ Below w.heap.size w w' := by
  have HX := Lib.hid (((Below.refl _ w).alloc (Nat.le_refl _) (.cells (cellsM a (.slice A a.stamp.length c)) 32)).alloc (by simp) (.cells (cellsM b (.slice B b.stamp.length d)) 32))
  have HE := Lib.hid (Equal_any A B c d a.stamp b.stamp _ (hA.below HX.out) (hB.below HX.out) ha hb hc hd)
  have HKA := (Whole.new w 32 (cellsM a (.slice A a.stamp.length c))).alloc (.cells (cellsM b (.slice B b.stamp.length d)) 32)
  have HKB := (show Whole ((w.alloc (.cells (cellsM a (.slice A a.stamp.length c)) 32)).alloc (.cells (cellsM b (.slice B b.stamp.length d)) 32)) (w.heap.size + 1) 32 (cellsM b (.slice B b.stamp.length d)) from by have h := Whole.new (w.alloc (.cells (cellsM a (.slice A a.stamp.length c)) 32)) 32 (cellsM b (.slice B b.stamp.length d)); have e : (w.alloc (.cells (cellsM a (.slice A a.stamp.length c)) 32)).heap.size = w.heap.size + 1 := (by simp); rw [e] at h; exact h)
  clear hA hB
  have ca0 : ((w.alloc (.cells (cellsM a (.slice A a.stamp.length c)) 32)).alloc (.cells (cellsM b (.slice B b.stamp.length d)) 32)).cell? ⟨w.heap.size, 0, none⟩ = some (.int .i64 a.kind) := HKA.cell 0
  have cb0 : ((w.alloc (.cells (cellsM a (.slice A a.stamp.length c)) 32)).alloc (.cells (cellsM b (.slice B b.stamp.length d)) 32)).cell? ⟨w.heap.size + 1, 0, none⟩ = some (.int .i64 a.kind) := by rw [e0]; exact HKB.cell 0
  have ca1 : ((w.alloc (.cells (cellsM a (.slice A a.stamp.length c)) 32)).alloc (.cells (cellsM b (.slice B b.stamp.length d)) 32)).cell? ⟨w.heap.size, 1, none⟩ = some (.int .i64 a.frm) := HKA.cell 1
  have cb1 : ((w.alloc (.cells (cellsM a (.slice A a.stamp.length c)) 32)).alloc (.cells (cellsM b (.slice B b.stamp.length d)) 32)).cell? ⟨w.heap.size + 1, 1, none⟩ = some (.int .i64 a.frm) := by rw [e1]; exact HKB.cell 1
  have ca2 : ((w.alloc (.cells (cellsM a (.slice A a.stamp.length c)) 32)).alloc (.cells (cellsM b (.slice B b.stamp.length d)) 32)).cell? ⟨w.heap.size, 2, none⟩ = some (.int .i64 a.dst) := HKA.cell 2
  have cb2 : ((w.alloc (.cells (cellsM a (.slice A a.stamp.length c)) 32)).alloc (.cells (cellsM b (.slice B b.stamp.length d)) 32)).cell? ⟨w.heap.size + 1, 2, none⟩ = some (.int .i64 a.dst) := by rw [e2]; exact HKB.cell 2
  have ca3 : ((w.alloc (.cells (cellsM a (.slice A a.stamp.length c)) 32)).alloc (.cells (cellsM b (.slice B b.stamp.length d)) 32)).cell? ⟨w.heap.size, 3, none⟩ = some (.int .i64 a.boot) := HKA.cell 3
  have cb3 : ((w.alloc (.cells (cellsM a (.slice A a.stamp.length c)) 32)).alloc (.cells (cellsM b (.slice B b.stamp.length d)) 32)).cell? ⟨w.heap.size + 1, 3, none⟩ = some (.int .i64 a.boot) := by rw [e3]; exact HKB.cell 3
  have ca4 : ((w.alloc (.cells (cellsM a (.slice A a.stamp.length c)) 32)).alloc (.cells (cellsM b (.slice B b.stamp.length d)) 32)).cell? ⟨w.heap.size, 4, none⟩ = some (.int .i64 a.seq) := HKA.cell 4
  have cb4 : ((w.alloc (.cells (cellsM a (.slice A a.stamp.length c)) 32)).alloc (.cells (cellsM b (.slice B b.stamp.length d)) 32)).cell? ⟨w.heap.size + 1, 4, none⟩ = some (.int .i64 a.seq) := by rw [e4]; exact HKB.cell 4
  have ca5 : ((w.alloc (.cells (cellsM a (.slice A a.stamp.length c)) 32)).alloc (.cells (cellsM b (.slice B b.stamp.length d)) 32)).cell? ⟨w.heap.size, 5, none⟩ = some (.int .i64 a.low) := HKA.cell 5
  have cb5 : ((w.alloc (.cells (cellsM a (.slice A a.stamp.length c)) 32)).alloc (.cells (cellsM b (.slice B b.stamp.length d)) 32)).cell? ⟨w.heap.size + 1, 5, none⟩ = some (.int .i64 a.low) := by rw [e5]; exact HKB.cell 5
  have ca6 : ((w.alloc (.cells (cellsM a (.slice A a.stamp.length c)) 32)).alloc (.cells (cellsM b (.slice B b.stamp.length d)) 32)).cell? ⟨w.heap.size, 6, none⟩ = some (.int .i64 a.verb) := HKA.cell 6
  have cb6 : ((w.alloc (.cells (cellsM a (.slice A a.stamp.length c)) 32)).alloc (.cells (cellsM b (.slice B b.stamp.length d)) 32)).cell? ⟨w.heap.size + 1, 6, none⟩ = some (.int .i64 a.verb) := by rw [e6]; exact HKB.cell 6
  have ca7 : ((w.alloc (.cells (cellsM a (.slice A a.stamp.length c)) 32)).alloc (.cells (cellsM b (.slice B b.stamp.length d)) 32)).cell? ⟨w.heap.size, 7, none⟩ = some (.string a.path) := HKA.cell 7
  have cb7 : ((w.alloc (.cells (cellsM a (.slice A a.stamp.length c)) 32)).alloc (.cells (cellsM b (.slice B b.stamp.length d)) 32)).cell? ⟨w.heap.size + 1, 7, none⟩ = some (.string a.path) := by rw [e7]; exact HKB.cell 7
  have ca8 : ((w.alloc (.cells (cellsM a (.slice A a.stamp.length c)) 32)).alloc (.cells (cellsM b (.slice B b.stamp.length d)) 32)).cell? ⟨w.heap.size, 8, none⟩ = some (.int .i64 a.mode) := HKA.cell 8
  have cb8 : ((w.alloc (.cells (cellsM a (.slice A a.stamp.length c)) 32)).alloc (.cells (cellsM b (.slice B b.stamp.length d)) 32)).cell? ⟨w.heap.size + 1, 8, none⟩ = some (.int .i64 a.mode) := by rw [e8]; exact HKB.cell 8
  have ca9 : ((w.alloc (.cells (cellsM a (.slice A a.stamp.length c)) 32)).alloc (.cells (cellsM b (.slice B b.stamp.length d)) 32)).cell? ⟨w.heap.size, 9, none⟩ = some (.int .i64 a.term) := HKA.cell 9
  have cb9 : ((w.alloc (.cells (cellsM a (.slice A a.stamp.length c)) 32)).alloc (.cells (cellsM b (.slice B b.stamp.length d)) 32)).cell? ⟨w.heap.size + 1, 9, none⟩ = some (.int .i64 b.term) := HKB.cell 9
  clear HKA HKB
  have hd1 : (a.term == b.term) = false := by simpa using hne
  clear hne e0 e1 e2 e3 e4 e5 e6 e7 e8
  go_enter Try.func34, Try.ntmps34
  go_wp2_with fail
  go_ret
  exact ⟨rfl, HX.out⟩
set_option maxHeartbeats 8000000 in
theorem Same_no10 (A B : Option Addr) (c d : Nat) (a b : Msg) (w : World) (hA : IntsAt w A a.stamp) (hB : IntsAt w B b.stamp) (ha : a.stamp.length ≤ c) (hb : b.stamp.length ≤ d) (hc : c ≤ 9223372036854775807) (hd : d ≤ 9223372036854775807) (e0 : a.kind = b.kind) (e1 : a.frm = b.frm) (e2 : a.dst = b.dst) (e3 : a.boot = b.boot) (e4 : a.seq = b.seq) (e5 : a.low = b.low) (e6 : a.verb = b.verb) (e7 : a.path = b.path) (e8 : a.mode = b.mode) (e9 : a.term = b.term) (hne : a.id ≠ b.id) :
    Calls Try.prog 34 #[.agg (cellsM a (.slice A a.stamp.length c)), .agg (cellsM b (.slice B b.stamp.length d))] w fun e w' => e = .returned (.bool false) ∧ Below w.heap.size w w' := by
  have HX := Lib.hid (((Below.refl _ w).alloc (Nat.le_refl _) (.cells (cellsM a (.slice A a.stamp.length c)) 32)).alloc (by simp) (.cells (cellsM b (.slice B b.stamp.length d)) 32))
  have HE := Lib.hid (Equal_any A B c d a.stamp b.stamp _ (hA.below HX.out) (hB.below HX.out) ha hb hc hd)
  have HKA := (Whole.new w 32 (cellsM a (.slice A a.stamp.length c))).alloc (.cells (cellsM b (.slice B b.stamp.length d)) 32)
  have HKB := (show Whole ((w.alloc (.cells (cellsM a (.slice A a.stamp.length c)) 32)).alloc (.cells (cellsM b (.slice B b.stamp.length d)) 32)) (w.heap.size + 1) 32 (cellsM b (.slice B b.stamp.length d)) from by have h := Whole.new (w.alloc (.cells (cellsM a (.slice A a.stamp.length c)) 32)) 32 (cellsM b (.slice B b.stamp.length d)); have e : (w.alloc (.cells (cellsM a (.slice A a.stamp.length c)) 32)).heap.size = w.heap.size + 1 := (by simp); rw [e] at h; exact h)
  clear hA hB
  have ca0 : ((w.alloc (.cells (cellsM a (.slice A a.stamp.length c)) 32)).alloc (.cells (cellsM b (.slice B b.stamp.length d)) 32)).cell? ⟨w.heap.size, 0, none⟩ = some (.int .i64 a.kind) := HKA.cell 0
  have cb0 : ((w.alloc (.cells (cellsM a (.slice A a.stamp.length c)) 32)).alloc (.cells (cellsM b (.slice B b.stamp.length d)) 32)).cell? ⟨w.heap.size + 1, 0, none⟩ = some (.int .i64 a.kind) := by rw [e0]; exact HKB.cell 0
  have ca1 : ((w.alloc (.cells (cellsM a (.slice A a.stamp.length c)) 32)).alloc (.cells (cellsM b (.slice B b.stamp.length d)) 32)).cell? ⟨w.heap.size, 1, none⟩ = some (.int .i64 a.frm) := HKA.cell 1
  have cb1 : ((w.alloc (.cells (cellsM a (.slice A a.stamp.length c)) 32)).alloc (.cells (cellsM b (.slice B b.stamp.length d)) 32)).cell? ⟨w.heap.size + 1, 1, none⟩ = some (.int .i64 a.frm) := by rw [e1]; exact HKB.cell 1
  have ca2 : ((w.alloc (.cells (cellsM a (.slice A a.stamp.length c)) 32)).alloc (.cells (cellsM b (.slice B b.stamp.length d)) 32)).cell? ⟨w.heap.size, 2, none⟩ = some (.int .i64 a.dst) := HKA.cell 2
  have cb2 : ((w.alloc (.cells (cellsM a (.slice A a.stamp.length c)) 32)).alloc (.cells (cellsM b (.slice B b.stamp.length d)) 32)).cell? ⟨w.heap.size + 1, 2, none⟩ = some (.int .i64 a.dst) := by rw [e2]; exact HKB.cell 2
  have ca3 : ((w.alloc (.cells (cellsM a (.slice A a.stamp.length c)) 32)).alloc (.cells (cellsM b (.slice B b.stamp.length d)) 32)).cell? ⟨w.heap.size, 3, none⟩ = some (.int .i64 a.boot) := HKA.cell 3
  have cb3 : ((w.alloc (.cells (cellsM a (.slice A a.stamp.length c)) 32)).alloc (.cells (cellsM b (.slice B b.stamp.length d)) 32)).cell? ⟨w.heap.size + 1, 3, none⟩ = some (.int .i64 a.boot) := by rw [e3]; exact HKB.cell 3
  have ca4 : ((w.alloc (.cells (cellsM a (.slice A a.stamp.length c)) 32)).alloc (.cells (cellsM b (.slice B b.stamp.length d)) 32)).cell? ⟨w.heap.size, 4, none⟩ = some (.int .i64 a.seq) := HKA.cell 4
  have cb4 : ((w.alloc (.cells (cellsM a (.slice A a.stamp.length c)) 32)).alloc (.cells (cellsM b (.slice B b.stamp.length d)) 32)).cell? ⟨w.heap.size + 1, 4, none⟩ = some (.int .i64 a.seq) := by rw [e4]; exact HKB.cell 4
  have ca5 : ((w.alloc (.cells (cellsM a (.slice A a.stamp.length c)) 32)).alloc (.cells (cellsM b (.slice B b.stamp.length d)) 32)).cell? ⟨w.heap.size, 5, none⟩ = some (.int .i64 a.low) := HKA.cell 5
  have cb5 : ((w.alloc (.cells (cellsM a (.slice A a.stamp.length c)) 32)).alloc (.cells (cellsM b (.slice B b.stamp.length d)) 32)).cell? ⟨w.heap.size + 1, 5, none⟩ = some (.int .i64 a.low) := by rw [e5]; exact HKB.cell 5
  have ca6 : ((w.alloc (.cells (cellsM a (.slice A a.stamp.length c)) 32)).alloc (.cells (cellsM b (.slice B b.stamp.length d)) 32)).cell? ⟨w.heap.size, 6, none⟩ = some (.int .i64 a.verb) := HKA.cell 6
  have cb6 : ((w.alloc (.cells (cellsM a (.slice A a.stamp.length c)) 32)).alloc (.cells (cellsM b (.slice B b.stamp.length d)) 32)).cell? ⟨w.heap.size + 1, 6, none⟩ = some (.int .i64 a.verb) := by rw [e6]; exact HKB.cell 6
  have ca7 : ((w.alloc (.cells (cellsM a (.slice A a.stamp.length c)) 32)).alloc (.cells (cellsM b (.slice B b.stamp.length d)) 32)).cell? ⟨w.heap.size, 7, none⟩ = some (.string a.path) := HKA.cell 7
  have cb7 : ((w.alloc (.cells (cellsM a (.slice A a.stamp.length c)) 32)).alloc (.cells (cellsM b (.slice B b.stamp.length d)) 32)).cell? ⟨w.heap.size + 1, 7, none⟩ = some (.string a.path) := by rw [e7]; exact HKB.cell 7
  have ca8 : ((w.alloc (.cells (cellsM a (.slice A a.stamp.length c)) 32)).alloc (.cells (cellsM b (.slice B b.stamp.length d)) 32)).cell? ⟨w.heap.size, 8, none⟩ = some (.int .i64 a.mode) := HKA.cell 8
  have cb8 : ((w.alloc (.cells (cellsM a (.slice A a.stamp.length c)) 32)).alloc (.cells (cellsM b (.slice B b.stamp.length d)) 32)).cell? ⟨w.heap.size + 1, 8, none⟩ = some (.int .i64 a.mode) := by rw [e8]; exact HKB.cell 8
  have ca9 : ((w.alloc (.cells (cellsM a (.slice A a.stamp.length c)) 32)).alloc (.cells (cellsM b (.slice B b.stamp.length d)) 32)).cell? ⟨w.heap.size, 9, none⟩ = some (.int .i64 a.term) := HKA.cell 9
  have cb9 : ((w.alloc (.cells (cellsM a (.slice A a.stamp.length c)) 32)).alloc (.cells (cellsM b (.slice B b.stamp.length d)) 32)).cell? ⟨w.heap.size + 1, 9, none⟩ = some (.int .i64 a.term) := by rw [e9]; exact HKB.cell 9
  have ca10 : ((w.alloc (.cells (cellsM a (.slice A a.stamp.length c)) 32)).alloc (.cells (cellsM b (.slice B b.stamp.length d)) 32)).cell? ⟨w.heap.size, 10, none⟩ = some (.int .i64 a.id) := HKA.cell 10
  have cb10 : ((w.alloc (.cells (cellsM a (.slice A a.stamp.length c)) 32)).alloc (.cells (cellsM b (.slice B b.stamp.length d)) 32)).cell? ⟨w.heap.size + 1, 10, none⟩ = some (.int .i64 b.id) := HKB.cell 10
  clear HKA HKB
  have hd1 : (a.id == b.id) = false := by simpa using hne
  clear hne e0 e1 e2 e3 e4 e5 e6 e7 e8 e9
  go_enter Try.func34, Try.ntmps34
  go_wp2_with fail
  go_ret
  exact ⟨rfl, HX.out⟩
end Go.Proofs.Ytbjemihcbbiiaaa
