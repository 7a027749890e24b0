/- Whether two messages are one: the ways on which the package's call of layer 6 says no (part 1). -/
import Derived.Test.YtbjemihcbbiiaaaWireW9
namespace Go.Proofs.Ytbjemihcbbiiaaa
open Go.RowKit
open WM (Msg)
set_option linter.unusedVariables false
set_option maxRecDepth 100000
set_option maxHeartbeats 8000000 in
theorem Same_no0 (A B : Option Addr) (c d : Nat) (a b : Msg) (w : World) (hA : IntsAt w A a.stamp) (hB : IntsAt w B b.stamp) (ha : a.stamp.length ≤ c) (hb : b.stamp.length ≤ d) (hc : c ≤ 9223372036854775807) (hd : d ≤ 9223372036854775807)  (hne : a.kind ≠ b.kind) :
    Calls Try.prog 34 #[.agg (cellsM a (.slice A a.stamp.length c)), .agg (cellsM b (.slice B b.stamp.length d))] w fun e w' => e = .returned (.bool false) ∧ Below w.heap.size w w' := by
  have HX := Lib.hid (((Below.refl _ w).alloc (Nat.le_refl _) (.cells (cellsM a (.slice A a.stamp.length c)) 32)).alloc (by simp) (.cells (cellsM b (.slice B b.stamp.length d)) 32))
  have HE := Lib.hid (Equal_any A B c d a.stamp b.stamp _ (hA.below HX.out) (hB.below HX.out) ha hb hc hd)
  have HKA := (Whole.new w 32 (cellsM a (.slice A a.stamp.length c))).alloc (.cells (cellsM b (.slice B b.stamp.length d)) 32)
  have HKB := (show Whole ((w.alloc (.cells (cellsM a (.slice A a.stamp.length c)) 32)).alloc (.cells (cellsM b (.slice B b.stamp.length d)) 32)) (w.heap.size + 1) 32 (cellsM b (.slice B b.stamp.length d)) from by have h := Whole.new (w.alloc (.cells (cellsM a (.slice A a.stamp.length c)) 32)) 32 (cellsM b (.slice B b.stamp.length d)); have e : (w.alloc (.cells (cellsM a (.slice A a.stamp.length c)) 32)).heap.size = w.heap.size + 1 := (by simp); rw [e] at h; exact h)
  clear hA hB
  have ca0 : ((w.alloc (.cells (cellsM a (.slice A a.stamp.length c)) 32)).alloc (.cells (cellsM b (.slice B b.stamp.length d)) 32)).cell? ⟨w.heap.size, 0, none⟩ = some (.int .i64 a.kind) := HKA.cell 0
  have cb0 : ((w.alloc (.cells (cellsM a (.slice A a.stamp.length c)) 32)).alloc (.cells (cellsM b (.slice B b.stamp.length d)) 32)).cell? ⟨w.heap.size + 1, 0, none⟩ = some (.int .i64 b.kind) := HKB.cell 0
  clear HKA HKB
  have hd1 : (a.kind == b.kind) = false := by simpa using hne
  clear hne
  go_enter Try.func34, Try.ntmps34
  go_wp2_with fail
  go_ret
  exact ⟨rfl, HX.out⟩
set_option maxHeartbeats 8000000 in
theorem Same_no1 (A B : Option Addr) (c d : Nat) (a b : Msg) (w : World) (hA : IntsAt w A a.stamp) (hB : IntsAt w B b.stamp) (ha : a.stamp.length ≤ c) (hb : b.stamp.length ≤ d) (hc : c ≤ 9223372036854775807) (hd : d ≤ 9223372036854775807) (e0 : a.kind = b.kind) (hne : a.frm ≠ b.frm) :
    Calls Try.prog 34 #[.agg (cellsM a (.slice A a.stamp.length c)), .agg (cellsM b (.slice B b.stamp.length d))] w fun e w' => e = .returned (.bool false) ∧ Below w.heap.size w w' := by
  have HX := Lib.hid (((Below.refl _ w).alloc (Nat.le_refl _) (.cells (cellsM a (.slice A a.stamp.length c)) 32)).alloc (by simp) (.cells (cellsM b (.slice B b.stamp.length d)) 32))
  have HE := Lib.hid (Equal_any A B c d a.stamp b.stamp _ (hA.below HX.out) (hB.below HX.out) ha hb hc hd)
  have HKA := (Whole.new w 32 (cellsM a (.slice A a.stamp.length c))).alloc (.cells (cellsM b (.slice B b.stamp.length d)) 32)
  have HKB := (show Whole ((w.alloc (.cells (cellsM a (.slice A a.stamp.length c)) 32)).alloc (.cells (cellsM b (.slice B b.stamp.length d)) 32)) (w.heap.size + 1) 32 (cellsM b (.slice B b.stamp.length d)) from by have h := Whole.new (w.alloc (.cells (cellsM a (.slice A a.stamp.length c)) 32)) 32 (cellsM b (.slice B b.stamp.length d)); have e : (w.alloc (.cells (cellsM a (.slice A a.stamp.length c)) 32)).heap.size = w.heap.size + 1 := (by simp); rw [e] at h; exact h)
  clear hA hB
  have ca0 : ((w.alloc (.cells (cellsM a (.slice A a.stamp.length c)) 32)).alloc (.cells (cellsM b (.slice B b.stamp.length d)) 32)).cell? ⟨w.heap.size, 0, none⟩ = some (.int .i64 a.kind) := HKA.cell 0
  have cb0 : ((w.alloc (.cells (cellsM a (.slice A a.stamp.length c)) 32)).alloc (.cells (cellsM b (.slice B b.stamp.length d)) 32)).cell? ⟨w.heap.size + 1, 0, none⟩ = some (.int .i64 a.kind) := by rw [e0]; exact HKB.cell 0
  have ca1 : ((w.alloc (.cells (cellsM a (.slice A a.stamp.length c)) 32)).alloc (.cells (cellsM b (.slice B b.stamp.length d)) 32)).cell? ⟨w.heap.size, 1, none⟩ = some (.int .i64 a.frm) := HKA.cell 1
  have cb1 : ((w.alloc (.cells (cellsM a (.slice A a.stamp.length c)) 32)).alloc (.cells (cellsM b (.slice B b.stamp.length d)) 32)).cell? ⟨w.heap.size + 1, 1, none⟩ = some (.int .i64 b.frm) := HKB.cell 1
  clear HKA HKB
  have hd1 : (a.frm == b.frm) = false := by simpa using hne
  clear hne e0
  go_enter Try.func34, Try.ntmps34
  go_wp2_with fail
  go_ret
  exact ⟨rfl, HX.out⟩
set_option maxHeartbeats 8000000 in
theorem Same_no2 (A B : Option Addr) (c d : Nat) (a b : Msg) (w : World) (hA : IntsAt w A a.stamp) (hB : IntsAt w B b.stamp) (ha : a.stamp.length ≤ c) (hb : b.stamp.length ≤ d) (hc : c ≤ 9223372036854775807) (hd : d ≤ 9223372036854775807) (e0 : a.kind = b.kind) (e1 : a.frm = b.frm) (hne : a.dst ≠ b.dst) :
    Calls Try.prog 34 #[.agg (cellsM a (.slice A a.stamp.length c)), .agg (cellsM b (.slice B b.stamp.length d))] w fun e w' => e = .returned (.bool false) ∧ Below w.heap.size w w' := by
  have HX := Lib.hid (((Below.refl _ w).alloc (Nat.le_refl _) (.cells (cellsM a (.slice A a.stamp.length c)) 32)).alloc (by simp) (.cells (cellsM b (.slice B b.stamp.length d)) 32))
  have HE := Lib.hid (Equal_any A B c d a.stamp b.stamp _ (hA.below HX.out) (hB.below HX.out) ha hb hc hd)
  have HKA := (Whole.new w 32 (cellsM a (.slice A a.stamp.length c))).alloc (.cells (cellsM b (.slice B b.stamp.length d)) 32)
  have HKB := (show Whole ((w.alloc (.cells (cellsM a (.slice A a.stamp.length c)) 32)).alloc (.cells (cellsM b (.slice B b.stamp.length d)) 32)) (w.heap.size + 1) 32 (cellsM b (.slice B b.stamp.length d)) from by have h := Whole.new (w.alloc (.cells (cellsM a (.slice A a.stamp.length c)) 32)) 32 (cellsM b (.slice B b.stamp.length d)); have e : (w.alloc (.cells (cellsM a (.slice A a.stamp.length c)) 32)).heap.size = w.heap.size + 1 := (by simp); rw [e] at h; exact h)
  clear hA hB
  have ca0 : ((w.alloc (.cells (cellsM a (.slice A a.stamp.length c)) 32)).alloc (.cells (cellsM b (.slice B b.stamp.length d)) 32)).cell? ⟨w.heap.size, 0, none⟩ = some (.int .i64 a.kind) := HKA.cell 0
  have cb0 : ((w.alloc (.cells (cellsM a (.slice A a.stamp.length c)) 32)).alloc (.cells (cellsM b (.slice B b.stamp.length d)) 32)).cell? ⟨w.heap.size + 1, 0, none⟩ = some (.int .i64 a.kind) := by rw [e0]; exact HKB.cell 0
  have ca1 : ((w.alloc (.cells (cellsM a (.slice A a.stamp.length c)) 32)).alloc (.cells (cellsM b (.slice B b.stamp.length d)) 32)).cell? ⟨w.heap.size, 1, none⟩ = some (.int .i64 a.frm) := HKA.cell 1
  have cb1 : ((w.alloc (.cells (cellsM a (.slice A a.stamp.length c)) 32)).alloc (.cells (cellsM b (.slice B b.stamp.length d)) 32)).cell? ⟨w.heap.size + 1, 1, none⟩ = some (.int .i64 a.frm) := by rw [e1]; exact HKB.cell 1
  have ca2 : ((w.alloc (.cells (cellsM a (.slice A a.stamp.length c)) 32)).alloc (.cells (cellsM b (.slice B b.stamp.length d)) 32)).cell? ⟨w.heap.size, 2, none⟩ = some (.int .i64 a.dst) := HKA.cell 2
  have cb2 : ((w.alloc (.cells (cellsM a (.slice A a.stamp.length c)) 32)).alloc (.cells (cellsM b (.slice B b.stamp.length d)) 32)).cell? ⟨w.heap.size + 1, 2, none⟩ = some (.int .i64 b.dst) := HKB.cell 2
  clear HKA HKB
  have hd1 : (a.dst == b.dst) = false := by simpa using hne
  clear hne e0 e1
  go_enter Try.func34, Try.ntmps34
  go_wp2_with fail
  go_ret
  exact ⟨rfl, HX.out⟩
set_option maxHeartbeats 8000000 in
theorem Same_no3 (A B : Option Addr) (c d : Nat) (a b : Msg) (w : World) (hA : IntsAt w A a.stamp) (hB : IntsAt w B b.stamp) (ha : a.stamp.length ≤ c) (hb : b.stamp.length ≤ d) (hc : c ≤ 9223372036854775807) (hd : d ≤ 9223372036854775807) (e0 : a.kind = b.kind) (e1 : a.frm = b.frm) (e2 : a.dst = b.dst) (hne : a.boot ≠ b.boot) :
    Calls Try.prog 34 #[.agg (cellsM a (.slice A a.stamp.length c)), .agg (cellsM b (.slice B b.stamp.length d))] w fun e w' => e = .returned (.bool false) ∧ Below w.heap.size w w' := by
  have HX := Lib.hid (((Below.refl _ w).alloc (Nat.le_refl _) (.cells (cellsM a (.slice A a.stamp.length c)) 32)).alloc (by simp) (.cells (cellsM b (.slice B b.stamp.length d)) 32))
  have HE := Lib.hid (Equal_any A B c d a.stamp b.stamp _ (hA.below HX.out) (hB.below HX.out) ha hb hc hd)
  have HKA := (Whole.new w 32 (cellsM a (.slice A a.stamp.length c))).alloc (.cells (cellsM b (.slice B b.stamp.length d)) 32)
  have HKB := (show Whole ((w.alloc (.cells (cellsM a (.slice A a.stamp.length c)) 32)).alloc (.cells (cellsM b (.slice B b.stamp.length d)) 32)) (w.heap.size + 1) 32 (cellsM b (.slice B b.stamp.length d)) from by have h := Whole.new (w.alloc (.cells (cellsM a (.slice A a.stamp.length c)) 32)) 32 (cellsM b (.slice B b.stamp.length d)); have e : (w.alloc (.cells (cellsM a (.slice A a.stamp.length c)) 32)).heap.size = w.heap.size + 1 := (by simp); rw [e] at h; exact h)
  clear hA hB
  have ca0 : ((w.alloc (.cells (cellsM a (.slice A a.stamp.length c)) 32)).alloc (.cells (cellsM b (.slice B b.stamp.length d)) 32)).cell? ⟨w.heap.size, 0, none⟩ = some (.int .i64 a.kind) := HKA.cell 0
  have cb0 : ((w.alloc (.cells (cellsM a (.slice A a.stamp.length c)) 32)).alloc (.cells (cellsM b (.slice B b.stamp.length d)) 32)).cell? ⟨w.heap.size + 1, 0, none⟩ = some (.int .i64 a.kind) := by rw [e0]; exact HKB.cell 0
  have ca1 : ((w.alloc (.cells (cellsM a (.slice A a.stamp.length c)) 32)).alloc (.cells (cellsM b (.slice B b.stamp.length d)) 32)).cell? ⟨w.heap.size, 1, none⟩ = some (.int .i64 a.frm) := HKA.cell 1
  have cb1 : ((w.alloc (.cells (cellsM a (.slice A a.stamp.length c)) 32)).alloc (.cells (cellsM b (.slice B b.stamp.length d)) 32)).cell? ⟨w.heap.size + 1, 1, none⟩ = some (.int .i64 a.frm) := by rw [e1]; exact HKB.cell 1
  have ca2 : ((w.alloc (.cells (cellsM a (.slice A a.stamp.length c)) 32)).alloc (.cells (cellsM b (.slice B b.stamp.length d)) 32)).cell? ⟨w.heap.size, 2, none⟩ = some (.int .i64 a.dst) := HKA.cell 2
  have cb2 : ((w.alloc (.cells (cellsM a (.slice A a.stamp.length c)) 32)).alloc (.cells (cellsM b (.slice B b.stamp.length d)) 32)).cell? ⟨w.heap.size + 1, 2, none⟩ = some (.int .i64 a.dst) := by rw [e2]; exact HKB.cell 2
  have ca3 : ((w.alloc (.cells (cellsM a (.slice A a.stamp.length c)) 32)).alloc (.cells (cellsM b (.slice B b.stamp.length d)) 32)).cell? ⟨w.heap.size, 3, none⟩ = some (.int .i64 a.boot) := HKA.cell 3
  have cb3 : ((w.alloc (.cells (cellsM a (.slice A a.stamp.length c)) 32)).alloc (.cells (cellsM b (.slice B b.stamp.length d)) 32)).cell? ⟨w.heap.size + 1, 3, none⟩ = some (.int .i64 b.boot) := HKB.cell 3
  clear HKA HKB
  have hd1 : (a.boot == b.boot) = false := by simpa using hne
  clear hne e0 e1 e2
  go_enter Try.func34, Try.ntmps34
  go_wp2_with fail
  go_ret
  exact ⟨rfl, HX.out⟩
set_option maxHeartbeats 8000000 in
theorem Same_no4 (A B : Option Addr) (c d : Nat) (a b : Msg) (w : World) (hA : IntsAt w A a.stamp) (hB : IntsAt w B b.stamp) (ha : a.stamp.length ≤ c) (hb : b.stamp.length ≤ d) (hc : c ≤ 9223372036854775807) (hd : d ≤ 9223372036854775807) (e0 : a.kind = b.kind) (e1 : a.frm = b.frm) (e2 : a.dst = b.dst) (e3 : a.boot = b.boot) (hne : a.seq ≠ b.seq) :
    Calls Try.prog 34 #[.agg (cellsM a (.slice A a.stamp.length c)), .agg (cellsM b (.slice B b.stamp.length d))] w fun e w' => e = .returned (.bool false) ∧ Below w.heap.size w w' := by
  have HX := Lib.hid (((Below.refl _ w).alloc (Nat.le_refl _) (.cells (cellsM a (.slice A a.stamp.length c)) 32)).alloc (by simp) (.cells (cellsM b (.slice B b.stamp.length d)) 32))
  have HE := Lib.hid (Equal_any A B c d a.stamp b.stamp _ (hA.below HX.out) (hB.below HX.out) ha hb hc hd)
  have HKA := (Whole.new w 32 (cellsM a (.slice A a.stamp.length c))).alloc (.cells (cellsM b (.slice B b.stamp.length d)) 32)
  have HKB := (show Whole ((w.alloc (.cells (cellsM a (.slice A a.stamp.length c)) 32)).alloc (.cells (cellsM b (.slice B b.stamp.length d)) 32)) (w.heap.size + 1) 32 (cellsM b (.slice B b.stamp.length d)) from by have h := Whole.new (w.alloc (.cells (cellsM a (.slice A a.stamp.length c)) 32)) 32 (cellsM b (.slice B b.stamp.length d)); have e : (w.alloc (.cells (cellsM a (.slice A a.stamp.length c)) 32)).heap.size = w.heap.size + 1 := (by simp); rw [e] at h; exact h)
  clear hA hB
  have ca0 : ((w.alloc (.cells (cellsM a (.slice A a.stamp.length c)) 32)).alloc (.cells (cellsM b (.slice B b.stamp.length d)) 32)).cell? ⟨w.heap.size, 0, none⟩ = some (.int .i64 a.kind) := HKA.cell 0
  have cb0 : ((w.alloc (.cells (cellsM a (.slice A a.stamp.length c)) 32)).alloc (.cells (cellsM b (.slice B b.stamp.length d)) 32)).cell? ⟨w.heap.size + 1, 0, none⟩ = some (.int .i64 a.kind) := by rw [e0]; exact HKB.cell 0
  have ca1 : ((w.alloc (.cells (cellsM a (.slice A a.stamp.length c)) 32)).alloc (.cells (cellsM b (.slice B b.stamp.length d)) 32)).cell? ⟨w.heap.size, 1, none⟩ = some (.int .i64 a.frm) := HKA.cell 1
  have cb1 : ((w.alloc (.cells (cellsM a (.slice A a.stamp.length c)) 32)).alloc (.cells (cellsM b (.slice B b.stamp.length d)) 32)).cell? ⟨w.heap.size + 1, 1, none⟩ = some (.int .i64 a.frm) := by rw [e1]; exact HKB.cell 1
  have ca2 : ((w.alloc (.cells (cellsM a (.slice A a.stamp.length c)) 32)).alloc (.cells (cellsM b (.slice B b.stamp.length d)) 32)).cell? ⟨w.heap.size, 2, none⟩ = some (.int .i64 a.dst) := HKA.cell 2
  have cb2 : ((w.alloc (.cells (cellsM a (.slice A a.stamp.length c)) 32)).alloc (.cells (cellsM b (.slice B b.stamp.length d)) 32)).cell? ⟨w.heap.size + 1, 2, none⟩ = some (.int .i64 a.dst) := by rw [e2]; exact HKB.cell 2
  have ca3 : ((w.alloc (.cells (cellsM a (.slice A a.stamp.length c)) 32)).alloc (.cells (cellsM b (.slice B b.stamp.length d)) 32)).cell? ⟨w.heap.size, 3, none⟩ = some (.int .i64 a.boot) := HKA.cell 3
  have cb3 : ((w.alloc (.cells (cellsM a (.slice A a.stamp.length c)) 32)).alloc (.cells (cellsM b (.slice B b.stamp.length d)) 32)).cell? ⟨w.heap.size + 1, 3, none⟩ = some (.int .i64 a.boot) := by rw [e3]; exact HKB.cell 3
  have ca4 : ((w.alloc (.cells (cellsM a (.slice A a.stamp.length c)) 32)).alloc (.cells (cellsM b (.slice B b.stamp.length d)) 32)).cell? ⟨w.heap.size, 4, none⟩ = some (.int .i64 a.seq) := HKA.cell 4
  have cb4 : ((w.alloc (.cells (cellsM a (.slice A a.stamp.length c)) 32)).alloc (.cells (cellsM b (.slice B b.stamp.length d)) 32)).cell? ⟨w.heap.size + 1, 4, none⟩ = some (.int .i64 b.seq) := HKB.cell 4
  clear HKA HKB
  have hd1 : (a.seq == b.seq) = false := by simpa using hne
  clear hne e0 e1 e2 e3
  go_enter Try.func34, Try.ntmps34
  go_wp2_with fail
  go_ret
  exact ⟨rfl, HX.out⟩
set_option maxHeartbeats 8000000 in
theorem Same_no5 (A B : Option Addr) (c d : Nat) (a b : Msg) (w : World) (hA : IntsAt w A a.stamp) (hB : IntsAt w B b.stamp) (ha : a.stamp.length ≤ c) (hb : b.stamp.length ≤ d) (hc : c ≤ 9223372036854775807) (hd : d ≤ 9223372036854775807) (e0 : a.kind = b.kind) (e1 : a.frm = b.frm) (e2 : a.dst = b.dst) (e3 : a.boot = b.boot) (e4 : a.seq = b.seq) (hne : a.low ≠ b.low) :
    Calls Try.prog 34 #[.agg (cellsM a (.slice A a.stamp.length c)), .agg (cellsM b (.slice B b.stamp.length d))] w fun e w' => e = .returned (.bool false) ∧ Below w.heap.size w w' := by
  have HX := Lib.hid (((Below.refl _ w).alloc (Nat.le_refl _) (.cells (cellsM a (.slice A a.stamp.length c)) 32)).alloc (by simp) (.cells (cellsM b (.slice B b.stamp.length d)) 32))
  have HE := Lib.hid (Equal_any A B c d a.stamp b.stamp _ (hA.below HX.out) (hB.below HX.out) ha hb hc hd)
  have HKA := (Whole.new w 32 (cellsM a (.slice A a.stamp.length c))).alloc (.cells (cellsM b (.slice B b.stamp.length d)) 32)
  have HKB := (show Whole ((w.alloc (.cells (cellsM a (.slice A a.stamp.length c)) 32)).alloc (.cells (cellsM b (.slice B b.stamp.length d)) 32)) (w.heap.size + 1) 32 (cellsM b (.slice B b.stamp.length d)) from by have h := Whole.new (w.alloc (.cells (cellsM a (.slice A a.stamp.length c)) 32)) 32 (cellsM b (.slice B b.stamp.length d)); have e : (w.alloc (.cells (cellsM a (.slice A a.stamp.length c)) 32)).heap.size = w.heap.size + 1 := (by simp); rw [e] at h; exact h)
  clear hA hB
  have ca0 : ((w.alloc (.cells (cellsM a (.slice A a.stamp.length c)) 32)).alloc (.cells (cellsM b (.slice B b.stamp.length d)) 32)).cell? ⟨w.heap.size, 0, none⟩ = some (.int .i64 a.kind) := HKA.cell 0
  have cb0 : ((w.alloc (.cells (cellsM a (.slice A a.stamp.length c)) 32)).alloc (.cells (cellsM b (.slice B b.stamp.length d)) 32)).cell? ⟨w.heap.size + 1, 0, none⟩ = some (.int .i64 a.kind) := by rw [e0]; exact HKB.cell 0
  have ca1 : ((w.alloc (.cells (cellsM a (.slice A a.stamp.length c)) 32)).alloc (.cells (cellsM b (.slice B b.stamp.length d)) 32)).cell? ⟨w.heap.size, 1, none⟩ = some (.int .i64 a.frm) := HKA.cell 1
  have cb1 : ((w.alloc (.cells (cellsM a (.slice A a.stamp.length c)) 32)).alloc (.cells (cellsM b (.slice B b.stamp.length d)) 32)).cell? ⟨w.heap.size + 1, 1, none⟩ = some (.int .i64 a.frm) := by rw [e1]; exact HKB.cell 1
  have ca2 : ((w.alloc (.cells (cellsM a (.slice A a.stamp.length c)) 32)).alloc (.cells (cellsM b (.slice B b.stamp.length d)) 32)).cell? ⟨w.heap.size, 2, none⟩ = some (.int .i64 a.dst) := HKA.cell 2
  have cb2 : ((w.alloc (.cells (cellsM a (.slice A a.stamp.length c)) 32)).alloc (.cells (cellsM b (.slice B b.stamp.length d)) 32)).cell? ⟨w.heap.size + 1, 2, none⟩ = some (.int .i64 a.dst) := by rw [e2]; exact HKB.cell 2
  have ca3 : ((w.alloc (.cells (cellsM a (.slice A a.stamp.length c)) 32)).alloc (.cells (cellsM b (.slice B b.stamp.length d)) 32)).cell? ⟨w.heap.size, 3, none⟩ = some (.int .i64 a.boot) := HKA.cell 3
  have cb3 : ((w.alloc (.cells (cellsM a (.slice A a.stamp.length c)) 32)).alloc (.cells (cellsM b (.slice B b.stamp.length d)) 32)).cell? ⟨w.heap.size + 1, 3, none⟩ = some (.int .i64 a.boot) := by rw [e3]; exact HKB.cell 3
  have ca4 : ((w.alloc (.cells (cellsM a (.slice A a.stamp.length c)) 32)).alloc (.cells (cellsM b (.slice B b.stamp.length d)) 32)).cell? ⟨w.heap.size, 4, none⟩ = some (.int .i64 a.seq) := HKA.cell 4
  have cb4 : ((w.alloc (.cells (cellsM a (.slice A a.stamp.length c)) 32)).alloc (.cells (cellsM b (.slice B b.stamp.length d)) 32)).cell? ⟨w.heap.size + 1, 4, none⟩ = some (.int .i64 a.seq) := by rw [e4]; exact HKB.cell 4
  have ca5 : ((w.alloc (.cells (cellsM a (.slice A a.stamp.length c)) 32)).alloc (.cells (cellsM b (.slice B b.stamp.length d)) 32)).cell? ⟨w.heap.size, 5, none⟩ = some (.int .i64 a.low) := HKA.cell 5
  have cb5 : ((w.alloc (.cells (cellsM a (.slice A a.stamp.length c)) 32)).alloc (.cells (cellsM b (.slice B b.stamp.length d)) 32)).cell? ⟨w.heap.size + 1, 5, none⟩ = some (.int .i64 b.low) := HKB.cell 5
  clear HKA HKB
  have hd1 : (a.low == b.low) = false := by simpa using hne
  clear hne e0 e1 e2 e3 e4
  go_enter Try.func34, Try.ntmps34
  go_wp2_with fail
  go_ret
  exact ⟨rfl, HX.out⟩
set_option maxHeartbeats 8000000 in
theorem Same_no6 (A B : Option Addr) (c d : Nat) (a b : Msg) (w : World) (hA : IntsAt w A a.stamp) (hB : IntsAt w B b.stamp) (ha : a.stamp.length ≤ c) (hb : b.stamp.length ≤ d) (hc : c ≤ 9223372036854775807) (hd : d ≤ 9223372036854775807) (e0 : a.kind = b.kind) (e1 : a.frm = b.frm) (e2 : a.dst = b.dst) (e3 : a.boot = b.boot) (e4 : a.seq = b.seq) (e5 : a.low = b.low) (hne : a.verb ≠ b.verb) :
    Calls Try.prog 34 #[.agg (cellsM a (.slice A a.stamp.length c)), .agg (cellsM b (.slice B b.stamp.length d))] w fun e w' => e = .returned (.bool false) ∧ Below w.heap.size w w' := by
  have HX := Lib.hid (((Below.refl _ w).alloc (Nat.le_refl _) (.cells (cellsM a (.slice A a.stamp.length c)) 32)).alloc (by simp) (.cells (cellsM b (.slice B b.stamp.length d)) 32))
  have HE := Lib.hid (Equal_any A B c d a.stamp b.stamp _ (hA.below HX.out) (hB.below HX.out) ha hb hc hd)
  have HKA := (Whole.new w 32 (cellsM a (.slice A a.stamp.length c))).alloc (.cells (cellsM b (.slice B b.stamp.length d)) 32)
  have HKB := (show Whole ((w.alloc (.cells (cellsM a (.slice A a.stamp.length c)) 32)).alloc (.cells (cellsM b (.slice B b.stamp.length d)) 32)) (w.heap.size + 1) 32 (cellsM b (.slice B b.stamp.length d)) from by have h := Whole.new (w.alloc (.cells (cellsM a (.slice A a.stamp.length c)) 32)) 32 (cellsM b (.slice B b.stamp.length d)); have e : (w.alloc (.cells (cellsM a (.slice A a.stamp.length c)) 32)).heap.size = w.heap.size + 1 := (by simp); rw [e] at h; exact h)
  clear hA hB
  have ca0 : ((w.alloc (.cells (cellsM a (.slice A a.stamp.length c)) 32)).alloc (.cells (cellsM b (.slice B b.stamp.length d)) 32)).cell? ⟨w.heap.size, 0, none⟩ = some (.int .i64 a.kind) := HKA.cell 0
  have cb0 : ((w.alloc (.cells (cellsM a (.slice A a.stamp.length c)) 32)).alloc (.cells (cellsM b (.slice B b.stamp.length d)) 32)).cell? ⟨w.heap.size + 1, 0, none⟩ = some (.int .i64 a.kind) := by rw [e0]; exact HKB.cell 0
  have ca1 : ((w.alloc (.cells (cellsM a (.slice A a.stamp.length c)) 32)).alloc (.cells (cellsM b (.slice B b.stamp.length d)) 32)).cell? ⟨w.heap.size, 1, none⟩ = some (.int .i64 a.frm) := HKA.cell 1
  have cb1 : ((w.alloc (.cells (cellsM a (.slice A a.stamp.length c)) 32)).alloc (.cells (cellsM b (.slice B b.stamp.length d)) 32)).cell? ⟨w.heap.size + 1, 1, none⟩ = some (.int .i64 a.frm) := by rw [e1]; exact HKB.cell 1
  have ca2 : ((w.alloc (.cells (cellsM a (.slice A a.stamp.length c)) 32)).alloc (.cells (cellsM b (.slice B b.stamp.length d)) 32)).cell? ⟨w.heap.size, 2, none⟩ = some (.int .i64 a.dst) := HKA.cell 2
  have cb2 : ((w.alloc (.cells (cellsM a (.slice A a.stamp.length c)) 32)).alloc (.cells (cellsM b (.slice B b.stamp.length d)) 32)).cell? ⟨w.heap.size + 1, 2, none⟩ = some (.int .i64 a.dst) := by rw [e2]; exact HKB.cell 2
  have ca3 : ((w.alloc (.cells (cellsM a (.slice A a.stamp.length c)) 32)).alloc (.cells (cellsM b (.slice B b.stamp.length d)) 32)).cell? ⟨w.heap.size, 3, none⟩ = some (.int .i64 a.boot) := HKA.cell 3
  have cb3 : ((w.alloc (.cells (cellsM a (.slice A a.stamp.length c)) 32)).alloc (.cells (cellsM b (.slice B b.stamp.length d)) 32)).cell? ⟨w.heap.size + 1, 3, none⟩ = some (.int .i64 a.boot) := by rw [e3]; exact HKB.cell 3
  have ca4 : ((w.alloc (.cells (cellsM a (.slice A a.stamp.length c)) 32)).alloc (.cells (cellsM b (.slice B b.stamp.length d)) 32)).cell? ⟨w.heap.size, 4, none⟩ = some (.int .i64 a.seq) := HKA.cell 4
  have cb4 : ((w.alloc (.cells (cellsM a (.slice A a.stamp.length c)) 32)).alloc (.cells (cellsM b (.slice B b.stamp.length d)) 32)).cell? ⟨w.heap.size + 1, 4, none⟩ = some (.int .i64 a.seq) := by rw [e4]; exact HKB.cell 4
  have ca5 : ((w.alloc (.cells (cellsM a (.slice A a.stamp.length c)) 32)).alloc (.cells (cellsM b (.slice B b.stamp.length d)) 32)).cell? ⟨w.heap.size, 5, none⟩ = some (.int .i64 a.low) := HKA.cell 5
  have cb5 : ((w.alloc (.cells (cellsM a (.slice A a.stamp.length c)) 32)).alloc (.cells (cellsM b (.slice B b.stamp.length d)) 32)).cell? ⟨w.heap.size + 1, 5, none⟩ = some (.int .i64 a.low) := by rw [e5]; exact HKB.cell 5
  have ca6 : ((w.alloc (.cells (cellsM a (.slice A a.stamp.length c)) 32)).alloc (.cells (cellsM b (.slice B b.stamp.length d)) 32)).cell? ⟨w.heap.size, 6, none⟩ = some (.int .i64 a.verb) := HKA.cell 6
  have cb6 : ((w.alloc (.cells (cellsM a (.slice A a.stamp.length c)) 32)).alloc (.cells (cellsM b (.slice B b.stamp.length d)) 32)).cell? ⟨w.heap.size + 1, 6, none⟩ = some (.int .i64 b.verb) := HKB.cell 6
  clear HKA HKB
  have hd1 : (a.verb == b.verb) = false := by simpa using hne
  clear hne e0 e1 e2 e3 e4 e5
  go_enter Try.func34, Try.ntmps34
  go_wp2_with fail
  go_ret
  exact ⟨rfl, HX.out⟩
end Go.Proofs.Ytbjemihcbbiiaaa
