/- Whether two messages are one: the package's call of layer 6. -/
import Derived.Test.YtbjemihcbbiiaaaWireW9
namespace Go.Proofs.Ytbjemihcbbiiaaa
open Go.RowKit
open WM (Msg)
set_option linter.unusedVariables false
set_option maxRecDepth 100000
set_option maxHeartbeats 8000000 in
theorem Same_self (A B : Option Addr) (c d : Nat) (a : Msg) (w : World) (hA : IntsAt w A a.stamp) (hB : IntsAt w B a.stamp) (ha : a.stamp.length ≤ c) (hb : a.stamp.length ≤ d) (hc : c ≤ 9223372036854775807) (hd : d ≤ 9223372036854775807) :
    Calls Try.prog 34 #[.agg (cellsM a (.slice A a.stamp.length c)), .agg (cellsM a (.slice B a.stamp.length d))] w fun e w' => e = .returned (.bool true) ∧ Below w.heap.size w w' := by
  have HX := Lib.hid (((Below.refl _ w).alloc (Nat.le_refl _) (.cells (cellsM a (.slice A a.stamp.length c)) 32)).alloc (by simp) (.cells (cellsM a (.slice B a.stamp.length d)) 32))
  have HE := Lib.hid (Equal_any A B c d a.stamp a.stamp _ (hA.below HX.out) (hB.below HX.out) ha hb hc hd)
  have HT := Lib.hid (show decide (a.stamp = a.stamp) = true from decide_eq_true rfl)
  clear hA hB
  have HKA := (Whole.new w 32 (cellsM a (.slice A a.stamp.length c))).alloc (.cells (cellsM a (.slice B a.stamp.length d)) 32)
  have HKB := (show Whole ((w.alloc (.cells (cellsM a (.slice A a.stamp.length c)) 32)).alloc (.cells (cellsM a (.slice B a.stamp.length d)) 32)) (w.heap.size + 1) 32 (cellsM a (.slice B a.stamp.length d)) from by have h := Whole.new (w.alloc (.cells (cellsM a (.slice A a.stamp.length c)) 32)) 32 (cellsM a (.slice B a.stamp.length d)); have e : (w.alloc (.cells (cellsM a (.slice A a.stamp.length c)) 32)).heap.size = w.heap.size + 1 := (by simp); rw [e] at h; exact h)
  have ca0 : ((w.alloc (.cells (cellsM a (.slice A a.stamp.length c)) 32)).alloc (.cells (cellsM a (.slice B a.stamp.length d)) 32)).cell? ⟨w.heap.size, 0, none⟩ = some (.int .i64 a.kind) := HKA.cell 0
  have cb0 : ((w.alloc (.cells (cellsM a (.slice A a.stamp.length c)) 32)).alloc (.cells (cellsM a (.slice B a.stamp.length d)) 32)).cell? ⟨w.heap.size + 1, 0, none⟩ = some (.int .i64 a.kind) := HKB.cell 0
  have ca1 : ((w.alloc (.cells (cellsM a (.slice A a.stamp.length c)) 32)).alloc (.cells (cellsM a (.slice B a.stamp.length d)) 32)).cell? ⟨w.heap.size, 1, none⟩ = some (.int .i64 a.frm) := HKA.cell 1
  have cb1 : ((w.alloc (.cells (cellsM a (.slice A a.stamp.length c)) 32)).alloc (.cells (cellsM a (.slice B a.stamp.length d)) 32)).cell? ⟨w.heap.size + 1, 1, none⟩ = some (.int .i64 a.frm) := HKB.cell 1
  have ca2 : ((w.alloc (.cells (cellsM a (.slice A a.stamp.length c)) 32)).alloc (.cells (cellsM a (.slice B a.stamp.length d)) 32)).cell? ⟨w.heap.size, 2, none⟩ = some (.int .i64 a.dst) := HKA.cell 2
  have cb2 : ((w.alloc (.cells (cellsM a (.slice A a.stamp.length c)) 32)).alloc (.cells (cellsM a (.slice B a.stamp.length d)) 32)).cell? ⟨w.heap.size + 1, 2, none⟩ = some (.int .i64 a.dst) := HKB.cell 2
  have ca3 : ((w.alloc (.cells (cellsM a (.slice A a.stamp.length c)) 32)).alloc (.cells (cellsM a (.slice B a.stamp.length d)) 32)).cell? ⟨w.heap.size, 3, none⟩ = some (.int .i64 a.boot) := HKA.cell 3
  have cb3 : ((w.alloc (.cells (cellsM a (.slice A a.stamp.length c)) 32)).alloc (.cells (cellsM a (.slice B a.stamp.length d)) 32)).cell? ⟨w.heap.size + 1, 3, none⟩ = some (.int .i64 a.boot) := HKB.cell 3
  have ca4 : ((w.alloc (.cells (cellsM a (.slice A a.stamp.length c)) 32)).alloc (.cells (cellsM a (.slice B a.stamp.length d)) 32)).cell? ⟨w.heap.size, 4, none⟩ = some (.int .i64 a.seq) := HKA.cell 4
  have cb4 : ((w.alloc (.cells (cellsM a (.slice A a.stamp.length c)) 32)).alloc (.cells (cellsM a (.slice B a.stamp.length d)) 32)).cell? ⟨w.heap.size + 1, 4, none⟩ = some (.int .i64 a.seq) := HKB.cell 4
  have ca5 : ((w.alloc (.cells (cellsM a (.slice A a.stamp.length c)) 32)).alloc (.cells (cellsM a (.slice B a.stamp.length d)) 32)).cell? ⟨w.heap.size, 5, none⟩ = some (.int .i64 a.low) := HKA.cell 5
  have cb5 : ((w.alloc (.cells (cellsM a (.slice A a.stamp.length c)) 32)).alloc (.cells (cellsM a (.slice B a.stamp.length d)) 32)).cell? ⟨w.heap.size + 1, 5, none⟩ = some (.int .i64 a.low) := HKB.cell 5
  have ca6 : ((w.alloc (.cells (cellsM a (.slice A a.stamp.length c)) 32)).alloc (.cells (cellsM a (.slice B a.stamp.length d)) 32)).cell? ⟨w.heap.size, 6, none⟩ = some (.int .i64 a.verb) := HKA.cell 6
  have cb6 : ((w.alloc (.cells (cellsM a (.slice A a.stamp.length c)) 32)).alloc (.cells (cellsM a (.slice B a.stamp.length d)) 32)).cell? ⟨w.heap.size + 1, 6, none⟩ = some (.int .i64 a.verb) := HKB.cell 6
  have ca7 : ((w.alloc (.cells (cellsM a (.slice A a.stamp.length c)) 32)).alloc (.cells (cellsM a (.slice B a.stamp.length d)) 32)).cell? ⟨w.heap.size, 7, none⟩ = some (.string a.path) := HKA.cell 7
  have cb7 : ((w.alloc (.cells (cellsM a (.slice A a.stamp.length c)) 32)).alloc (.cells (cellsM a (.slice B a.stamp.length d)) 32)).cell? ⟨w.heap.size + 1, 7, none⟩ = some (.string a.path) := HKB.cell 7
  have ca8 : ((w.alloc (.cells (cellsM a (.slice A a.stamp.length c)) 32)).alloc (.cells (cellsM a (.slice B a.stamp.length d)) 32)).cell? ⟨w.heap.size, 8, none⟩ = some (.int .i64 a.mode) := HKA.cell 8
  have cb8 : ((w.alloc (.cells (cellsM a (.slice A a.stamp.length c)) 32)).alloc (.cells (cellsM a (.slice B a.stamp.length d)) 32)).cell? ⟨w.heap.size + 1, 8, none⟩ = some (.int .i64 a.mode) := HKB.cell 8
  have ca9 : ((w.alloc (.cells (cellsM a (.slice A a.stamp.length c)) 32)).alloc (.cells (cellsM a (.slice B a.stamp.length d)) 32)).cell? ⟨w.heap.size, 9, none⟩ = some (.int .i64 a.term) := HKA.cell 9
  have cb9 : ((w.alloc (.cells (cellsM a (.slice A a.stamp.length c)) 32)).alloc (.cells (cellsM a (.slice B a.stamp.length d)) 32)).cell? ⟨w.heap.size + 1, 9, none⟩ = some (.int .i64 a.term) := HKB.cell 9
  have ca10 : ((w.alloc (.cells (cellsM a (.slice A a.stamp.length c)) 32)).alloc (.cells (cellsM a (.slice B a.stamp.length d)) 32)).cell? ⟨w.heap.size, 10, none⟩ = some (.int .i64 a.id) := HKA.cell 10
  have cb10 : ((w.alloc (.cells (cellsM a (.slice A a.stamp.length c)) 32)).alloc (.cells (cellsM a (.slice B a.stamp.length d)) 32)).cell? ⟨w.heap.size + 1, 10, none⟩ = some (.int .i64 a.id) := HKB.cell 10
  have ca11 : ((w.alloc (.cells (cellsM a (.slice A a.stamp.length c)) 32)).alloc (.cells (cellsM a (.slice B a.stamp.length d)) 32)).cell? ⟨w.heap.size, 11, none⟩ = some (.bool a.fresh) := HKA.cell 11
  have cb11 : ((w.alloc (.cells (cellsM a (.slice A a.stamp.length c)) 32)).alloc (.cells (cellsM a (.slice B a.stamp.length d)) 32)).cell? ⟨w.heap.size + 1, 11, none⟩ = some (.bool a.fresh) := HKB.cell 11
  have ca12 : ((w.alloc (.cells (cellsM a (.slice A a.stamp.length c)) 32)).alloc (.cells (cellsM a (.slice B a.stamp.length d)) 32)).cell? ⟨w.heap.size, 12, none⟩ = some (.int .i64 a.code) := HKA.cell 12
  have cb12 : ((w.alloc (.cells (cellsM a (.slice A a.stamp.length c)) 32)).alloc (.cells (cellsM a (.slice B a.stamp.length d)) 32)).cell? ⟨w.heap.size + 1, 12, none⟩ = some (.int .i64 a.code) := HKB.cell 12
  have ca13 : ((w.alloc (.cells (cellsM a (.slice A a.stamp.length c)) 32)).alloc (.cells (cellsM a (.slice B a.stamp.length d)) 32)).cell? ⟨w.heap.size, 13, none⟩ = some (.slice A a.stamp.length c) := HKA.cell 13
  have cb13 : ((w.alloc (.cells (cellsM a (.slice A a.stamp.length c)) 32)).alloc (.cells (cellsM a (.slice B a.stamp.length d)) 32)).cell? ⟨w.heap.size + 1, 13, none⟩ = some (.slice B a.stamp.length d) := HKB.cell 13
  have ca14 : ((w.alloc (.cells (cellsM a (.slice A a.stamp.length c)) 32)).alloc (.cells (cellsM a (.slice B a.stamp.length d)) 32)).cell? ⟨w.heap.size, 14, none⟩ = some (.int .i64 a.origin) := HKA.cell 14
  have cb14 : ((w.alloc (.cells (cellsM a (.slice A a.stamp.length c)) 32)).alloc (.cells (cellsM a (.slice B a.stamp.length d)) 32)).cell? ⟨w.heap.size + 1, 14, none⟩ = some (.int .i64 a.origin) := HKB.cell 14
  have ca15 : ((w.alloc (.cells (cellsM a (.slice A a.stamp.length c)) 32)).alloc (.cells (cellsM a (.slice B a.stamp.length d)) 32)).cell? ⟨w.heap.size, 15, none⟩ = some (.int .i64 a.number) := HKA.cell 15
  have cb15 : ((w.alloc (.cells (cellsM a (.slice A a.stamp.length c)) 32)).alloc (.cells (cellsM a (.slice B a.stamp.length d)) 32)).cell? ⟨w.heap.size + 1, 15, none⟩ = some (.int .i64 a.number) := HKB.cell 15
  clear HKA HKB
  go_enter Try.func34, Try.ntmps34
  go_wp2_with fail
  refine HE.out.mono ?_
  rw [HT.out]
  rintro x w9 ⟨rfl, hb9⟩
  have ea14 := (hb9.cell (p := ⟨w.heap.size, 14, none⟩) (by simp; try omega)).trans ca14
  have eb14 := (hb9.cell (p := ⟨w.heap.size + 1, 14, none⟩) (by simp; try omega)).trans cb14
  have ea15 := (hb9.cell (p := ⟨w.heap.size, 15, none⟩) (by simp; try omega)).trans ca15
  have eb15 := (hb9.cell (p := ⟨w.heap.size + 1, 15, none⟩) (by simp; try omega)).trans cb15
  have HX9 := Lib.hid (below_on HX.out hb9)
  clear hb9
  go_wp2_with fail
  go_ret
  exact ⟨rfl, HX9.out⟩
end Go.Proofs.Ytbjemihcbbiiaaa
