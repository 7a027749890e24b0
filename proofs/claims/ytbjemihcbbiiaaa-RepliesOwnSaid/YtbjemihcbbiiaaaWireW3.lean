/- The table of layer 6: a kind's three functions. -/
import Derived.Test.YtbjemihcbbiiaaaWireF
import Derived.Deep.WholeRow
namespace Go.Proofs.Ytbjemihcbbiiaaa
open Go.RowKit
open WM (Msg)
set_option linter.unusedVariables false
set_option maxRecDepth 100000
/-- A function as a value. -/
abbrev fnV (k : FuncId) : Value := .func (Fn.func k) #[] #[]
theorem run_store_nilFunc (P : Program) (w : World) (a : Addr) (m : Mode) : (store a .nilFunc m).run P w = stored P w a .nilFunc m := run_store P w a _ m rfl
theorem run_store_func (P : Program) (w : World) (a : Addr) (m : Mode) (fn : Fn) (fi ca : Array Value) : (store a (.func fn fi ca) m).run P w = stored P w a (.func fn fi ca) m := run_store P w a _ m rfl
attribute [local go_sem] run_store_func run_store_nilFunc
/-- What the table holds of a kind. -/
def fnsOf (k : Int) : Array Value :=
  if k = 1 then #[fnV 46, fnV 47, fnV 48] else if k = 2 then #[fnV 49, fnV 50, fnV 51] else if k = 3 then #[fnV 52, fnV 53, fnV 54] else if k = 4 then #[fnV 55, fnV 56, fnV 57] else if k = 5 then #[fnV 58, fnV 59, fnV 60] else #[.nilFunc, .nilFunc, .nilFunc]
set_option maxHeartbeats 4000000 in
theorem layout_yes (k : Int) (w : World) (h : k = 1 ∨ k = 2 ∨ k = 3 ∨ k = 4 ∨ k = 5) : Calls Try.prog 32 #[.int .i64 k] w fun e w' => e = .returned (.tuple #[.agg (fnsOf k), .bool true]) ∧ Below w.heap.size w w' := by
  have HH := Lib.hid h; clear h
  go_enter Try.func32, Try.ntmps32
  go_upto_region 2 with (fail)
  rcases HH.out with rfl | rfl | rfl | rfl | rfl
  · go_wp2_with fail
    change bodyPost Try.prog _ _ Exit.ret _ _
    exact bodyPost_ret (v := .tuple #[.agg #[fnV 46, fnV 47, fnV 48], .bool true]) (by simp [results, Try.results32, go_sem]) rfl ⟨rfl, ((Below.refl _ w).alloc (Nat.le_refl _) _).alloc (by simp) _⟩
  · go_wp2_with fail
    change bodyPost Try.prog _ _ Exit.ret _ _
    exact bodyPost_ret (v := .tuple #[.agg #[fnV 49, fnV 50, fnV 51], .bool true]) (by simp [results, Try.results32, go_sem]) rfl ⟨rfl, ((Below.refl _ w).alloc (Nat.le_refl _) _).alloc (by simp) _⟩
  · go_wp2_with fail
    change bodyPost Try.prog _ _ Exit.ret _ _
    exact bodyPost_ret (v := .tuple #[.agg #[fnV 52, fnV 53, fnV 54], .bool true]) (by simp [results, Try.results32, go_sem]) rfl ⟨rfl, ((Below.refl _ w).alloc (Nat.le_refl _) _).alloc (by simp) _⟩
  · go_wp2_with fail
    change bodyPost Try.prog _ _ Exit.ret _ _
    exact bodyPost_ret (v := .tuple #[.agg #[fnV 55, fnV 56, fnV 57], .bool true]) (by simp [results, Try.results32, go_sem]) rfl ⟨rfl, ((Below.refl _ w).alloc (Nat.le_refl _) _).alloc (by simp) _⟩
  · go_wp2_with fail
    change bodyPost Try.prog _ _ Exit.ret _ _
    exact bodyPost_ret (v := .tuple #[.agg #[fnV 58, fnV 59, fnV 60], .bool true]) (by simp [results, Try.results32, go_sem]) rfl ⟨rfl, ((Below.refl _ w).alloc (Nat.le_refl _) _).alloc (by simp) _⟩
set_option maxHeartbeats 4000000 in
theorem layout_no (k : Int) (w : World) (h : ¬ (1 ≤ k ∧ k ≤ 5)) : Calls Try.prog 32 #[.int .i64 k] w fun e w' => e = .returned (.tuple #[.agg #[.nilFunc, .nilFunc, .nilFunc], .bool false]) ∧ Below w.heap.size w w' := by
  have HH := Lib.hid h; clear h
  go_enter Try.func32, Try.ntmps32
  go_upto_region 2 with (fail)
  rcases (show k < 1 ∨ (¬ k < 1 ∧ 5 < k) by have := HH.out; omega) with h1 | ⟨h1, h5⟩
  all_goals
    go_wp2_with fail
    change bodyPost Try.prog _ _ Exit.ret _ _
    exact bodyPost_ret (v := .tuple #[.agg #[.nilFunc, .nilFunc, .nilFunc], .bool false]) (by simp [results, Try.results32, go_sem]) rfl ⟨rfl, ((Below.refl _ w).alloc (Nat.le_refl _) _).alloc (by simp) _⟩
theorem layout_ask (w : World) : Calls Try.prog 32 #[.int .i64 1] w fun e w' => e = .returned (.tuple #[.agg #[fnV 46, fnV 47, fnV 48], .bool true]) ∧ Below w.heap.size w w' := layout_yes 1 w (by decide)
theorem layout_reply (w : World) : Calls Try.prog 32 #[.int .i64 2] w fun e w' => e = .returned (.tuple #[.agg #[fnV 49, fnV 50, fnV 51], .bool true]) ∧ Below w.heap.size w w' := layout_yes 2 w (by decide)
theorem layout_recall (w : World) : Calls Try.prog 32 #[.int .i64 3] w fun e w' => e = .returned (.tuple #[.agg #[fnV 52, fnV 53, fnV 54], .bool true]) ∧ Below w.heap.size w w' := layout_yes 3 w (by decide)
theorem layout_done (w : World) : Calls Try.prog 32 #[.int .i64 4] w fun e w' => e = .returned (.tuple #[.agg #[fnV 55, fnV 56, fnV 57], .bool true]) ∧ Below w.heap.size w w' := layout_yes 4 w (by decide)
theorem layout_op (w : World) : Calls Try.prog 32 #[.int .i64 5] w fun e w' => e = .returned (.tuple #[.agg #[fnV 58, fnV 59, fnV 60], .bool true]) ∧ Below w.heap.size w w' := layout_yes 5 w (by decide)
end Go.Proofs.Ytbjemihcbbiiaaa
