/- What bytes would be, if they are a message's: the package's call of layer 6. -/
import Derived.Test.YtbjemihcbbiiaaaWireQa
import Derived.Test.YtbjemihcbbiiaaaWireQb
namespace Go.Proofs.Ytbjemihcbbiiaaa
open Go.RowKit
open Oct (RAt BytesAt)
open WM (Msg)
set_option linter.unusedVariables false
set_option maxRecDepth 100000
attribute [local go_sem] run_store_func run_store_nilFunc
theorem taken_any (A : Option Addr) (c : Nat) (xs : List UInt8) (w : World) (h : BytesAt w A xs) (hl : xs.length ≤ 140737488355328) :
    Calls Try.prog 35 #[.slice A xs.length c] w fun e w' => ∃ sv, e = .returned (.agg (cellsM (WM.taken 4 xs) sv)) ∧ Hid (w'.ownsRow w.heap.size 3 1 sv (WM.taken 4 xs).stamp.length (i64s (WM.taken 4 xs).stamp)) ∧ Below w.heap.size w w' := by
  by_cases h1 : (headM xs).kind = 1
  · exact taken_a A c xs w h hl h1
  by_cases h2 : (headM xs).kind = 2
  · exact taken_b A c xs w h hl h2
  by_cases h3 : (headM xs).kind = 3
  · exact taken_c A c xs w h hl h3
  by_cases h4 : (headM xs).kind = 4
  · exact taken_d A c xs w h hl h4
  by_cases h5 : (headM xs).kind = 5
  · exact taken_e A c xs w h hl h5
  exact taken_f A c xs w h hl (by omega)
end Go.Proofs.Ytbjemihcbbiiaaa
