/- May it be a message, its bytes, the message of bytes: the package's calls of layer 6. -/
import Derived.Test.YtbjemihcbbiiaaaWireW6
import Derived.Test.YtbjemihcbbiiaaaWireW7
import Derived.Test.YtbjemihcbbiiaaaWireW8x
import Derived.Test.YtbjemihcbbiiaaaWireSame
import Derived.Test.YtbjemihcbbiiaaaOctB
namespace Go.Proofs.Ytbjemihcbbiiaaa
open Go.RowKit
open Oct (BytesAt)
open WM (Msg)
set_option linter.unusedVariables false
set_option maxRecDepth 100000
attribute [local go_sem] run_store_func run_store_nilFunc
/-- A message's cells lie in a world: its stamp reads so. -/
structure Fit (w : World) (A : Option Addr) (c : Nat) (m : Msg) : Prop where
  wide : Wide m
  ints : IntsAt w A m.stamp
  lt : ∀ ad, A = some ad → ad.block < w.heap.size
  le : m.stamp.length ≤ c
  cap : c ≤ 9223372036854775807
theorem Fit.below {w w' : World} {A : Option Addr} {c : Nat} {m : Msg} (h : Fit w A c m) (hb : Below w.heap.size w w') : Fit w' A c m :=
  ⟨h.wide, h.ints.below hb, fun ad e => Nat.lt_of_lt_of_le (h.lt ad e) hb.size, h.le, h.cap⟩
theorem laid_may (A : Option Addr) (c : Nat) (m : Msg) (w : World) (h : Fit w A c m) (hm : WM.may m = true) :
    Calls Try.prog 36 #[.agg (cellsM m (.slice A m.stamp.length c))] w (Oct.Fresh w (WM.body m)) := by
  have hlen : (WM.body m).length ≤ 140737488355328 := by have := WM.body_len hm; omega
  rcases WM.may_kind hm with hk | hk | hk | hk | hk
  · exact laid_ask A c m w h.wide h.ints h.lt h.le h.cap hlen hk
  · exact laid_reply A c m w h.wide h.ints h.lt h.le h.cap hlen hk
  · exact laid_recall A c m w h.wide h.ints h.lt h.le h.cap hlen hk
  · exact laid_done A c m w h.wide h.ints h.lt h.le h.cap hlen hk
  · exact laid_op A c m w h.wide h.ints h.lt h.le h.cap hlen hk
/-- What a message is that comes back as it went. -/
theorem valid_same {m : Msg} (h : WM.may m = true) : decide (m = WM.taken 4 (WM.body m)) = WM.valid m := by
  have e := WM.taken_body 4 [] h (Nat.le_refl _)
  rw [List.append_nil] at e
  unfold WM.valid
  rw [h, e, Bool.true_and, Bool.eq_iff_iff]
  simp only [decide_eq_true_eq]
  exact eq_comm
theorem valid_may {m : Msg} (h : WM.may m = false) : WM.valid m = false := by unfold WM.valid; rw [h]; rfl
theorem blk_below {w w' : World} {g : Nat} {t : TypeId} {cs : Array Value} (h : Whole w g t cs) (hb : Below w.heap.size w w') : Whole w' g t cs := (Mod.of_below hb []).whole h (by simp)
end Go.Proofs.Ytbjemihcbbiiaaa
