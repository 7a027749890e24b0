/- May an Ask be: the package's question of layer 6, at a message without a stamp. -/
import Derived.Test.YtnacchldecjcaaaWireV1
import Derived.Test.YtnacchldecjcaaaCaMem
namespace Go.Proofs.Ytnacchldecjcaaa
open Go.RowKit
open CA (Cl St)
open WM (Msg)
set_option linter.unusedVariables false
theorem in0' : In64 0 := by unfold In64; omega
theorem ask_fit {x : Cl} (hx : ClW x) {frm boot seq low : Int} (h1 : In64 frm) (h2 : In64 boot) (h3 : In64 seq) (h4 : In64 low) : Wide (CA.askM x frm boot seq low) :=
  ⟨(show In64 1 by unfold In64; omega), h1, hx.dst, h2, h3, h4, hx.verb, hx.mode, hx.term, hx.id, in0', in0', in0', (by intro y hy; cases hy), hx.path⟩
theorem Valid_ask {x : Cl} (hx : ClW x) {frm boot seq low : Int} (h1 : In64 frm) (h2 : In64 boot) (h3 : In64 seq) (h4 : In64 low) (w : World) :
    Calls Try.prog 16 #[.agg (cellsM (CA.askM x frm boot seq low) (.slice none 0 0))] w fun e w' => e = .returned (.bool (WM.valid (CA.askM x frm boot seq low))) ∧ Below w.heap.size w w' :=
  WValid_ask none 0 (CA.askM x frm boot seq low) w ⟨ask_fit hx h1 h2 h3 h4, IntsAt.nil _ _, (by intro ad e; cases e), Nat.le_refl _, by omega⟩ rfl
end Go.Proofs.Ytnacchldecjcaaa
