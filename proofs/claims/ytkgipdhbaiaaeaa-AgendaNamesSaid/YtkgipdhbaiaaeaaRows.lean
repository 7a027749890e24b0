/-
  No cell of these rows narrows 'for every input' (looked for: loops, veiled, ifaces, maps, wideKeys, modest, calm, conditions, laid).
  DERIVED. THE GIVEN ROWS OF THIS SEAT. 5 by the template 'for every input the law returns true; each argument reads behind the call as it read before'; 0 by the template 'total and deterministic' (their statements: YtkgipdhbaiaaeaaTotals.lean).
  GIVEN WITH THE SEED: the statements are not yours to turn. If you find one false, say at which input.
  Laid BY PROGRAM, IN A SANDBOX (cutbox-rows.mjs): the forced cells as the released guide's own fill.sh prints them over the translation e574fc266330c0ef… (all of the seat's roots in one cut). By AI agents, Wed Nov 11 2026. No macro, syntax, notation, axiom, sorry.
-/
import Derived.Test.YtkgipdhbaiaaeaaChecked
import GoSem.Claim
import GoSem.ClaimJoined
import GoSem.ClaimMapViews
import Derived.JoinedTies
import Derived.KernelRfl
namespace Go.Proofs.Ytkgipdhbaiaaeaa
/- THE CELL 'sum', in the pinned program and in every row, IS THE sha256 OF THE DUMP (.gsa) THAT YtkgipdhbaiaaeaaProg.lean LOADS. Nothing in Lean hashes anything: it is a label: what it is worth is what the hold of that sum in a sandbox is worth. -/
noncomputable def Try.pinned : Pinned := { name := "ytkgipdhbaiaaeaa", sum := "e574fc266330c0effc23e0880ea30a8b7fae37a188995f5e84c7cbe739955697", checked := Try.checked }
namespace Rows
def none {H : Type} : Left H := { results := [], args := [] }

/-- 'subletlaw13.AgendaNames': WHATEVER THE INPUT: true; the input reads as it did. -/
def agendaNamesSpec : ChangeSpec := { name := "agendaNames", fn := fun _ => fun
  | [] => { results := [.lit (.bool true)], args := [] }
  | _ => none }
def agendaNamesRow : OpenClaim := { program := "ytkgipdhbaiaaeaa", sum := "e574fc266330c0effc23e0880ea30a8b7fae37a188995f5e84c7cbe739955697", func := "sublet/subletlaw13.AgendaNames", spec := "agendaNames", unfollowed := true, recurses := true, apart := false }
def AgendaNamesSaid : Prop := agendaNamesRow.holds Try.pinned (OpenSpec.ofChange agendaNamesSpec)

/-- ITS FALSE NEIGHBOUR: 'it returns false'. Refute it at one input. -/
def agendaNamesWrong : ChangeSpec := { name := "agendaNames", fn := fun _ => fun
  | [] => { results := [.lit (.bool false)], args := [] }
  | _ => none }
def AgendaNamesWrongFalsely : Prop := agendaNamesRow.holds Try.pinned (OpenSpec.ofChange agendaNamesWrong)

/-- 'subletlaw13.AgendaPlays': WHATEVER THE INPUT: true; the input reads as it did. -/
def agendaPlaysSpec : ChangeSpec := { name := "agendaPlays", fn := fun _ => fun
  | [d] => { results := [.lit (.bool true)], args := [d] }
  | _ => none }
def agendaPlaysRow : OpenClaim := { program := "ytkgipdhbaiaaeaa", sum := "e574fc266330c0effc23e0880ea30a8b7fae37a188995f5e84c7cbe739955697", func := "sublet/subletlaw13.AgendaPlays", spec := "agendaPlays", unfollowed := true, recurses := true, apart := false }
def AgendaPlaysSaid : Prop := agendaPlaysRow.holds Try.pinned (OpenSpec.ofChange agendaPlaysSpec)

/-- ITS FALSE NEIGHBOUR: 'it returns false'. Refute it at one input. -/
def agendaPlaysWrong : ChangeSpec := { name := "agendaPlays", fn := fun _ => fun
  | [d] => { results := [.lit (.bool false)], args := [d] }
  | _ => none }
def AgendaPlaysWrongFalsely : Prop := agendaPlaysRow.holds Try.pinned (OpenSpec.ofChange agendaPlaysWrong)

/-- 'subletlaw13.AgendaTakes': WHATEVER THE INPUT: true; the input reads as it did. -/
def agendaTakesSpec : ChangeSpec := { name := "agendaTakes", fn := fun _ => fun
  | [d1, d2] => { results := [.lit (.bool true)], args := [d1, d2] }
  | _ => none }
def agendaTakesRow : OpenClaim := { program := "ytkgipdhbaiaaeaa", sum := "e574fc266330c0effc23e0880ea30a8b7fae37a188995f5e84c7cbe739955697", func := "sublet/subletlaw13.AgendaTakes", spec := "agendaTakes", unfollowed := true, recurses := true, apart := false }
def AgendaTakesSaid : Prop := agendaTakesRow.holds Try.pinned (OpenSpec.ofChange agendaTakesSpec)

/-- ITS FALSE NEIGHBOUR: 'it returns false'. Refute it at one input. -/
def agendaTakesWrong : ChangeSpec := { name := "agendaTakes", fn := fun _ => fun
  | [d1, d2] => { results := [.lit (.bool false)], args := [d1, d2] }
  | _ => none }
def AgendaTakesWrongFalsely : Prop := agendaTakesRow.holds Try.pinned (OpenSpec.ofChange agendaTakesWrong)

/-- 'subletlaw13.AgendaTurned': WHATEVER THE INPUT: true; the input reads as it did. -/
def agendaTurnedSpec : ChangeSpec := { name := "agendaTurned", fn := fun _ => fun
  | [d1, d2] => { results := [.lit (.bool true)], args := [d1, d2] }
  | _ => none }
def agendaTurnedRow : OpenClaim := { program := "ytkgipdhbaiaaeaa", sum := "e574fc266330c0effc23e0880ea30a8b7fae37a188995f5e84c7cbe739955697", func := "sublet/subletlaw13.AgendaTurned", spec := "agendaTurned", unfollowed := true, recurses := true, apart := false }
def AgendaTurnedSaid : Prop := agendaTurnedRow.holds Try.pinned (OpenSpec.ofChange agendaTurnedSpec)

/-- ITS FALSE NEIGHBOUR: 'it returns false'. Refute it at one input. -/
def agendaTurnedWrong : ChangeSpec := { name := "agendaTurned", fn := fun _ => fun
  | [d1, d2] => { results := [.lit (.bool false)], args := [d1, d2] }
  | _ => none }
def AgendaTurnedWrongFalsely : Prop := agendaTurnedRow.holds Try.pinned (OpenSpec.ofChange agendaTurnedWrong)

/-- 'subletlaw13.AgendaOwn': WHATEVER THE INPUT: true; the input reads as it did. -/
def agendaOwnSpec : ChangeSpec := { name := "agendaOwn", fn := fun _ => fun
  | [d1, d2] => { results := [.lit (.bool true)], args := [d1, d2] }
  | _ => none }
def agendaOwnRow : OpenClaim := { program := "ytkgipdhbaiaaeaa", sum := "e574fc266330c0effc23e0880ea30a8b7fae37a188995f5e84c7cbe739955697", func := "sublet/subletlaw13.AgendaOwn", spec := "agendaOwn", unfollowed := true, recurses := true, apart := false }
def AgendaOwnSaid : Prop := agendaOwnRow.holds Try.pinned (OpenSpec.ofChange agendaOwnSpec)

/-- ITS FALSE NEIGHBOUR: 'it returns false'. Refute it at one input. -/
def agendaOwnWrong : ChangeSpec := { name := "agendaOwn", fn := fun _ => fun
  | [d1, d2] => { results := [.lit (.bool false)], args := [d1, d2] }
  | _ => none }
def AgendaOwnWrongFalsely : Prop := agendaOwnRow.holds Try.pinned (OpenSpec.ofChange agendaOwnWrong)

/- THE SECOND FORM. 'bulk': how many values and letters a reading holds, each counted each time it is reached (what is shared counts as often as it is met; a slice's spare places count too). A statement '..UptoSaid' is the law's where the arguments, and the package variables that the reading takes, are together of bulk at most 1048576: NARROWER than '..Said'. Prove '..Said' where nothing that the law and all that it calls make is longer than what came in: it says more and counts as full. Else prove '..UptoSaid'. A law counts once. -/
mutual
def uptoBulk {H : Type} : DataW H → Nat
  | .lit (.string bytes) => bytes.length + 1
  | .lit _ => 1
  | .nil => 1
  | .ptr d => uptoBulk d + 1
  | .slice elems spare => uptoBulkAll elems + uptoBulkAll spare + 1
  | .agg parts => uptoBulkAll parts + 1
  | .iface _ d => uptoBulk d + 1
  | .map entries => uptoBulkEntries entries + 1
  | .held _ => 1
def uptoBulkAll {H : Type} : List (DataW H) → Nat
  | [] => 0
  | d :: r => uptoBulk d + uptoBulkAll r
def uptoBulkEntries {H : Type} : List (Lit × DataW H) → Nat
  | [] => 0
  | x :: r => uptoBulkEntry x + uptoBulkEntries r
def uptoBulkEntry {H : Type} : Lit × DataW H → Nat
  | (.string bytes, d) => bytes.length + uptoBulk d + 1
  | (_, d) => uptoBulk d + 1
 end
def uptoSmall : (H : Type) → List (DataW H) → Bool := fun _ ds => decide (uptoBulkAll ds ≤ 1048576)
def OpenSpec.upto (s : _root_.Go.ChangeSpec) : _root_.Go.OpenSpec := { _root_.Go.OpenSpec.ofChange s with cond := some uptoSmall }

/-- 'subletlaw13.AgendaNames', WHERE WHAT IT READS IS OF BULK AT MOST 1048576: true; the input reads as it did. -/
def agendaNamesUptoRow : OpenClaim := { program := "ytkgipdhbaiaaeaa", sum := "e574fc266330c0effc23e0880ea30a8b7fae37a188995f5e84c7cbe739955697", func := "sublet/subletlaw13.AgendaNames", spec := "agendaNames", unfollowed := true, recurses := true, apart := false, narrowed := true }
def AgendaNamesUptoSaid : Prop := agendaNamesUptoRow.holds Try.pinned (OpenSpec.upto agendaNamesSpec)

/-- 'subletlaw13.AgendaPlays', WHERE WHAT IT READS IS OF BULK AT MOST 1048576: true; the input reads as it did. -/
def agendaPlaysUptoRow : OpenClaim := { program := "ytkgipdhbaiaaeaa", sum := "e574fc266330c0effc23e0880ea30a8b7fae37a188995f5e84c7cbe739955697", func := "sublet/subletlaw13.AgendaPlays", spec := "agendaPlays", unfollowed := true, recurses := true, apart := false, narrowed := true }
def AgendaPlaysUptoSaid : Prop := agendaPlaysUptoRow.holds Try.pinned (OpenSpec.upto agendaPlaysSpec)

/-- 'subletlaw13.AgendaTakes', WHERE WHAT IT READS IS OF BULK AT MOST 1048576: true; the input reads as it did. -/
def agendaTakesUptoRow : OpenClaim := { program := "ytkgipdhbaiaaeaa", sum := "e574fc266330c0effc23e0880ea30a8b7fae37a188995f5e84c7cbe739955697", func := "sublet/subletlaw13.AgendaTakes", spec := "agendaTakes", unfollowed := true, recurses := true, apart := false, narrowed := true }
def AgendaTakesUptoSaid : Prop := agendaTakesUptoRow.holds Try.pinned (OpenSpec.upto agendaTakesSpec)

/-- 'subletlaw13.AgendaTurned', WHERE WHAT IT READS IS OF BULK AT MOST 1048576: true; the input reads as it did. -/
def agendaTurnedUptoRow : OpenClaim := { program := "ytkgipdhbaiaaeaa", sum := "e574fc266330c0effc23e0880ea30a8b7fae37a188995f5e84c7cbe739955697", func := "sublet/subletlaw13.AgendaTurned", spec := "agendaTurned", unfollowed := true, recurses := true, apart := false, narrowed := true }
def AgendaTurnedUptoSaid : Prop := agendaTurnedUptoRow.holds Try.pinned (OpenSpec.upto agendaTurnedSpec)

/-- 'subletlaw13.AgendaOwn', WHERE WHAT IT READS IS OF BULK AT MOST 1048576: true; the input reads as it did. -/
def agendaOwnUptoRow : OpenClaim := { program := "ytkgipdhbaiaaeaa", sum := "e574fc266330c0effc23e0880ea30a8b7fae37a188995f5e84c7cbe739955697", func := "sublet/subletlaw13.AgendaOwn", spec := "agendaOwn", unfollowed := true, recurses := true, apart := false, narrowed := true }
def AgendaOwnUptoSaid : Prop := agendaOwnUptoRow.holds Try.pinned (OpenSpec.upto agendaOwnSpec)

end Rows
end Go.Proofs.Ytkgipdhbaiaaeaa
