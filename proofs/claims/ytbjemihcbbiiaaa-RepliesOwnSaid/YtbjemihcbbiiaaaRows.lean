/-
  No cell of these rows narrows 'for every input' (looked for: loops, veiled, ifaces, maps, wideKeys, modest, calm, conditions, laid).
  DERIVED. THE GIVEN ROWS OF THIS SEAT. 5 by the template 'for every input the law returns true; each argument reads behind the call as it read before'; 0 by the template 'total and deterministic' (their statements: YtbjemihcbbiiaaaTotals.lean).
  GIVEN WITH THE SEED: the statements are not yours to turn. If you find one false, say at which input.
  Laid BY PROGRAM, IN A SANDBOX (cutbox-rows.mjs): the forced cells as the released guide's own fill.sh prints them over the translation f523835c6517b964… (all of the seat's roots in one cut). By AI agents, Wed Nov 11 2026. No macro, syntax, notation, axiom, sorry.
-/
import Derived.Test.YtbjemihcbbiiaaaChecked
import GoSem.Claim
import GoSem.ClaimJoined
import GoSem.ClaimMapViews
import Derived.JoinedTies
import Derived.KernelRfl
namespace Go.Proofs.Ytbjemihcbbiiaaa
/- THE CELL 'sum', in the pinned program and in every row, IS THE sha256 OF THE DUMP (.gsa) THAT YtbjemihcbbiiaaaProg.lean LOADS. Nothing in Lean hashes anything: it is a label: what it is worth is what the hold of that sum in a sandbox is worth. -/
noncomputable def Try.pinned : Pinned := { name := "ytbjemihcbbiiaaa", sum := "f523835c6517b964164d32eead5900b85cebeddc87486f8f8cd1607ac6cd730b", checked := Try.checked }
namespace Rows
def none {H : Type} : Left H := { results := [], args := [] }

/-- 'subletlaw15.RepliesNames': WHATEVER THE INPUT: true; the input reads as it did. -/
def repliesNamesSpec : ChangeSpec := { name := "repliesNames", fn := fun _ => fun
  | [] => { results := [.lit (.bool true)], args := [] }
  | _ => none }
def repliesNamesRow : OpenClaim := { program := "ytbjemihcbbiiaaa", sum := "f523835c6517b964164d32eead5900b85cebeddc87486f8f8cd1607ac6cd730b", func := "sublet/subletlaw15.RepliesNames", spec := "repliesNames", unfollowed := true, recurses := true, apart := false }
def RepliesNamesSaid : Prop := repliesNamesRow.holds Try.pinned (OpenSpec.ofChange repliesNamesSpec)

/-- ITS FALSE NEIGHBOUR: 'it returns false'. Refute it at one input. -/
def repliesNamesWrong : ChangeSpec := { name := "repliesNames", fn := fun _ => fun
  | [] => { results := [.lit (.bool false)], args := [] }
  | _ => none }
def RepliesNamesWrongFalsely : Prop := repliesNamesRow.holds Try.pinned (OpenSpec.ofChange repliesNamesWrong)

/-- 'subletlaw15.RepliesPlays': WHATEVER THE INPUT: true; the input reads as it did. -/
def repliesPlaysSpec : ChangeSpec := { name := "repliesPlays", fn := fun _ => fun
  | [d] => { results := [.lit (.bool true)], args := [d] }
  | _ => none }
def repliesPlaysRow : OpenClaim := { program := "ytbjemihcbbiiaaa", sum := "f523835c6517b964164d32eead5900b85cebeddc87486f8f8cd1607ac6cd730b", func := "sublet/subletlaw15.RepliesPlays", spec := "repliesPlays", unfollowed := true, recurses := true, apart := false }
def RepliesPlaysSaid : Prop := repliesPlaysRow.holds Try.pinned (OpenSpec.ofChange repliesPlaysSpec)

/-- ITS FALSE NEIGHBOUR: 'it returns false'. Refute it at one input. -/
def repliesPlaysWrong : ChangeSpec := { name := "repliesPlays", fn := fun _ => fun
  | [d] => { results := [.lit (.bool false)], args := [d] }
  | _ => none }
def RepliesPlaysWrongFalsely : Prop := repliesPlaysRow.holds Try.pinned (OpenSpec.ofChange repliesPlaysWrong)

/-- 'subletlaw15.RepliesOnce': WHATEVER THE INPUT: true; the input reads as it did. -/
def repliesOnceSpec : ChangeSpec := { name := "repliesOnce", fn := fun _ => fun
  | [d] => { results := [.lit (.bool true)], args := [d] }
  | _ => none }
def repliesOnceRow : OpenClaim := { program := "ytbjemihcbbiiaaa", sum := "f523835c6517b964164d32eead5900b85cebeddc87486f8f8cd1607ac6cd730b", func := "sublet/subletlaw15.RepliesOnce", spec := "repliesOnce", unfollowed := true, recurses := true, apart := false }
def RepliesOnceSaid : Prop := repliesOnceRow.holds Try.pinned (OpenSpec.ofChange repliesOnceSpec)

/-- ITS FALSE NEIGHBOUR: 'it returns false'. Refute it at one input. -/
def repliesOnceWrong : ChangeSpec := { name := "repliesOnce", fn := fun _ => fun
  | [d] => { results := [.lit (.bool false)], args := [d] }
  | _ => none }
def RepliesOnceWrongFalsely : Prop := repliesOnceRow.holds Try.pinned (OpenSpec.ofChange repliesOnceWrong)

/-- 'subletlaw15.RepliesFresh': WHATEVER THE INPUT: true; the input reads as it did. -/
def repliesFreshSpec : ChangeSpec := { name := "repliesFresh", fn := fun _ => fun
  | [d1, d2, d3] => { results := [.lit (.bool true)], args := [d1, d2, d3] }
  | _ => none }
def repliesFreshRow : OpenClaim := { program := "ytbjemihcbbiiaaa", sum := "f523835c6517b964164d32eead5900b85cebeddc87486f8f8cd1607ac6cd730b", func := "sublet/subletlaw15.RepliesFresh", spec := "repliesFresh", unfollowed := true, recurses := true, apart := false }
def RepliesFreshSaid : Prop := repliesFreshRow.holds Try.pinned (OpenSpec.ofChange repliesFreshSpec)

/-- ITS FALSE NEIGHBOUR: 'it returns false'. Refute it at one input. -/
def repliesFreshWrong : ChangeSpec := { name := "repliesFresh", fn := fun _ => fun
  | [d1, d2, d3] => { results := [.lit (.bool false)], args := [d1, d2, d3] }
  | _ => none }
def RepliesFreshWrongFalsely : Prop := repliesFreshRow.holds Try.pinned (OpenSpec.ofChange repliesFreshWrong)

/-- 'subletlaw15.RepliesOwn': WHATEVER THE INPUT: true; the input reads as it did. -/
def repliesOwnSpec : ChangeSpec := { name := "repliesOwn", fn := fun _ => fun
  | [d1, d2] => { results := [.lit (.bool true)], args := [d1, d2] }
  | _ => none }
def repliesOwnRow : OpenClaim := { program := "ytbjemihcbbiiaaa", sum := "f523835c6517b964164d32eead5900b85cebeddc87486f8f8cd1607ac6cd730b", func := "sublet/subletlaw15.RepliesOwn", spec := "repliesOwn", unfollowed := true, recurses := true, apart := false }
def RepliesOwnSaid : Prop := repliesOwnRow.holds Try.pinned (OpenSpec.ofChange repliesOwnSpec)

/-- ITS FALSE NEIGHBOUR: 'it returns false'. Refute it at one input. -/
def repliesOwnWrong : ChangeSpec := { name := "repliesOwn", fn := fun _ => fun
  | [d1, d2] => { results := [.lit (.bool false)], args := [d1, d2] }
  | _ => none }
def RepliesOwnWrongFalsely : Prop := repliesOwnRow.holds Try.pinned (OpenSpec.ofChange repliesOwnWrong)

/- THE SECOND FORM. 'bulk': how many values and letters a reading holds, each counted each time it is reached (what is shared counts as often as it is met; a slice's spare places count too). A statement '..UptoSaid' is the law's where the arguments, and the package variables that the reading takes, are together of bulk at most 1048576: NARROWER than '..Said'. Prove '..Said' where nothing that the law and all that it calls make is longer than what came in: it says more and counts as full. Else prove '..UptoSaid'. A law counts once. -/
mutual
def uptoBulk {H : Type} : DataW H → Nat
  | .lit (.string bytes) => bytes.length + 1
  | .lit _ => 1
  | .nil => 1
  | .ptr d => uptoBulk d + 1
  | .slice elems spare => uptoBulkAll elems + uptoBulkAll spare + 1
  | .agg parts => uptoBulkAll parts + 1
  | .iface _ d => uptoBulk d + 1
  | .map entries => uptoBulkEntries entries + 1
  | .held _ => 1
def uptoBulkAll {H : Type} : List (DataW H) → Nat
  | [] => 0
  | d :: r => uptoBulk d + uptoBulkAll r
def uptoBulkEntries {H : Type} : List (Lit × DataW H) → Nat
  | [] => 0
  | x :: r => uptoBulkEntry x + uptoBulkEntries r
def uptoBulkEntry {H : Type} : Lit × DataW H → Nat
  | (.string bytes, d) => bytes.length + uptoBulk d + 1
  | (_, d) => uptoBulk d + 1
 end
def uptoSmall : (H : Type) → List (DataW H) → Bool := fun _ ds => decide (uptoBulkAll ds ≤ 1048576)
def OpenSpec.upto (s : _root_.Go.ChangeSpec) : _root_.Go.OpenSpec := { _root_.Go.OpenSpec.ofChange s with cond := some uptoSmall }

/-- 'subletlaw15.RepliesNames', WHERE WHAT IT READS IS OF BULK AT MOST 1048576: true; the input reads as it did. -/
def repliesNamesUptoRow : OpenClaim := { program := "ytbjemihcbbiiaaa", sum := "f523835c6517b964164d32eead5900b85cebeddc87486f8f8cd1607ac6cd730b", func := "sublet/subletlaw15.RepliesNames", spec := "repliesNames", unfollowed := true, recurses := true, apart := false, narrowed := true }
def RepliesNamesUptoSaid : Prop := repliesNamesUptoRow.holds Try.pinned (OpenSpec.upto repliesNamesSpec)

/-- 'subletlaw15.RepliesPlays', WHERE WHAT IT READS IS OF BULK AT MOST 1048576: true; the input reads as it did. -/
def repliesPlaysUptoRow : OpenClaim := { program := "ytbjemihcbbiiaaa", sum := "f523835c6517b964164d32eead5900b85cebeddc87486f8f8cd1607ac6cd730b", func := "sublet/subletlaw15.RepliesPlays", spec := "repliesPlays", unfollowed := true, recurses := true, apart := false, narrowed := true }
def RepliesPlaysUptoSaid : Prop := repliesPlaysUptoRow.holds Try.pinned (OpenSpec.upto repliesPlaysSpec)

/-- 'subletlaw15.RepliesOnce', WHERE WHAT IT READS IS OF BULK AT MOST 1048576: true; the input reads as it did. -/
def repliesOnceUptoRow : OpenClaim := { program := "ytbjemihcbbiiaaa", sum := "f523835c6517b964164d32eead5900b85cebeddc87486f8f8cd1607ac6cd730b", func := "sublet/subletlaw15.RepliesOnce", spec := "repliesOnce", unfollowed := true, recurses := true, apart := false, narrowed := true }
def RepliesOnceUptoSaid : Prop := repliesOnceUptoRow.holds Try.pinned (OpenSpec.upto repliesOnceSpec)

/-- 'subletlaw15.RepliesFresh', WHERE WHAT IT READS IS OF BULK AT MOST 1048576: true; the input reads as it did. -/
def repliesFreshUptoRow : OpenClaim := { program := "ytbjemihcbbiiaaa", sum := "f523835c6517b964164d32eead5900b85cebeddc87486f8f8cd1607ac6cd730b", func := "sublet/subletlaw15.RepliesFresh", spec := "repliesFresh", unfollowed := true, recurses := true, apart := false, narrowed := true }
def RepliesFreshUptoSaid : Prop := repliesFreshUptoRow.holds Try.pinned (OpenSpec.upto repliesFreshSpec)

/-- 'subletlaw15.RepliesOwn', WHERE WHAT IT READS IS OF BULK AT MOST 1048576: true; the input reads as it did. -/
def repliesOwnUptoRow : OpenClaim := { program := "ytbjemihcbbiiaaa", sum := "f523835c6517b964164d32eead5900b85cebeddc87486f8f8cd1607ac6cd730b", func := "sublet/subletlaw15.RepliesOwn", spec := "repliesOwn", unfollowed := true, recurses := true, apart := false, narrowed := true }
def RepliesOwnUptoSaid : Prop := repliesOwnUptoRow.holds Try.pinned (OpenSpec.upto repliesOwnSpec)

end Rows
end Go.Proofs.Ytbjemihcbbiiaaa
