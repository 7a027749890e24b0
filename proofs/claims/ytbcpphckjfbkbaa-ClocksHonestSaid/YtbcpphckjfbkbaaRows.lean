/-
  No cell of these rows narrows 'for every input' (looked for: loops, veiled, ifaces, maps, wideKeys, modest, calm, conditions, laid).
  DERIVED. THE GIVEN ROWS OF THIS SEAT. 5 by the template 'for every input the law returns true; each argument reads behind the call as it read before'; 0 by the template 'total and deterministic' (their statements: YtbcpphckjfbkbaaTotals.lean).
  GIVEN WITH THE SEED: the statements are not yours to turn. If you find one false, say at which input.
  Laid BY PROGRAM, IN A SANDBOX (cutbox-rows.mjs): the forced cells as the released guide's own fill.sh prints them over the translation 0699621c0b427800… (all of the seat's roots in one cut). By AI agents, Wed Nov 11 2026. No macro, syntax, notation, axiom, sorry.
-/
import Derived.Test.YtbcpphckjfbkbaaChecked
import GoSem.Claim
import GoSem.ClaimJoined
import GoSem.ClaimMapViews
import Derived.JoinedTies
import Derived.KernelRfl
namespace Go.Proofs.Ytbcpphckjfbkbaa
/- THE CELL 'sum', in the pinned program and in every row, IS THE sha256 OF THE DUMP (.gsa) THAT YtbcpphckjfbkbaaProg.lean LOADS. Nothing in Lean hashes anything: it is a label: what it is worth is what the hold of that sum in a sandbox is worth. -/
noncomputable def Try.pinned : Pinned := { name := "ytbcpphckjfbkbaa", sum := "0699621c0b427800aea584f66d659a8026d97ab9b4105c3703cbf019d6fd0dbd", checked := Try.checked }
namespace Rows
def none {H : Type} : Left H := { results := [], args := [] }

/-- 'subletlaw08.ClocksNames': WHATEVER THE INPUT: true; the input reads as it did. -/
def clocksNamesSpec : ChangeSpec := { name := "clocksNames", fn := fun _ => fun
  | [] => { results := [.lit (.bool true)], args := [] }
  | _ => none }
def clocksNamesRow : OpenClaim := { program := "ytbcpphckjfbkbaa", sum := "0699621c0b427800aea584f66d659a8026d97ab9b4105c3703cbf019d6fd0dbd", func := "sublet/subletlaw08.ClocksNames", spec := "clocksNames", unfollowed := true, recurses := true, apart := false }
def ClocksNamesSaid : Prop := clocksNamesRow.holds Try.pinned (OpenSpec.ofChange clocksNamesSpec)

/-- ITS FALSE NEIGHBOUR: 'it returns false'. Refute it at one input. -/
def clocksNamesWrong : ChangeSpec := { name := "clocksNames", fn := fun _ => fun
  | [] => { results := [.lit (.bool false)], args := [] }
  | _ => none }
def ClocksNamesWrongFalsely : Prop := clocksNamesRow.holds Try.pinned (OpenSpec.ofChange clocksNamesWrong)

/-- 'subletlaw08.ClocksPlays': WHATEVER THE INPUT: true; the input reads as it did. -/
def clocksPlaysSpec : ChangeSpec := { name := "clocksPlays", fn := fun _ => fun
  | [d1, d2, d3] => { results := [.lit (.bool true)], args := [d1, d2, d3] }
  | _ => none }
def clocksPlaysRow : OpenClaim := { program := "ytbcpphckjfbkbaa", sum := "0699621c0b427800aea584f66d659a8026d97ab9b4105c3703cbf019d6fd0dbd", func := "sublet/subletlaw08.ClocksPlays", spec := "clocksPlays", unfollowed := true, recurses := true, apart := false }
def ClocksPlaysSaid : Prop := clocksPlaysRow.holds Try.pinned (OpenSpec.ofChange clocksPlaysSpec)

/-- ITS FALSE NEIGHBOUR: 'it returns false'. Refute it at one input. -/
def clocksPlaysWrong : ChangeSpec := { name := "clocksPlays", fn := fun _ => fun
  | [d1, d2, d3] => { results := [.lit (.bool false)], args := [d1, d2, d3] }
  | _ => none }
def ClocksPlaysWrongFalsely : Prop := clocksPlaysRow.holds Try.pinned (OpenSpec.ofChange clocksPlaysWrong)

/-- 'subletlaw08.ClocksForth': WHATEVER THE INPUT: true; the input reads as it did. -/
def clocksForthSpec : ChangeSpec := { name := "clocksForth", fn := fun _ => fun
  | [d1, d2] => { results := [.lit (.bool true)], args := [d1, d2] }
  | _ => none }
def clocksForthRow : OpenClaim := { program := "ytbcpphckjfbkbaa", sum := "0699621c0b427800aea584f66d659a8026d97ab9b4105c3703cbf019d6fd0dbd", func := "sublet/subletlaw08.ClocksForth", spec := "clocksForth", unfollowed := true, recurses := true, apart := false }
def ClocksForthSaid : Prop := clocksForthRow.holds Try.pinned (OpenSpec.ofChange clocksForthSpec)

/-- ITS FALSE NEIGHBOUR: 'it returns false'. Refute it at one input. -/
def clocksForthWrong : ChangeSpec := { name := "clocksForth", fn := fun _ => fun
  | [d1, d2] => { results := [.lit (.bool false)], args := [d1, d2] }
  | _ => none }
def ClocksForthWrongFalsely : Prop := clocksForthRow.holds Try.pinned (OpenSpec.ofChange clocksForthWrong)

/-- 'subletlaw08.ClocksHonest': WHATEVER THE INPUT: true; the input reads as it did. -/
def clocksHonestSpec : ChangeSpec := { name := "clocksHonest", fn := fun _ => fun
  | [d1, d2, d3] => { results := [.lit (.bool true)], args := [d1, d2, d3] }
  | _ => none }
def clocksHonestRow : OpenClaim := { program := "ytbcpphckjfbkbaa", sum := "0699621c0b427800aea584f66d659a8026d97ab9b4105c3703cbf019d6fd0dbd", func := "sublet/subletlaw08.ClocksHonest", spec := "clocksHonest", unfollowed := true, recurses := true, apart := false }
def ClocksHonestSaid : Prop := clocksHonestRow.holds Try.pinned (OpenSpec.ofChange clocksHonestSpec)

/-- ITS FALSE NEIGHBOUR: 'it returns false'. Refute it at one input. -/
def clocksHonestWrong : ChangeSpec := { name := "clocksHonest", fn := fun _ => fun
  | [d1, d2, d3] => { results := [.lit (.bool false)], args := [d1, d2, d3] }
  | _ => none }
def ClocksHonestWrongFalsely : Prop := clocksHonestRow.holds Try.pinned (OpenSpec.ofChange clocksHonestWrong)

/-- 'subletlaw08.ClocksOwn': WHATEVER THE INPUT: true; the input reads as it did. -/
def clocksOwnSpec : ChangeSpec := { name := "clocksOwn", fn := fun _ => fun
  | [d1, d2, d3] => { results := [.lit (.bool true)], args := [d1, d2, d3] }
  | _ => none }
def clocksOwnRow : OpenClaim := { program := "ytbcpphckjfbkbaa", sum := "0699621c0b427800aea584f66d659a8026d97ab9b4105c3703cbf019d6fd0dbd", func := "sublet/subletlaw08.ClocksOwn", spec := "clocksOwn", unfollowed := true, recurses := true, apart := false }
def ClocksOwnSaid : Prop := clocksOwnRow.holds Try.pinned (OpenSpec.ofChange clocksOwnSpec)

/-- ITS FALSE NEIGHBOUR: 'it returns false'. Refute it at one input. -/
def clocksOwnWrong : ChangeSpec := { name := "clocksOwn", fn := fun _ => fun
  | [d1, d2, d3] => { results := [.lit (.bool false)], args := [d1, d2, d3] }
  | _ => none }
def ClocksOwnWrongFalsely : Prop := clocksOwnRow.holds Try.pinned (OpenSpec.ofChange clocksOwnWrong)

/- THE SECOND FORM. 'bulk': how many values and letters a reading holds, each counted each time it is reached (what is shared counts as often as it is met; a slice's spare places count too). A statement '..UptoSaid' is the law's where the arguments, and the package variables that the reading takes, are together of bulk at most 1048576: NARROWER than '..Said'. Prove '..Said' where nothing that the law and all that it calls make is longer than what came in: it says more and counts as full. Else prove '..UptoSaid'. A law counts once. -/
mutual
def uptoBulk {H : Type} : DataW H → Nat
  | .lit (.string bytes) => bytes.length + 1
  | .lit _ => 1
  | .nil => 1
  | .ptr d => uptoBulk d + 1
  | .slice elems spare => uptoBulkAll elems + uptoBulkAll spare + 1
  | .agg parts => uptoBulkAll parts + 1
  | .iface _ d => uptoBulk d + 1
  | .map entries => uptoBulkEntries entries + 1
  | .held _ => 1
def uptoBulkAll {H : Type} : List (DataW H) → Nat
  | [] => 0
  | d :: r => uptoBulk d + uptoBulkAll r
def uptoBulkEntries {H : Type} : List (Lit × DataW H) → Nat
  | [] => 0
  | x :: r => uptoBulkEntry x + uptoBulkEntries r
def uptoBulkEntry {H : Type} : Lit × DataW H → Nat
  | (.string bytes, d) => bytes.length + uptoBulk d + 1
  | (_, d) => uptoBulk d + 1
 end
def uptoSmall : (H : Type) → List (DataW H) → Bool := fun _ ds => decide (uptoBulkAll ds ≤ 1048576)
def OpenSpec.upto (s : _root_.Go.ChangeSpec) : _root_.Go.OpenSpec := { _root_.Go.OpenSpec.ofChange s with cond := some uptoSmall }

/-- 'subletlaw08.ClocksNames', WHERE WHAT IT READS IS OF BULK AT MOST 1048576: true; the input reads as it did. -/
def clocksNamesUptoRow : OpenClaim := { program := "ytbcpphckjfbkbaa", sum := "0699621c0b427800aea584f66d659a8026d97ab9b4105c3703cbf019d6fd0dbd", func := "sublet/subletlaw08.ClocksNames", spec := "clocksNames", unfollowed := true, recurses := true, apart := false, narrowed := true }
def ClocksNamesUptoSaid : Prop := clocksNamesUptoRow.holds Try.pinned (OpenSpec.upto clocksNamesSpec)

/-- 'subletlaw08.ClocksPlays', WHERE WHAT IT READS IS OF BULK AT MOST 1048576: true; the input reads as it did. -/
def clocksPlaysUptoRow : OpenClaim := { program := "ytbcpphckjfbkbaa", sum := "0699621c0b427800aea584f66d659a8026d97ab9b4105c3703cbf019d6fd0dbd", func := "sublet/subletlaw08.ClocksPlays", spec := "clocksPlays", unfollowed := true, recurses := true, apart := false, narrowed := true }
def ClocksPlaysUptoSaid : Prop := clocksPlaysUptoRow.holds Try.pinned (OpenSpec.upto clocksPlaysSpec)

/-- 'subletlaw08.ClocksForth', WHERE WHAT IT READS IS OF BULK AT MOST 1048576: true; the input reads as it did. -/
def clocksForthUptoRow : OpenClaim := { program := "ytbcpphckjfbkbaa", sum := "0699621c0b427800aea584f66d659a8026d97ab9b4105c3703cbf019d6fd0dbd", func := "sublet/subletlaw08.ClocksForth", spec := "clocksForth", unfollowed := true, recurses := true, apart := false, narrowed := true }
def ClocksForthUptoSaid : Prop := clocksForthUptoRow.holds Try.pinned (OpenSpec.upto clocksForthSpec)

/-- 'subletlaw08.ClocksHonest', WHERE WHAT IT READS IS OF BULK AT MOST 1048576: true; the input reads as it did. -/
def clocksHonestUptoRow : OpenClaim := { program := "ytbcpphckjfbkbaa", sum := "0699621c0b427800aea584f66d659a8026d97ab9b4105c3703cbf019d6fd0dbd", func := "sublet/subletlaw08.ClocksHonest", spec := "clocksHonest", unfollowed := true, recurses := true, apart := false, narrowed := true }
def ClocksHonestUptoSaid : Prop := clocksHonestUptoRow.holds Try.pinned (OpenSpec.upto clocksHonestSpec)

/-- 'subletlaw08.ClocksOwn', WHERE WHAT IT READS IS OF BULK AT MOST 1048576: true; the input reads as it did. -/
def clocksOwnUptoRow : OpenClaim := { program := "ytbcpphckjfbkbaa", sum := "0699621c0b427800aea584f66d659a8026d97ab9b4105c3703cbf019d6fd0dbd", func := "sublet/subletlaw08.ClocksOwn", spec := "clocksOwn", unfollowed := true, recurses := true, apart := false, narrowed := true }
def ClocksOwnUptoSaid : Prop := clocksOwnUptoRow.holds Try.pinned (OpenSpec.upto clocksOwnSpec)

end Rows
end Go.Proofs.Ytbcpphckjfbkbaa
