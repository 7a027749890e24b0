/-
  No cell of these rows narrows 'for every input' (looked for: loops, veiled, ifaces, maps, wideKeys, modest, calm, conditions, laid).
  DERIVED. THE GIVEN ROWS OF THIS SEAT. 7 by the template 'for every input the law returns true; each argument reads behind the call as it read before'; 0 by the template 'total and deterministic' (their statements: YtjhiicnnonmcnaaTotals.lean).
  GIVEN WITH THE SEED: the statements are not yours to turn. If you find one false, say at which input.
  Laid BY PROGRAM, IN A SANDBOX (cutbox-rows.mjs): the forced cells as the released guide's own fill.sh prints them over the translation 02b83d49e5867bcf… (all of the seat's roots in one cut). By AI agents, Wed Nov 11 2026. No macro, syntax, notation, axiom, sorry.
-/
import Derived.Test.YtjhiicnnonmcnaaChecked
import GoSem.Claim
import GoSem.ClaimJoined
import GoSem.ClaimMapViews
import Derived.JoinedTies
import Derived.KernelRfl
namespace Go.Proofs.Ytjhiicnnonmcnaa
/- THE CELL 'sum', in the pinned program and in every row, IS THE sha256 OF THE DUMP (.gsa) THAT YtjhiicnnonmcnaaProg.lean LOADS. Nothing in Lean hashes anything: it is a label: what it is worth is what the hold of that sum in a sandbox is worth. -/
noncomputable def Try.pinned : Pinned := { name := "ytjhiicnnonmcnaa", sum := "02b83d49e5867bcf45e9b1243ab22dde2c44cd7093ba52c91f4e10e88d8cb0cc", checked := Try.checked }
namespace Rows
def none {H : Type} : Left H := { results := [], args := [] }

/-- 'subletlaw03.TermNames': WHATEVER THE INPUT: true; the input reads as it did. -/
def termNamesSpec : ChangeSpec := { name := "termNames", fn := fun _ => fun
  | [] => { results := [.lit (.bool true)], args := [] }
  | _ => none }
def termNamesRow : OpenClaim := { program := "ytjhiicnnonmcnaa", sum := "02b83d49e5867bcf45e9b1243ab22dde2c44cd7093ba52c91f4e10e88d8cb0cc", func := "sublet/subletlaw03.TermNames", spec := "termNames", unfollowed := true, recurses := true, apart := false }
def TermNamesSaid : Prop := termNamesRow.holds Try.pinned (OpenSpec.ofChange termNamesSpec)

/-- ITS FALSE NEIGHBOUR: 'it returns false'. Refute it at one input. -/
def termNamesWrong : ChangeSpec := { name := "termNames", fn := fun _ => fun
  | [] => { results := [.lit (.bool false)], args := [] }
  | _ => none }
def TermNamesWrongFalsely : Prop := termNamesRow.holds Try.pinned (OpenSpec.ofChange termNamesWrong)

/-- 'subletlaw03.TermSums': WHATEVER THE INPUT: true; the input reads as it did. -/
def termSumsSpec : ChangeSpec := { name := "termSums", fn := fun _ => fun
  | [d1, d2] => { results := [.lit (.bool true)], args := [d1, d2] }
  | _ => none }
def termSumsRow : OpenClaim := { program := "ytjhiicnnonmcnaa", sum := "02b83d49e5867bcf45e9b1243ab22dde2c44cd7093ba52c91f4e10e88d8cb0cc", func := "sublet/subletlaw03.TermSums", spec := "termSums", unfollowed := true, recurses := true, apart := false }
def TermSumsSaid : Prop := termSumsRow.holds Try.pinned (OpenSpec.ofChange termSumsSpec)

/-- ITS FALSE NEIGHBOUR: 'it returns false'. Refute it at one input. -/
def termSumsWrong : ChangeSpec := { name := "termSums", fn := fun _ => fun
  | [d1, d2] => { results := [.lit (.bool false)], args := [d1, d2] }
  | _ => none }
def TermSumsWrongFalsely : Prop := termSumsRow.holds Try.pinned (OpenSpec.ofChange termSumsWrong)

/-- 'subletlaw03.TermShrinks': WHATEVER THE INPUT: true; the input reads as it did. -/
def termShrinksSpec : ChangeSpec := { name := "termShrinks", fn := fun _ => fun
  | [d1, d2] => { results := [.lit (.bool true)], args := [d1, d2] }
  | _ => none }
def termShrinksRow : OpenClaim := { program := "ytjhiicnnonmcnaa", sum := "02b83d49e5867bcf45e9b1243ab22dde2c44cd7093ba52c91f4e10e88d8cb0cc", func := "sublet/subletlaw03.TermShrinks", spec := "termShrinks", unfollowed := true, recurses := true, apart := false }
def TermShrinksSaid : Prop := termShrinksRow.holds Try.pinned (OpenSpec.ofChange termShrinksSpec)

/-- ITS FALSE NEIGHBOUR: 'it returns false'. Refute it at one input. -/
def termShrinksWrong : ChangeSpec := { name := "termShrinks", fn := fun _ => fun
  | [d1, d2] => { results := [.lit (.bool false)], args := [d1, d2] }
  | _ => none }
def TermShrinksWrongFalsely : Prop := termShrinksRow.holds Try.pinned (OpenSpec.ofChange termShrinksWrong)

/-- 'subletlaw03.TermHonest': WHATEVER THE INPUT: true; the input reads as it did. -/
def termHonestSpec : ChangeSpec := { name := "termHonest", fn := fun _ => fun
  | [d1, d2, d3] => { results := [.lit (.bool true)], args := [d1, d2, d3] }
  | _ => none }
def termHonestRow : OpenClaim := { program := "ytjhiicnnonmcnaa", sum := "02b83d49e5867bcf45e9b1243ab22dde2c44cd7093ba52c91f4e10e88d8cb0cc", func := "sublet/subletlaw03.TermHonest", spec := "termHonest", unfollowed := true, recurses := true, apart := false }
def TermHonestSaid : Prop := termHonestRow.holds Try.pinned (OpenSpec.ofChange termHonestSpec)

/-- ITS FALSE NEIGHBOUR: 'it returns false'. Refute it at one input. -/
def termHonestWrong : ChangeSpec := { name := "termHonest", fn := fun _ => fun
  | [d1, d2, d3] => { results := [.lit (.bool false)], args := [d1, d2, d3] }
  | _ => none }
def TermHonestWrongFalsely : Prop := termHonestRow.holds Try.pinned (OpenSpec.ofChange termHonestWrong)

/-- 'subletlaw03.TermSafe': WHATEVER THE INPUT: true; the input reads as it did. -/
def termSafeSpec : ChangeSpec := { name := "termSafe", fn := fun _ => fun
  | [d1, d2, d3] => { results := [.lit (.bool true)], args := [d1, d2, d3] }
  | _ => none }
def termSafeRow : OpenClaim := { program := "ytjhiicnnonmcnaa", sum := "02b83d49e5867bcf45e9b1243ab22dde2c44cd7093ba52c91f4e10e88d8cb0cc", func := "sublet/subletlaw03.TermSafe", spec := "termSafe", unfollowed := true, recurses := true, apart := false }
def TermSafeSaid : Prop := termSafeRow.holds Try.pinned (OpenSpec.ofChange termSafeSpec)

/-- ITS FALSE NEIGHBOUR: 'it returns false'. Refute it at one input. -/
def termSafeWrong : ChangeSpec := { name := "termSafe", fn := fun _ => fun
  | [d1, d2, d3] => { results := [.lit (.bool false)], args := [d1, d2, d3] }
  | _ => none }
def TermSafeWrongFalsely : Prop := termSafeRow.holds Try.pinned (OpenSpec.ofChange termSafeWrong)

/-- 'subletlaw03.TermSpans': WHATEVER THE INPUT: true; the input reads as it did. -/
def termSpansSpec : ChangeSpec := { name := "termSpans", fn := fun _ => fun
  | [d1, d2] => { results := [.lit (.bool true)], args := [d1, d2] }
  | _ => none }
def termSpansRow : OpenClaim := { program := "ytjhiicnnonmcnaa", sum := "02b83d49e5867bcf45e9b1243ab22dde2c44cd7093ba52c91f4e10e88d8cb0cc", func := "sublet/subletlaw03.TermSpans", spec := "termSpans", unfollowed := true, recurses := true, apart := false }
def TermSpansSaid : Prop := termSpansRow.holds Try.pinned (OpenSpec.ofChange termSpansSpec)

/-- ITS FALSE NEIGHBOUR: 'it returns false'. Refute it at one input. -/
def termSpansWrong : ChangeSpec := { name := "termSpans", fn := fun _ => fun
  | [d1, d2] => { results := [.lit (.bool false)], args := [d1, d2] }
  | _ => none }
def TermSpansWrongFalsely : Prop := termSpansRow.holds Try.pinned (OpenSpec.ofChange termSpansWrong)

/-- 'subletlaw03.TermRises': WHATEVER THE INPUT: true; the input reads as it did. -/
def termRisesSpec : ChangeSpec := { name := "termRises", fn := fun _ => fun
  | [d1, d2, d3] => { results := [.lit (.bool true)], args := [d1, d2, d3] }
  | _ => none }
def termRisesRow : OpenClaim := { program := "ytjhiicnnonmcnaa", sum := "02b83d49e5867bcf45e9b1243ab22dde2c44cd7093ba52c91f4e10e88d8cb0cc", func := "sublet/subletlaw03.TermRises", spec := "termRises", unfollowed := true, recurses := true, apart := false }
def TermRisesSaid : Prop := termRisesRow.holds Try.pinned (OpenSpec.ofChange termRisesSpec)

/-- ITS FALSE NEIGHBOUR: 'it returns false'. Refute it at one input. -/
def termRisesWrong : ChangeSpec := { name := "termRises", fn := fun _ => fun
  | [d1, d2, d3] => { results := [.lit (.bool false)], args := [d1, d2, d3] }
  | _ => none }
def TermRisesWrongFalsely : Prop := termRisesRow.holds Try.pinned (OpenSpec.ofChange termRisesWrong)

/- THE SECOND FORM. 'bulk': how many values and letters a reading holds, each counted each time it is reached (what is shared counts as often as it is met; a slice's spare places count too). A statement '..UptoSaid' is the law's where the arguments, and the package variables that the reading takes, are together of bulk at most 1048576: NARROWER than '..Said'. Prove '..Said' where nothing that the law and all that it calls make is longer than what came in: it says more and counts as full. Else prove '..UptoSaid'. A law counts once. -/
mutual
def uptoBulk {H : Type} : DataW H → Nat
  | .lit (.string bytes) => bytes.length + 1
  | .lit _ => 1
  | .nil => 1
  | .ptr d => uptoBulk d + 1
  | .slice elems spare => uptoBulkAll elems + uptoBulkAll spare + 1
  | .agg parts => uptoBulkAll parts + 1
  | .iface _ d => uptoBulk d + 1
  | .map entries => uptoBulkEntries entries + 1
  | .held _ => 1
def uptoBulkAll {H : Type} : List (DataW H) → Nat
  | [] => 0
  | d :: r => uptoBulk d + uptoBulkAll r
def uptoBulkEntries {H : Type} : List (Lit × DataW H) → Nat
  | [] => 0
  | x :: r => uptoBulkEntry x + uptoBulkEntries r
def uptoBulkEntry {H : Type} : Lit × DataW H → Nat
  | (.string bytes, d) => bytes.length + uptoBulk d + 1
  | (_, d) => uptoBulk d + 1
 end
def uptoSmall : (H : Type) → List (DataW H) → Bool := fun _ ds => decide (uptoBulkAll ds ≤ 1048576)
def OpenSpec.upto (s : _root_.Go.ChangeSpec) : _root_.Go.OpenSpec := { _root_.Go.OpenSpec.ofChange s with cond := some uptoSmall }

/-- 'subletlaw03.TermNames', WHERE WHAT IT READS IS OF BULK AT MOST 1048576: true; the input reads as it did. -/
def termNamesUptoRow : OpenClaim := { program := "ytjhiicnnonmcnaa", sum := "02b83d49e5867bcf45e9b1243ab22dde2c44cd7093ba52c91f4e10e88d8cb0cc", func := "sublet/subletlaw03.TermNames", spec := "termNames", unfollowed := true, recurses := true, apart := false, narrowed := true }
def TermNamesUptoSaid : Prop := termNamesUptoRow.holds Try.pinned (OpenSpec.upto termNamesSpec)

/-- 'subletlaw03.TermSums', WHERE WHAT IT READS IS OF BULK AT MOST 1048576: true; the input reads as it did. -/
def termSumsUptoRow : OpenClaim := { program := "ytjhiicnnonmcnaa", sum := "02b83d49e5867bcf45e9b1243ab22dde2c44cd7093ba52c91f4e10e88d8cb0cc", func := "sublet/subletlaw03.TermSums", spec := "termSums", unfollowed := true, recurses := true, apart := false, narrowed := true }
def TermSumsUptoSaid : Prop := termSumsUptoRow.holds Try.pinned (OpenSpec.upto termSumsSpec)

/-- 'subletlaw03.TermShrinks', WHERE WHAT IT READS IS OF BULK AT MOST 1048576: true; the input reads as it did. -/
def termShrinksUptoRow : OpenClaim := { program := "ytjhiicnnonmcnaa", sum := "02b83d49e5867bcf45e9b1243ab22dde2c44cd7093ba52c91f4e10e88d8cb0cc", func := "sublet/subletlaw03.TermShrinks", spec := "termShrinks", unfollowed := true, recurses := true, apart := false, narrowed := true }
def TermShrinksUptoSaid : Prop := termShrinksUptoRow.holds Try.pinned (OpenSpec.upto termShrinksSpec)

/-- 'subletlaw03.TermHonest', WHERE WHAT IT READS IS OF BULK AT MOST 1048576: true; the input reads as it did. -/
def termHonestUptoRow : OpenClaim := { program := "ytjhiicnnonmcnaa", sum := "02b83d49e5867bcf45e9b1243ab22dde2c44cd7093ba52c91f4e10e88d8cb0cc", func := "sublet/subletlaw03.TermHonest", spec := "termHonest", unfollowed := true, recurses := true, apart := false, narrowed := true }
def TermHonestUptoSaid : Prop := termHonestUptoRow.holds Try.pinned (OpenSpec.upto termHonestSpec)

/-- 'subletlaw03.TermSafe', WHERE WHAT IT READS IS OF BULK AT MOST 1048576: true; the input reads as it did. -/
def termSafeUptoRow : OpenClaim := { program := "ytjhiicnnonmcnaa", sum := "02b83d49e5867bcf45e9b1243ab22dde2c44cd7093ba52c91f4e10e88d8cb0cc", func := "sublet/subletlaw03.TermSafe", spec := "termSafe", unfollowed := true, recurses := true, apart := false, narrowed := true }
def TermSafeUptoSaid : Prop := termSafeUptoRow.holds Try.pinned (OpenSpec.upto termSafeSpec)

/-- 'subletlaw03.TermSpans', WHERE WHAT IT READS IS OF BULK AT MOST 1048576: true; the input reads as it did. -/
def termSpansUptoRow : OpenClaim := { program := "ytjhiicnnonmcnaa", sum := "02b83d49e5867bcf45e9b1243ab22dde2c44cd7093ba52c91f4e10e88d8cb0cc", func := "sublet/subletlaw03.TermSpans", spec := "termSpans", unfollowed := true, recurses := true, apart := false, narrowed := true }
def TermSpansUptoSaid : Prop := termSpansUptoRow.holds Try.pinned (OpenSpec.upto termSpansSpec)

/-- 'subletlaw03.TermRises', WHERE WHAT IT READS IS OF BULK AT MOST 1048576: true; the input reads as it did. -/
def termRisesUptoRow : OpenClaim := { program := "ytjhiicnnonmcnaa", sum := "02b83d49e5867bcf45e9b1243ab22dde2c44cd7093ba52c91f4e10e88d8cb0cc", func := "sublet/subletlaw03.TermRises", spec := "termRises", unfollowed := true, recurses := true, apart := false, narrowed := true }
def TermRisesUptoSaid : Prop := termRisesUptoRow.holds Try.pinned (OpenSpec.upto termRisesSpec)

end Rows
end Go.Proofs.Ytjhiicnnonmcnaa
