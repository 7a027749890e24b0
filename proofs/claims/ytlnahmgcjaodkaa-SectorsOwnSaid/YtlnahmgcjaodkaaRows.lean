/-
  No cell of these rows narrows 'for every input' (looked for: loops, veiled, ifaces, maps, wideKeys, modest, calm, conditions, laid).
  DERIVED. THE GIVEN ROWS OF THIS SEAT. 8 by the template 'for every input the law returns true; each argument reads behind the call as it read before'; 0 by the template 'total and deterministic' (their statements: YtlnahmgcjaodkaaTotals.lean).
  GIVEN WITH THE SEED: the statements are not yours to turn. If you find one false, say at which input.
  Laid BY PROGRAM, IN A SANDBOX (cutbox-rows.mjs): the forced cells as the released guide's own fill.sh prints them over the translation defd7f31ac766e40… (all of the seat's roots in one cut). By AI agents, Wed Nov 11 2026. No macro, syntax, notation, axiom, sorry.
-/
import Derived.Test.YtlnahmgcjaodkaaChecked
import GoSem.Claim
import GoSem.ClaimJoined
import GoSem.ClaimMapViews
import Derived.JoinedTies
import Derived.KernelRfl
namespace Go.Proofs.Ytlnahmgcjaodkaa
/- THE CELL 'sum', in the pinned program and in every row, IS THE sha256 OF THE DUMP (.gsa) THAT YtlnahmgcjaodkaaProg.lean LOADS. Nothing in Lean hashes anything: it is a label: what it is worth is what the hold of that sum in a sandbox is worth. -/
noncomputable def Try.pinned : Pinned := { name := "ytlnahmgcjaodkaa", sum := "defd7f31ac766e4007eff6b9db8a7f45712f9620215789b79fe2fb3b9885a866", checked := Try.checked }
namespace Rows
def none {H : Type} : Left H := { results := [], args := [] }

/-- 'subletlaw10.SectorsNames': WHATEVER THE INPUT: true; the input reads as it did. -/
def sectorsNamesSpec : ChangeSpec := { name := "sectorsNames", fn := fun _ => fun
  | [] => { results := [.lit (.bool true)], args := [] }
  | _ => none }
def sectorsNamesRow : OpenClaim := { program := "ytlnahmgcjaodkaa", sum := "defd7f31ac766e4007eff6b9db8a7f45712f9620215789b79fe2fb3b9885a866", func := "sublet/subletlaw10.SectorsNames", spec := "sectorsNames", apart := false }
def SectorsNamesSaid : Prop := sectorsNamesRow.holds Try.pinned (OpenSpec.ofChange sectorsNamesSpec)

/-- ITS FALSE NEIGHBOUR: 'it returns false'. Refute it at one input. -/
def sectorsNamesWrong : ChangeSpec := { name := "sectorsNames", fn := fun _ => fun
  | [] => { results := [.lit (.bool false)], args := [] }
  | _ => none }
def SectorsNamesWrongFalsely : Prop := sectorsNamesRow.holds Try.pinned (OpenSpec.ofChange sectorsNamesWrong)

/-- 'subletlaw10.SectorsPacks': WHATEVER THE INPUT: true; the input reads as it did. -/
def sectorsPacksSpec : ChangeSpec := { name := "sectorsPacks", fn := fun _ => fun
  | [d1, d2, d3] => { results := [.lit (.bool true)], args := [d1, d2, d3] }
  | _ => none }
def sectorsPacksRow : OpenClaim := { program := "ytlnahmgcjaodkaa", sum := "defd7f31ac766e4007eff6b9db8a7f45712f9620215789b79fe2fb3b9885a866", func := "sublet/subletlaw10.SectorsPacks", spec := "sectorsPacks", apart := false }
def SectorsPacksSaid : Prop := sectorsPacksRow.holds Try.pinned (OpenSpec.ofChange sectorsPacksSpec)

/-- ITS FALSE NEIGHBOUR: 'it returns false'. Refute it at one input. -/
def sectorsPacksWrong : ChangeSpec := { name := "sectorsPacks", fn := fun _ => fun
  | [d1, d2, d3] => { results := [.lit (.bool false)], args := [d1, d2, d3] }
  | _ => none }
def SectorsPacksWrongFalsely : Prop := sectorsPacksRow.holds Try.pinned (OpenSpec.ofChange sectorsPacksWrong)

/-- 'subletlaw10.SectorsLooks': WHATEVER THE INPUT: true; the input reads as it did. -/
def sectorsLooksSpec : ChangeSpec := { name := "sectorsLooks", fn := fun _ => fun
  | [d] => { results := [.lit (.bool true)], args := [d] }
  | _ => none }
def sectorsLooksRow : OpenClaim := { program := "ytlnahmgcjaodkaa", sum := "defd7f31ac766e4007eff6b9db8a7f45712f9620215789b79fe2fb3b9885a866", func := "sublet/subletlaw10.SectorsLooks", spec := "sectorsLooks", apart := false }
def SectorsLooksSaid : Prop := sectorsLooksRow.holds Try.pinned (OpenSpec.ofChange sectorsLooksSpec)

/-- ITS FALSE NEIGHBOUR: 'it returns false'. Refute it at one input. -/
def sectorsLooksWrong : ChangeSpec := { name := "sectorsLooks", fn := fun _ => fun
  | [d] => { results := [.lit (.bool false)], args := [d] }
  | _ => none }
def SectorsLooksWrongFalsely : Prop := sectorsLooksRow.holds Try.pinned (OpenSpec.ofChange sectorsLooksWrong)

/-- 'subletlaw10.SectorsScans': WHATEVER THE INPUT: true; the input reads as it did. -/
def sectorsScansSpec : ChangeSpec := { name := "sectorsScans", fn := fun _ => fun
  | [d1, d2] => { results := [.lit (.bool true)], args := [d1, d2] }
  | _ => none }
def sectorsScansRow : OpenClaim := { program := "ytlnahmgcjaodkaa", sum := "defd7f31ac766e4007eff6b9db8a7f45712f9620215789b79fe2fb3b9885a866", func := "sublet/subletlaw10.SectorsScans", spec := "sectorsScans", apart := false }
def SectorsScansSaid : Prop := sectorsScansRow.holds Try.pinned (OpenSpec.ofChange sectorsScansSpec)

/-- ITS FALSE NEIGHBOUR: 'it returns false'. Refute it at one input. -/
def sectorsScansWrong : ChangeSpec := { name := "sectorsScans", fn := fun _ => fun
  | [d1, d2] => { results := [.lit (.bool false)], args := [d1, d2] }
  | _ => none }
def SectorsScansWrongFalsely : Prop := sectorsScansRow.holds Try.pinned (OpenSpec.ofChange sectorsScansWrong)

/-- 'subletlaw10.SectorsBack': WHATEVER THE INPUT: true; the input reads as it did. -/
def sectorsBackSpec : ChangeSpec := { name := "sectorsBack", fn := fun _ => fun
  | [d1, d2, d3] => { results := [.lit (.bool true)], args := [d1, d2, d3] }
  | _ => none }
def sectorsBackRow : OpenClaim := { program := "ytlnahmgcjaodkaa", sum := "defd7f31ac766e4007eff6b9db8a7f45712f9620215789b79fe2fb3b9885a866", func := "sublet/subletlaw10.SectorsBack", spec := "sectorsBack", apart := false }
def SectorsBackSaid : Prop := sectorsBackRow.holds Try.pinned (OpenSpec.ofChange sectorsBackSpec)

/-- ITS FALSE NEIGHBOUR: 'it returns false'. Refute it at one input. -/
def sectorsBackWrong : ChangeSpec := { name := "sectorsBack", fn := fun _ => fun
  | [d1, d2, d3] => { results := [.lit (.bool false)], args := [d1, d2, d3] }
  | _ => none }
def SectorsBackWrongFalsely : Prop := sectorsBackRow.holds Try.pinned (OpenSpec.ofChange sectorsBackWrong)

/-- 'subletlaw10.SectorsTorn': WHATEVER THE INPUT: true; the input reads as it did. -/
def sectorsTornSpec : ChangeSpec := { name := "sectorsTorn", fn := fun _ => fun
  | [d1, d2, d3] => { results := [.lit (.bool true)], args := [d1, d2, d3] }
  | _ => none }
def sectorsTornRow : OpenClaim := { program := "ytlnahmgcjaodkaa", sum := "defd7f31ac766e4007eff6b9db8a7f45712f9620215789b79fe2fb3b9885a866", func := "sublet/subletlaw10.SectorsTorn", spec := "sectorsTorn", apart := false }
def SectorsTornSaid : Prop := sectorsTornRow.holds Try.pinned (OpenSpec.ofChange sectorsTornSpec)

/-- ITS FALSE NEIGHBOUR: 'it returns false'. Refute it at one input. -/
def sectorsTornWrong : ChangeSpec := { name := "sectorsTorn", fn := fun _ => fun
  | [d1, d2, d3] => { results := [.lit (.bool false)], args := [d1, d2, d3] }
  | _ => none }
def SectorsTornWrongFalsely : Prop := sectorsTornRow.holds Try.pinned (OpenSpec.ofChange sectorsTornWrong)

/-- 'subletlaw10.SectorsTurned': WHATEVER THE INPUT: true; the input reads as it did. -/
def sectorsTurnedSpec : ChangeSpec := { name := "sectorsTurned", fn := fun _ => fun
  | [d1, d2, d3] => { results := [.lit (.bool true)], args := [d1, d2, d3] }
  | _ => none }
def sectorsTurnedRow : OpenClaim := { program := "ytlnahmgcjaodkaa", sum := "defd7f31ac766e4007eff6b9db8a7f45712f9620215789b79fe2fb3b9885a866", func := "sublet/subletlaw10.SectorsTurned", spec := "sectorsTurned", apart := false }
def SectorsTurnedSaid : Prop := sectorsTurnedRow.holds Try.pinned (OpenSpec.ofChange sectorsTurnedSpec)

/-- ITS FALSE NEIGHBOUR: 'it returns false'. Refute it at one input. -/
def sectorsTurnedWrong : ChangeSpec := { name := "sectorsTurned", fn := fun _ => fun
  | [d1, d2, d3] => { results := [.lit (.bool false)], args := [d1, d2, d3] }
  | _ => none }
def SectorsTurnedWrongFalsely : Prop := sectorsTurnedRow.holds Try.pinned (OpenSpec.ofChange sectorsTurnedWrong)

/-- 'subletlaw10.SectorsOwn': WHATEVER THE INPUT: true; the input reads as it did. -/
def sectorsOwnSpec : ChangeSpec := { name := "sectorsOwn", fn := fun _ => fun
  | [d1, d2] => { results := [.lit (.bool true)], args := [d1, d2] }
  | _ => none }
def sectorsOwnRow : OpenClaim := { program := "ytlnahmgcjaodkaa", sum := "defd7f31ac766e4007eff6b9db8a7f45712f9620215789b79fe2fb3b9885a866", func := "sublet/subletlaw10.SectorsOwn", spec := "sectorsOwn", apart := false }
def SectorsOwnSaid : Prop := sectorsOwnRow.holds Try.pinned (OpenSpec.ofChange sectorsOwnSpec)

/-- ITS FALSE NEIGHBOUR: 'it returns false'. Refute it at one input. -/
def sectorsOwnWrong : ChangeSpec := { name := "sectorsOwn", fn := fun _ => fun
  | [d1, d2] => { results := [.lit (.bool false)], args := [d1, d2] }
  | _ => none }
def SectorsOwnWrongFalsely : Prop := sectorsOwnRow.holds Try.pinned (OpenSpec.ofChange sectorsOwnWrong)

/- THE SECOND FORM. 'bulk': how many values and letters a reading holds, each counted each time it is reached (what is shared counts as often as it is met; a slice's spare places count too). A statement '..UptoSaid' is the law's where the arguments, and the package variables that the reading takes, are together of bulk at most 1048576: NARROWER than '..Said'. Prove '..Said' where nothing that the law and all that it calls make is longer than what came in: it says more and counts as full. Else prove '..UptoSaid'. A law counts once. -/
mutual
def uptoBulk {H : Type} : DataW H → Nat
  | .lit (.string bytes) => bytes.length + 1
  | .lit _ => 1
  | .nil => 1
  | .ptr d => uptoBulk d + 1
  | .slice elems spare => uptoBulkAll elems + uptoBulkAll spare + 1
  | .agg parts => uptoBulkAll parts + 1
  | .iface _ d => uptoBulk d + 1
  | .map entries => uptoBulkEntries entries + 1
  | .held _ => 1
def uptoBulkAll {H : Type} : List (DataW H) → Nat
  | [] => 0
  | d :: r => uptoBulk d + uptoBulkAll r
def uptoBulkEntries {H : Type} : List (Lit × DataW H) → Nat
  | [] => 0
  | x :: r => uptoBulkEntry x + uptoBulkEntries r
def uptoBulkEntry {H : Type} : Lit × DataW H → Nat
  | (.string bytes, d) => bytes.length + uptoBulk d + 1
  | (_, d) => uptoBulk d + 1
 end
def uptoSmall : (H : Type) → List (DataW H) → Bool := fun _ ds => decide (uptoBulkAll ds ≤ 1048576)
def OpenSpec.upto (s : _root_.Go.ChangeSpec) : _root_.Go.OpenSpec := { _root_.Go.OpenSpec.ofChange s with cond := some uptoSmall }

/-- 'subletlaw10.SectorsNames', WHERE WHAT IT READS IS OF BULK AT MOST 1048576: true; the input reads as it did. -/
def sectorsNamesUptoRow : OpenClaim := { program := "ytlnahmgcjaodkaa", sum := "defd7f31ac766e4007eff6b9db8a7f45712f9620215789b79fe2fb3b9885a866", func := "sublet/subletlaw10.SectorsNames", spec := "sectorsNames", apart := false, narrowed := true }
def SectorsNamesUptoSaid : Prop := sectorsNamesUptoRow.holds Try.pinned (OpenSpec.upto sectorsNamesSpec)

/-- 'subletlaw10.SectorsPacks', WHERE WHAT IT READS IS OF BULK AT MOST 1048576: true; the input reads as it did. -/
def sectorsPacksUptoRow : OpenClaim := { program := "ytlnahmgcjaodkaa", sum := "defd7f31ac766e4007eff6b9db8a7f45712f9620215789b79fe2fb3b9885a866", func := "sublet/subletlaw10.SectorsPacks", spec := "sectorsPacks", apart := false, narrowed := true }
def SectorsPacksUptoSaid : Prop := sectorsPacksUptoRow.holds Try.pinned (OpenSpec.upto sectorsPacksSpec)

/-- 'subletlaw10.SectorsLooks', WHERE WHAT IT READS IS OF BULK AT MOST 1048576: true; the input reads as it did. -/
def sectorsLooksUptoRow : OpenClaim := { program := "ytlnahmgcjaodkaa", sum := "defd7f31ac766e4007eff6b9db8a7f45712f9620215789b79fe2fb3b9885a866", func := "sublet/subletlaw10.SectorsLooks", spec := "sectorsLooks", apart := false, narrowed := true }
def SectorsLooksUptoSaid : Prop := sectorsLooksUptoRow.holds Try.pinned (OpenSpec.upto sectorsLooksSpec)

/-- 'subletlaw10.SectorsScans', WHERE WHAT IT READS IS OF BULK AT MOST 1048576: true; the input reads as it did. -/
def sectorsScansUptoRow : OpenClaim := { program := "ytlnahmgcjaodkaa", sum := "defd7f31ac766e4007eff6b9db8a7f45712f9620215789b79fe2fb3b9885a866", func := "sublet/subletlaw10.SectorsScans", spec := "sectorsScans", apart := false, narrowed := true }
def SectorsScansUptoSaid : Prop := sectorsScansUptoRow.holds Try.pinned (OpenSpec.upto sectorsScansSpec)

/-- 'subletlaw10.SectorsBack', WHERE WHAT IT READS IS OF BULK AT MOST 1048576: true; the input reads as it did. -/
def sectorsBackUptoRow : OpenClaim := { program := "ytlnahmgcjaodkaa", sum := "defd7f31ac766e4007eff6b9db8a7f45712f9620215789b79fe2fb3b9885a866", func := "sublet/subletlaw10.SectorsBack", spec := "sectorsBack", apart := false, narrowed := true }
def SectorsBackUptoSaid : Prop := sectorsBackUptoRow.holds Try.pinned (OpenSpec.upto sectorsBackSpec)

/-- 'subletlaw10.SectorsTorn', WHERE WHAT IT READS IS OF BULK AT MOST 1048576: true; the input reads as it did. -/
def sectorsTornUptoRow : OpenClaim := { program := "ytlnahmgcjaodkaa", sum := "defd7f31ac766e4007eff6b9db8a7f45712f9620215789b79fe2fb3b9885a866", func := "sublet/subletlaw10.SectorsTorn", spec := "sectorsTorn", apart := false, narrowed := true }
def SectorsTornUptoSaid : Prop := sectorsTornUptoRow.holds Try.pinned (OpenSpec.upto sectorsTornSpec)

/-- 'subletlaw10.SectorsTurned', WHERE WHAT IT READS IS OF BULK AT MOST 1048576: true; the input reads as it did. -/
def sectorsTurnedUptoRow : OpenClaim := { program := "ytlnahmgcjaodkaa", sum := "defd7f31ac766e4007eff6b9db8a7f45712f9620215789b79fe2fb3b9885a866", func := "sublet/subletlaw10.SectorsTurned", spec := "sectorsTurned", apart := false, narrowed := true }
def SectorsTurnedUptoSaid : Prop := sectorsTurnedUptoRow.holds Try.pinned (OpenSpec.upto sectorsTurnedSpec)

/-- 'subletlaw10.SectorsOwn', WHERE WHAT IT READS IS OF BULK AT MOST 1048576: true; the input reads as it did. -/
def sectorsOwnUptoRow : OpenClaim := { program := "ytlnahmgcjaodkaa", sum := "defd7f31ac766e4007eff6b9db8a7f45712f9620215789b79fe2fb3b9885a866", func := "sublet/subletlaw10.SectorsOwn", spec := "sectorsOwn", apart := false, narrowed := true }
def SectorsOwnUptoSaid : Prop := sectorsOwnUptoRow.holds Try.pinned (OpenSpec.upto sectorsOwnSpec)

end Rows
end Go.Proofs.Ytlnahmgcjaodkaa
