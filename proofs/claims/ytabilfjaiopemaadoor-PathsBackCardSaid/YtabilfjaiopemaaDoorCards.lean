/-
  DERIVED. GIVEN WITH THE SEED: THE CARDS: each row of YtabilfjaiopemaaDoorRows.lean that lists a variable, with what it lists TIED to the program's text (the seventh form; the later family's looks); each row that meets fmt, with fmt's text TOLD by the authors' own Lean function (tested against real Go, not proved from fmt's source: count such statements apart). THE CARD IS WHAT COUNTS. Prove the row's statement (the work); the ties are given (YtabilfjaiopemaaDoorTie.lean); close each card by the builder's one call (the guide's Derived/Test/ToyasCard.lean, 'card_holds'). Laid BY PROGRAM, IN A SANDBOX (cutbox-door.mjs). By AI agents, Wed Nov 11 2026. No macro, syntax, notation, axiom, sorry.
-/
import Derived.Test.YtabilfjaiopemaaDoorRows
import GoSem.ClaimSeven
namespace Go.Proofs.YtabilfjaiopemaaDoor
namespace Rows

/-- THE TIED CARD OF 'subletlaw01.PathsNames'. -/
def pathsNamesCard : Claim7 := { stood := { row := pathsNamesRow, standIns := [], harness := (true, "b0747c0908a156516a929e9484f089a83caf480c3f33ea476e752292b81b8aab"), looks := false }, kinds := [], alts := [], laidByText := true, laidKinds := [.data, .pinned], laidTests := true, laidLooks := .later }
def PathsNamesCardSaid : Prop := Claim7.holds Tryd.pinned (.plain (OpenSpec.ofChange pathsNamesSpec)) pathsNamesCard

/-- THE TIED CARD OF 'subletlaw01.PathsReads'. -/
def pathsReadsCard : Claim7 := { stood := { row := pathsReadsRow, standIns := [], harness := (true, "b0747c0908a156516a929e9484f089a83caf480c3f33ea476e752292b81b8aab"), looks := false }, kinds := [], alts := [], laidByText := true, laidKinds := [.data, .pinned], laidTests := true, laidLooks := .later }
def PathsReadsCardSaid : Prop := Claim7.holds Tryd.pinned (.plain (OpenSpec.ofChange pathsReadsSpec)) pathsReadsCard

/-- THE TIED CARD OF 'subletlaw01.PathsJoins'. -/
def pathsJoinsCard : Claim7 := { stood := { row := pathsJoinsRow, standIns := [], harness := (true, "b0747c0908a156516a929e9484f089a83caf480c3f33ea476e752292b81b8aab"), looks := false }, kinds := [], alts := [], laidByText := true, laidKinds := [.data, .pinned], laidTests := true, laidLooks := .later }
def PathsJoinsCardSaid : Prop := Claim7.holds Tryd.pinned (.plain (OpenSpec.ofChange pathsJoinsSpec)) pathsJoinsCard

/-- THE TIED CARD OF 'subletlaw01.PathsPairs'. -/
def pathsPairsCard : Claim7 := { stood := { row := pathsPairsRow, standIns := [], harness := (true, "b0747c0908a156516a929e9484f089a83caf480c3f33ea476e752292b81b8aab"), looks := false }, kinds := [], alts := [], laidByText := true, laidKinds := [.data, .pinned], laidTests := true, laidLooks := .later }
def PathsPairsCardSaid : Prop := Claim7.holds Tryd.pinned (.plain (OpenSpec.ofChange pathsPairsSpec)) pathsPairsCard

/-- THE TIED CARD OF 'subletlaw01.PathsBack'. -/
def pathsBackCard : Claim7 := { stood := { row := pathsBackRow, standIns := [], harness := (true, "b0747c0908a156516a929e9484f089a83caf480c3f33ea476e752292b81b8aab"), looks := false }, kinds := [], alts := [], laidByText := true, laidKinds := [.data, .pinned], laidTests := true, laidLooks := .later }
def PathsBackCardSaid : Prop := Claim7.holds Tryd.pinned (.plain (OpenSpec.ofChange pathsBackSpec)) pathsBackCard

/-- THE TIED CARD OF 'subletlaw01.PathsOrder'. -/
def pathsOrderCard : Claim7 := { stood := { row := pathsOrderRow, standIns := [], harness := (true, "b0747c0908a156516a929e9484f089a83caf480c3f33ea476e752292b81b8aab"), looks := false }, kinds := [], alts := [], laidByText := true, laidKinds := [.data, .pinned], laidTests := true, laidLooks := .later }
def PathsOrderCardSaid : Prop := Claim7.holds Tryd.pinned (.plain (OpenSpec.ofChange pathsOrderSpec)) pathsOrderCard

/-- THE TIED CARD OF 'subletlaw01.PathsMeets'. -/
def pathsMeetsCard : Claim7 := { stood := { row := pathsMeetsRow, standIns := [], harness := (true, "b0747c0908a156516a929e9484f089a83caf480c3f33ea476e752292b81b8aab"), looks := false }, kinds := [], alts := [], laidByText := true, laidKinds := [.data, .pinned], laidTests := true, laidLooks := .later }
def PathsMeetsCardSaid : Prop := Claim7.holds Tryd.pinned (.plain (OpenSpec.ofChange pathsMeetsSpec)) pathsMeetsCard

/-- THE TIED CARD OF 'subletlaw01.PathsOwn'. -/
def pathsOwnCard : Claim7 := { stood := { row := pathsOwnRow, standIns := [], harness := (true, "b0747c0908a156516a929e9484f089a83caf480c3f33ea476e752292b81b8aab"), looks := false }, kinds := [], alts := [], laidByText := true, laidKinds := [.data, .pinned], laidTests := true, laidLooks := .later }
def PathsOwnCardSaid : Prop := Claim7.holds Tryd.pinned (.plain (OpenSpec.ofChange pathsOwnSpec)) pathsOwnCard

/-- THE SECOND FORM's CARD OF 'subletlaw01.PathsNames'. -/
def pathsNamesUptoCard : Claim7 := { stood := { row := pathsNamesUptoRow, standIns := [], harness := (true, "b0747c0908a156516a929e9484f089a83caf480c3f33ea476e752292b81b8aab"), looks := false }, kinds := [], alts := [], laidByText := true, laidKinds := [.data, .pinned], laidTests := true, laidLooks := .later }
def PathsNamesUptoCardSaid : Prop := Claim7.holds Tryd.pinned (.plain (OpenSpec.upto pathsNamesSpec)) pathsNamesUptoCard

/-- THE SECOND FORM's CARD OF 'subletlaw01.PathsReads'. -/
def pathsReadsUptoCard : Claim7 := { stood := { row := pathsReadsUptoRow, standIns := [], harness := (true, "b0747c0908a156516a929e9484f089a83caf480c3f33ea476e752292b81b8aab"), looks := false }, kinds := [], alts := [], laidByText := true, laidKinds := [.data, .pinned], laidTests := true, laidLooks := .later }
def PathsReadsUptoCardSaid : Prop := Claim7.holds Tryd.pinned (.plain (OpenSpec.upto pathsReadsSpec)) pathsReadsUptoCard

/-- THE SECOND FORM's CARD OF 'subletlaw01.PathsJoins'. -/
def pathsJoinsUptoCard : Claim7 := { stood := { row := pathsJoinsUptoRow, standIns := [], harness := (true, "b0747c0908a156516a929e9484f089a83caf480c3f33ea476e752292b81b8aab"), looks := false }, kinds := [], alts := [], laidByText := true, laidKinds := [.data, .pinned], laidTests := true, laidLooks := .later }
def PathsJoinsUptoCardSaid : Prop := Claim7.holds Tryd.pinned (.plain (OpenSpec.upto pathsJoinsSpec)) pathsJoinsUptoCard

/-- THE SECOND FORM's CARD OF 'subletlaw01.PathsPairs'. -/
def pathsPairsUptoCard : Claim7 := { stood := { row := pathsPairsUptoRow, standIns := [], harness := (true, "b0747c0908a156516a929e9484f089a83caf480c3f33ea476e752292b81b8aab"), looks := false }, kinds := [], alts := [], laidByText := true, laidKinds := [.data, .pinned], laidTests := true, laidLooks := .later }
def PathsPairsUptoCardSaid : Prop := Claim7.holds Tryd.pinned (.plain (OpenSpec.upto pathsPairsSpec)) pathsPairsUptoCard

/-- THE SECOND FORM's CARD OF 'subletlaw01.PathsBack'. -/
def pathsBackUptoCard : Claim7 := { stood := { row := pathsBackUptoRow, standIns := [], harness := (true, "b0747c0908a156516a929e9484f089a83caf480c3f33ea476e752292b81b8aab"), looks := false }, kinds := [], alts := [], laidByText := true, laidKinds := [.data, .pinned], laidTests := true, laidLooks := .later }
def PathsBackUptoCardSaid : Prop := Claim7.holds Tryd.pinned (.plain (OpenSpec.upto pathsBackSpec)) pathsBackUptoCard

/-- THE SECOND FORM's CARD OF 'subletlaw01.PathsOrder'. -/
def pathsOrderUptoCard : Claim7 := { stood := { row := pathsOrderUptoRow, standIns := [], harness := (true, "b0747c0908a156516a929e9484f089a83caf480c3f33ea476e752292b81b8aab"), looks := false }, kinds := [], alts := [], laidByText := true, laidKinds := [.data, .pinned], laidTests := true, laidLooks := .later }
def PathsOrderUptoCardSaid : Prop := Claim7.holds Tryd.pinned (.plain (OpenSpec.upto pathsOrderSpec)) pathsOrderUptoCard

/-- THE SECOND FORM's CARD OF 'subletlaw01.PathsMeets'. -/
def pathsMeetsUptoCard : Claim7 := { stood := { row := pathsMeetsUptoRow, standIns := [], harness := (true, "b0747c0908a156516a929e9484f089a83caf480c3f33ea476e752292b81b8aab"), looks := false }, kinds := [], alts := [], laidByText := true, laidKinds := [.data, .pinned], laidTests := true, laidLooks := .later }
def PathsMeetsUptoCardSaid : Prop := Claim7.holds Tryd.pinned (.plain (OpenSpec.upto pathsMeetsSpec)) pathsMeetsUptoCard

/-- THE SECOND FORM's CARD OF 'subletlaw01.PathsOwn'. -/
def pathsOwnUptoCard : Claim7 := { stood := { row := pathsOwnUptoRow, standIns := [], harness := (true, "b0747c0908a156516a929e9484f089a83caf480c3f33ea476e752292b81b8aab"), looks := false }, kinds := [], alts := [], laidByText := true, laidKinds := [.data, .pinned], laidTests := true, laidLooks := .later }
def PathsOwnUptoCardSaid : Prop := Claim7.holds Tryd.pinned (.plain (OpenSpec.upto pathsOwnSpec)) pathsOwnUptoCard
end Rows
end Go.Proofs.YtabilfjaiopemaaDoor
