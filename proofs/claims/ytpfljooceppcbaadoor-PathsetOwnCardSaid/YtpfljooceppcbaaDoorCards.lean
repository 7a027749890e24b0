/-
  DERIVED. GIVEN WITH THE SEED: THE CARDS: each row of YtpfljooceppcbaaDoorRows.lean that lists a variable, with what it lists TIED to the program's text (the seventh form; the later family's looks); each row that meets fmt, with fmt's text TOLD by the authors' own Lean function (tested against real Go, not proved from fmt's source: count such statements apart). THE CARD IS WHAT COUNTS. Prove the row's statement (the work); the ties are given (YtpfljooceppcbaaDoorTie.lean); close each card by the builder's one call (the guide's Derived/Test/ToyasCard.lean, 'card_holds'). Laid BY PROGRAM, IN A SANDBOX (cutbox-door.mjs). By AI agents, Wed Nov 11 2026. No macro, syntax, notation, axiom, sorry.
-/
import Derived.Test.YtpfljooceppcbaaDoorRows
import GoSem.ClaimSeven
namespace Go.Proofs.YtpfljooceppcbaaDoor
namespace Rows

/-- THE TIED CARD OF 'subletlaw05.PathsetTurned'. -/
def pathsetTurnedCard : Claim7 := { stood := { row := pathsetTurnedRow, standIns := [], harness := (true, "74c99320a05db51dfcc03644a138b8ee1660c161cda3b5bc5ec836f57ec7fdc5"), looks := false }, kinds := [], alts := [], laidByText := true, laidKinds := [.data, .pinned], laidTests := true, laidLooks := .later }
def PathsetTurnedCardSaid : Prop := Claim7.holds Tryd.pinned (.plain (OpenSpec.ofChange pathsetTurnedSpec)) pathsetTurnedCard

/-- THE TIED CARD OF 'subletlaw05.PathsetOwn'. -/
def pathsetOwnCard : Claim7 := { stood := { row := pathsetOwnRow, standIns := [], harness := (true, "74c99320a05db51dfcc03644a138b8ee1660c161cda3b5bc5ec836f57ec7fdc5"), looks := false }, kinds := [], alts := [], laidByText := true, laidKinds := [.data, .pinned], laidTests := true, laidLooks := .later }
def PathsetOwnCardSaid : Prop := Claim7.holds Tryd.pinned (.plain (OpenSpec.ofChange pathsetOwnSpec)) pathsetOwnCard

/-- THE SECOND FORM's CARD OF 'subletlaw05.PathsetTurned'. -/
def pathsetTurnedUptoCard : Claim7 := { stood := { row := pathsetTurnedUptoRow, standIns := [], harness := (true, "74c99320a05db51dfcc03644a138b8ee1660c161cda3b5bc5ec836f57ec7fdc5"), looks := false }, kinds := [], alts := [], laidByText := true, laidKinds := [.data, .pinned], laidTests := true, laidLooks := .later }
def PathsetTurnedUptoCardSaid : Prop := Claim7.holds Tryd.pinned (.plain (OpenSpec.upto pathsetTurnedSpec)) pathsetTurnedUptoCard

/-- THE SECOND FORM's CARD OF 'subletlaw05.PathsetOwn'. -/
def pathsetOwnUptoCard : Claim7 := { stood := { row := pathsetOwnUptoRow, standIns := [], harness := (true, "74c99320a05db51dfcc03644a138b8ee1660c161cda3b5bc5ec836f57ec7fdc5"), looks := false }, kinds := [], alts := [], laidByText := true, laidKinds := [.data, .pinned], laidTests := true, laidLooks := .later }
def PathsetOwnUptoCardSaid : Prop := Claim7.holds Tryd.pinned (.plain (OpenSpec.upto pathsetOwnSpec)) pathsetOwnUptoCard
end Rows
end Go.Proofs.YtpfljooceppcbaaDoor
