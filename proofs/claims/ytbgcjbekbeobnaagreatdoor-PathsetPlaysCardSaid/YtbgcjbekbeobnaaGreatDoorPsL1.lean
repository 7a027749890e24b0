/- The statements' own helpers: does a number stand in a list; a set filled with entries. -/
import Derived.Test.YtbgcjbekbeobnaaGreatDoorPsSet
namespace Go.Proofs.YtbgcjbekbeobnaaGreatDoor
open Go.RowKit
open SE (Ent)
set_option linter.unusedVariables false
set_option maxRecDepth 100000
/-- Entries put in, as far as they may be. -/
def fillOn (L l : List Ent) : List Ent := l.foldl (fun L e => (SE.put L e).1) L
def fill (l : List Ent) : List Ent := fillOn [] l
theorem fill_step {l : List Ent} {k : Nat} (h : k < l.length) : fill (l.take (k + 1)) = (SE.put (fill (l.take k)) l[k]).1 := by
  unfold fill fillOn
  rw [List.take_add_one, List.getElem?_eq_getElem h, Option.toList_some, List.foldl_append]
  rfl
end Go.Proofs.YtbgcjbekbeobnaaGreatDoor
