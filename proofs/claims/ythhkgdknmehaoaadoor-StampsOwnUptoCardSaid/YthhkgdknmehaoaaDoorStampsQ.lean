/- The package's four calls of layer 4 that answer a new list, as most statements use them. -/
import Derived.Test.YthhkgdknmehaoaaDoorStampsP
namespace Go.Proofs.YthhkgdknmehaoaaDoor
open Go.RowKit
set_option linter.unusedVariables false
section
variable {w : World} {A B : Option Addr} {n c m d : Nat} {l a b : List Int}
theorem Later_in (h : Lst w A n c a) (k : Lst w B m d b) : Calls Tryd.prog 22 #[.slice A n c, .slice B m d] w (NewList w (SM.later a b)) := by
  refine (Later_own h k).mono ?_
  rintro e w' ⟨v, rfl, g⟩
  obtain ⟨A', c', rfl, hl⟩ := g.lst (later_room (by have := h.room; rw [h.len] at this; exact this) (by have := k.room; rw [k.len] at this; exact this)) (later_range h.range k.range)
  exact ⟨A', _, c', rfl, hl, g.2⟩
theorem Extend_in (x : Int) (hx : -9223372036854775808 ≤ x ∧ x ≤ 9223372036854775807) (h : Lst w A n c l) : Calls Tryd.prog 11 #[.slice A n c, .int .i64 x] w (NewErr w (SM.extend l x)) := by
  refine (Extend_own x hx h).mono ?_
  rintro e w' ⟨v, rfl, g⟩
  exact new_err (extend_ok l x) g
theorem Next_in (h : Lst w A n c l) : Calls Tryd.prog 12 #[.slice A n c] w (NewErr w (SM.next l)) := by
  refine (Next_own h).mono ?_
  rintro e w' ⟨v, rfl, g⟩
  exact new_err (next_fits l) g
theorem Parse_in (hT : Tabs w) (t : ByteArray) (ht : t.size ≤ 4294967280) : Calls Tryd.prog 26 #[.string t] w (NewErr w (SM.parse t.data.toList)) := by
  refine (Parse_own hT t ht).mono ?_
  rintro e w' ⟨v, rfl, g⟩
  exact new_err (parse_fits _) g
end
end Go.Proofs.YthhkgdknmehaoaaDoor
