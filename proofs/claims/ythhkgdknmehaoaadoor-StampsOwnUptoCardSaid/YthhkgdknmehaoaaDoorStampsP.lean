/- The package's own calls of layer 4 in the statements' words: four by what they answer, four by what they grow. -/
import Derived.Test.YthhkgdknmehaoaaDoorStampsW8
import Derived.Test.YthhkgdknmehaoaaDoorStampsP3
namespace Go.Proofs.YthhkgdknmehaoaaDoor
open Go.RowKit
set_option linter.unusedVariables false
section
variable {w : World} {A B : Option Addr} {n c m d : Nat} {l a b : List Int}
theorem Valid_in (h : Lst w A n c l) : Calls Tryd.prog 14 #[.slice A n c] w fun e w' => e = .returned (.bool (SM.valid l)) ∧ Below w.heap.size w w' := by
  obtain ⟨rfl, h1, h2, h3, h4, h5⟩ := h
  refine (Valid_any A c l w h1 h2 h3).mono ?_
  rintro e w' ⟨rfl, rfl⟩
  exact ⟨rfl, Below.refl _ _⟩
theorem Compare_in (h : Lst w A n c a) (k : Lst w B m d b) : Calls Tryd.prog 17 #[.slice A n c, .slice B m d] w fun e w' => e = .returned (.int .i64 (SM.cmp a b)) ∧ Below w.heap.size w w' := by
  obtain ⟨rfl, h1, h2, h3, h4, h5⟩ := h
  obtain ⟨rfl, k1, k2, k3, k4, k5⟩ := k
  exact Compare_any A B c d a b w h1 k1 h2 k2 h3 k3
theorem Under_in (h : Lst w A n c a) (k : Lst w B m d b) : Calls Tryd.prog 19 #[.slice A n c, .slice B m d] w fun e w' => e = .returned (.bool (SM.under a b)) ∧ Below w.heap.size w w' := by
  obtain ⟨rfl, h1, h2, h3, h4, h5⟩ := h
  obtain ⟨rfl, k1, k2, k3, k4, k5⟩ := k
  exact Under_any A B c d a b w h1 k1 h2 k2 h3 k3
theorem Text_in (hT : Tabs w) (hl : l.length ≤ 1048576) (h : Lst w A n c l) : Calls Tryd.prog 28 #[.slice A n c] w fun e w' => e = .returned (.string (txt (SM.text l))) ∧ Below w.heap.size w w' := by
  obtain ⟨rfl, h1, h2, h3, h4, h5⟩ := h
  exact Text_any A c l w hT h1 h2 h3 hl h5
/-! Four calls that answer a new list: what is grown is the call's own. -/
theorem Later_own (h : Lst w A n c a) (k : Lst w B m d b) : Calls Tryd.prog 22 #[.slice A n c, .slice B m d] w fun e w' => ∃ v, e = .returned v ∧ Grew w (SM.later a b) v w' := by
  obtain ⟨rfl, h1, h2, h3, h4, h5⟩ := h
  obtain ⟨rfl, k1, k2, k3, k4, k5⟩ := k
  exact Later_any A B c d a b w h1 k1 h2 k2 h3 k3 h4 k4
theorem Extend_own (x : Int) (hx : -9223372036854775808 ≤ x ∧ x ≤ 9223372036854775807) (h : Lst w A n c l) : Calls Tryd.prog 11 #[.slice A n c, .int .i64 x] w fun e w' => ∃ v, e = .returned (.tuple #[v, .int .i64 (SM.extend l x).2]) ∧ Grew w (SM.extend l x).1 v w' := by
  obtain ⟨rfl, h1, h2, h3, h4, h5⟩ := h
  exact Extend_any A c l x w h1 h2 h3 hx
theorem Next_own (h : Lst w A n c l) : Calls Tryd.prog 12 #[.slice A n c] w fun e w' => ∃ v, e = .returned (.tuple #[v, .int .i64 (SM.next l).2]) ∧ Grew w (SM.next l).1 v w' := by
  obtain ⟨rfl, h1, h2, h3, h4, h5⟩ := h
  exact Next_any A c l w h1 h2 h3
theorem Parse_own (hT : Tabs w) (t : ByteArray) (ht : t.size ≤ 4294967280) : Calls Tryd.prog 26 #[.string t] w fun e w' => ∃ v, e = .returned (.tuple #[v, .int .i64 (SM.parse t.data.toList).2]) ∧ Grew w (SM.parse t.data.toList).1 v w' := Parse_any t w hT ht
end
end Go.Proofs.YthhkgdknmehaoaaDoor
