/- Lists as the statements hand them on: what is known of each; the helpers and the document's answers in these words. -/
import Derived.Test.YthhkgdknmehaoaaDoorStampsW7
namespace Go.Proofs.YthhkgdknmehaoaaDoor
open Go.RowKit
set_option linter.unusedVariables false
/-- A list of numbers that may be handed on. -/
structure Lst (w : World) (A : Option Addr) (n c : Nat) (l : List Int) : Prop where
  len : n = l.length
  at_ : IntsAt w A l
  le : n ≤ c
  top : c ≤ 9223372036854775807
  room : n * 8 ≤ 140737488355328
  range : ∀ x ∈ l, -9223372036854775808 ≤ x ∧ x ≤ 9223372036854775807
theorem Lst.below {w w' : World} {A : Option Addr} {n c : Nat} {l : List Int} (h : Lst w A n c l) (hb : Below w.heap.size w w') : Lst w' A n c l := ⟨h.len, h.at_.below hb, h.le, h.top, h.room, h.range⟩
theorem Lst.drew {w : World} {A : Option Addr} {n c : Nat} {l : List Int} (h : Lst w A n c l) : Lst w.drew A n c l := ⟨h.len, h.at_, h.le, h.top, h.room, h.range⟩
theorem Lst.alloc {w : World} {A : Option Addr} {n c : Nat} {l : List Int} (h : Lst w A n c l) (o : Obj) : Lst (w.alloc o) A n c l := h.below ((Below.refl _ w).alloc (Nat.le_refl _) o)
theorem Grew.lst {w w' : World} {l : List Int} {v : Value} (g : Grew w l v w') (room : l.length * 8 ≤ 140737488355328) (range : ∀ x ∈ l, -9223372036854775808 ≤ x ∧ x ≤ 9223372036854775807) : ∃ A c, v = .slice A l.length c ∧ Lst w' A l.length c l := by
  obtain ⟨A, c, rfl, h1, h2⟩ := own_shape g.1
  exact ⟨A, c, rfl, rfl, IntsAt.own g.1, h1, h2, room, range⟩
/-- What a statement's call leaves that answers a new list. -/
def NewList (w : World) (l : List Int) (e : Ending) (w' : World) : Prop := ∃ A n c, e = .returned (.slice A n c) ∧ Lst w' A n c l ∧ Below w.heap.size w w'
/-- .. and an error beside it. -/
def NewErr (w : World) (r : List Int × Int) (e : Ending) (w' : World) : Prop := ∃ A n c, e = .returned (.tuple #[.slice A n c, .int .i64 r.2]) ∧ Lst w' A n c r.1 ∧ Below w.heap.size w w'
section
variable {w : World} {A B : Option Addr} {n c m d : Nat} {l a b : List Int}
theorem own_in (h : Lst w A n c l) : Calls Tryd.prog 15 #[.slice A n c] w (NewList w l) := by
  obtain ⟨rfl, h1, h2, h3, h4, h5⟩ := h
  refine (own_any A c l w h1 h4).mono ?_
  rintro e w' ⟨A', n', c', rfl, hm⟩
  obtain ⟨HN, HX, HO, HF, k1, k2⟩ := hm
  exact ⟨A', n', c', rfl, ⟨HN.out, HX.out, k1, k2, by rw [HN.out]; exact h4, h5⟩, HF.out⟩
theorem same_in (h : Lst w A n c a) (k : Lst w B m d b) : Calls Tryd.prog 21 #[.slice A n c, .slice B m d] w fun e w' => e = .returned (.bool (decide (a = b))) ∧ Below w.heap.size w w' := by
  obtain ⟨rfl, h1, h2, h3, h4, h5⟩ := h
  obtain ⟨rfl, k1, k2, k3, k4, k5⟩ := k
  exact same_any A B c d a b w h1 k1 h2 k2 h3 k3
theorem later_range {a b : List Int} (ha : ∀ x ∈ a, -9223372036854775808 ≤ x ∧ x ≤ 9223372036854775807) (hb : ∀ x ∈ b, -9223372036854775808 ≤ x ∧ x ≤ 9223372036854775807) : ∀ x ∈ SM.later a b, -9223372036854775808 ≤ x ∧ x ≤ 9223372036854775807 := by
  rcases SM.later_cases a b with ⟨e, _⟩ | ⟨e, _⟩ <;> rw [e] <;> assumption
theorem later_room {a b : List Int} (ha : a.length * 8 ≤ 140737488355328) (hb : b.length * 8 ≤ 140737488355328) : (SM.later a b).length * 8 ≤ 140737488355328 := by
  rcases SM.later_cases a b with ⟨e, _⟩ | ⟨e, _⟩ <;> rw [e] <;> assumption
/-- What Extend, Next and Parse answer are stamps. -/
theorem extend_ok (s : List Int) (n : Int) : (SM.extend s n).1.length ≤ 4 ∧ ∀ x ∈ (SM.extend s n).1, 1 ≤ x ∧ x ≤ 1099511627776 := by
  unfold SM.extend
  split
  · simp
  · split
    · simp
    · split
      · simp
      · rename_i h1 h2 h3
        have hv := SM.valid_iff.1 (by simpa using h1 : SM.valid s = true)
        have hk := SM.count_iff.1 (by simpa using h3 : SM.count n = true)
        refine ⟨by simp only [List.length_append, List.length_singleton]; omega, fun x hx => ?_⟩
        rcases List.mem_append.1 hx with h | h
        · exact hv.2 x h
        · rw [List.mem_singleton.1 h]; exact hk
theorem next_fits (s : List Int) : (SM.next s).1.length ≤ 4 ∧ ∀ x ∈ (SM.next s).1, 1 ≤ x ∧ x ≤ 1099511627776 := by
  unfold SM.next
  split
  · simp
  · split
    · simp
    · rename_i h1 h2
      have h3 : SM.valid s = true ∧ s ≠ [] := by
        cases hv : SM.valid s with
        | true => exact ⟨rfl, fun e => h1 (.inr e)⟩
        | false => exact absurd (.inl hv) h1
      have hv := SM.valid_iff.1 h3.1
      have hs := SM.snoc_of h3.2
      have hl : 1 ≤ SM.last s ∧ SM.last s ≤ 1099511627776 := hv.2 _ (by rw [hs]; simp [SM.last_snoc])
      refine ⟨?_, fun x hx => ?_⟩
      · rw [List.length_append, List.length_dropLast, List.length_singleton]
        have := hv.1
        omega
      · rcases List.mem_append.1 hx with h | h
        · exact hv.2 x (List.dropLast_subset _ h)
        · rw [List.mem_singleton.1 h]; omega
theorem parse_fits (t : List UInt8) : (SM.parse t).1.length ≤ 4 ∧ ∀ x ∈ (SM.parse t).1, 1 ≤ x ∧ x ≤ 1099511627776 := by
  rcases SM.parse_cases t with ⟨_, h, _⟩ | ⟨_, h, _⟩
  · exact SM.valid_iff.1 h
  · rw [h]; simp
theorem new_err {w w' : World} {r : List Int × Int} {v : Value} (h : r.1.length ≤ 4 ∧ ∀ x ∈ r.1, 1 ≤ x ∧ x ≤ 1099511627776) (g : Grew w r.1 v w') : NewErr w r (.returned (.tuple #[v, .int .i64 r.2])) w' := by
  obtain ⟨A, c, rfl, hl⟩ := g.lst (by omega) (fun x hx => by have := h.2 x hx; omega)
  exact ⟨A, _, c, rfl, hl, g.2⟩
theorem RefValid_in (h : Lst w A n c l) : Calls Tryd.prog 16 #[.slice A n c] w fun e w' => e = .returned (.bool (SM.valid l)) ∧ w = w' := by
  obtain ⟨rfl, h1, h2, h3, h4, h5⟩ := h
  exact RefValid_any A c l w h1 h2 h3
theorem RefCompare_in (h : Lst w A n c a) (k : Lst w B m d b) : Calls Tryd.prog 18 #[.slice A n c, .slice B m d] w fun e w' => e = .returned (.int .i64 (SM.cmp a b)) ∧ Below w.heap.size w w' := by
  obtain ⟨rfl, h1, h2, h3, h4, h5⟩ := h
  obtain ⟨rfl, k1, k2, k3, k4, k5⟩ := k
  exact RefCompare_any A B c d a b w h1 k1 h2 k2 h3 k3
theorem RefUnder_in (h : Lst w A n c a) (k : Lst w B m d b) : Calls Tryd.prog 20 #[.slice A n c, .slice B m d] w fun e w' => e = .returned (.bool (SM.under a b)) ∧ Below w.heap.size w w' := by
  obtain ⟨rfl, h1, h2, h3, h4, h5⟩ := h
  obtain ⟨rfl, k1, k2, k3, k4, k5⟩ := k
  exact RefUnder_any A B c d a b w h1 k1 h2 k2 h3 k3
theorem RefLater_in (h : Lst w A n c a) (k : Lst w B m d b) : Calls Tryd.prog 23 #[.slice A n c, .slice B m d] w (NewList w (SM.later a b)) := by
  obtain ⟨rfl, h1, h2, h3, h4, h5⟩ := h
  obtain ⟨rfl, k1, k2, k3, k4, k5⟩ := k
  refine (RefLater_any A B c d a b w h1 k1 h2 k2 h3 k3 h4 k4).mono ?_
  rintro e w' ⟨v, rfl, g⟩
  obtain ⟨A', c', rfl, hl⟩ := g.lst (later_room h4 k4) (later_range h5 k5)
  exact ⟨A', _, c', rfl, hl, g.2⟩
theorem RefExtend_in (x : Int) (hx : -9223372036854775808 ≤ x ∧ x ≤ 9223372036854775807) (h : Lst w A n c l) : Calls Tryd.prog 24 #[.slice A n c, .int .i64 x] w (NewErr w (SM.extend l x)) := by
  obtain ⟨rfl, h1, h2, h3, h4, h5⟩ := h
  refine (RefExtend_any A c l x w h1 h2 h3 hx).mono ?_
  rintro e w' ⟨v, rfl, g⟩
  exact new_err (extend_ok l x) g
theorem RefNext_in (h : Lst w A n c l) : Calls Tryd.prog 25 #[.slice A n c] w (NewErr w (SM.next l)) := by
  obtain ⟨rfl, h1, h2, h3, h4, h5⟩ := h
  refine (RefNext_any A c l w h1 h2 h3).mono ?_
  rintro e w' ⟨v, rfl, g⟩
  exact new_err (next_fits l) g
theorem RefText_in (h : Lst w A n c l) : Calls Tryd.prog 29 #[.slice A n c] w fun e w' => e = .returned (.string (txt (SM.text l))) ∧ Below w.heap.size w w' := by
  obtain ⟨rfl, h1, h2, h3, h4, h5⟩ := h
  exact RefText_any A c l w h1 h2 h3 h4 h5
theorem RefParse_in (t : ByteArray) (ht : t.size ≤ 4611686018427387904) : Calls Tryd.prog 27 #[.string t] w (NewErr w (SM.parse t.data.toList)) := by
  refine (RefParse_any t w ht).mono ?_
  rintro e w' ⟨v, rfl, g⟩
  exact new_err (parse_fits _) g
end
end Go.Proofs.YthhkgdknmehaoaaDoor
