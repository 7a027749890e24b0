/- The calls of the document's own answers (package subletref01) and of the statements' helper that holds two lists against each other. -/
import Derived.Test.YtpfljooceppcbaaDoorPathsW2
import Derived.OwnWalk
namespace Go.Proofs.YtpfljooceppcbaaDoor
open Go.RowKit
set_option maxRecDepth 100000
open PM (str)

theorem all_ends {s : ByteArray} : (rest s s.size).all PM.isSeg = true := by rw [rest_end]; rfl
theorem all_step {s : ByteArray} {k : Nat} (h : k < s.size) (H : Hid (s.data.toList.all PM.isSeg = (rest s k).all PM.isSeg))
    (h1 : 97 ≤ (s[k].toNat : Int) ∧ (s[k].toNat : Int) ≤ 122 ∨ 48 ≤ (s[k].toNat : Int) ∧ (s[k].toNat : Int) ≤ 57) : Hid (s.data.toList.all PM.isSeg = (rest s (k + 1)).all PM.isSeg) := by
  refine Lib.hid ?_
  have : PM.isSeg s[k] = true := by unfold PM.isSeg; rw [decide_eq_true_eq]; omega
  rw [H.out, rest_cons s k h, List.all_cons, this, Bool.true_and]
theorem all_bad {s : ByteArray} {k : Nat} (h : k < s.size) (H : Hid (s.data.toList.all PM.isSeg = (rest s k).all PM.isSeg))
    (h1 : ¬ (97 ≤ (s[k].toNat : Int) ∧ (s[k].toNat : Int) ≤ 122 ∨ 48 ≤ (s[k].toNat : Int) ∧ (s[k].toNat : Int) ≤ 57)) : false = PM.segB s.data.toList := by
  have : PM.isSeg s[k] = false := by unfold PM.isSeg; rw [decide_eq_false_iff_not]; omega
  have h2 : s.data.toList.all PM.isSeg = false := by rw [H.out, rest_cons s k h, List.all_cons, this, Bool.false_and]
  unfold PM.segB
  rw [h2]; simp
theorem all_end {s : ByteArray} {k : Nat} (h : s.size = k) (h1 : 1 ≤ s.size) (h6 : s.size ≤ 6) (H : Hid (s.data.toList.all PM.isSeg = (rest s k).all PM.isSeg)) : true = PM.segB s.data.toList := by
  subst h
  refine ((PM.segB_iff _).2 ⟨by rw [len_toList]; exact h1, by rw [len_toList]; exact h6, ?_⟩).symm
  rw [H.out, all_ends]
theorem seg_short {s : ByteArray} (h : ¬ (1 ≤ s.size ∧ s.size ≤ 6)) : false = PM.segB s.data.toList := by
  symm
  rw [Bool.eq_false_iff, ne_eq, PM.segB_iff, len_toList]
  omega

/-! ### Split, by definition -/
theorem own_form {w : World} {base : Nat} {e : TypeId} {v : Value} {n : Nat} {xs : List Value} (h : w.ownsRow base e 1 v n xs) : ∃ A c, v = .slice A n c := by
  rcases h.2 with ⟨rfl, rfl⟩ | ⟨g, cap, cur, rfl, _⟩
  · exact ⟨_, _, rfl⟩
  · exact ⟨_, _, rfl⟩
theorem own_strs {w : World} {base : Nat} {A : Option Addr} {n c : Nat} {xs : List (List UInt8)} (h : w.ownsRow base 9 1 (.slice A n c) n (xs.map str)) (hn : xs.length = n) : StrsAt w A c xs := by
  have hl := h.lt
  have hc := @World.ownsRow.cells _ _ _ _ _ _ _ h
  rcases h.2 with ⟨hv, hn0⟩ | ⟨g, cap, cur, hv, _, hg, hle, _⟩
  · have : xs = [] := List.eq_nil_of_length_eq_zero (by omega)
    subst this
    exact StrsAt.nil _ _ _
  · cases hv
    refine ⟨by omega, fun h0 => ⟨g, 0, rfl, (hl g rfl).2, fun j x hx => ?_⟩⟩
    have := hc rfl j (str x) (by rw [List.getElem?_map, hx]; rfl)
    rw [Addr.add_lit] at this
    exact this

/-- The text's bytes from 'f' up to 'k'. -/
def cut (s : ByteArray) (f k : Nat) : List UInt8 := (s.data.toList.take k).drop f
theorem cut_data (s : ByteArray) (f k : Nat) : (s.extract f k).data.toList = cut s f k := by
  rw [Lib.extract_data]
  unfold cut
  simp [List.drop_take]
theorem cut_str (s : ByteArray) (f k : Nat) : Value.string (s.extract f k) = str (cut s f k) := by
  rw [← cut_data]; rfl
theorem cut_more (s : ByteArray) (f k : Nat) (hf : f ≤ k) (h : k < s.size) : cut s f (k + 1) = cut s f k ++ [s[k]] := by
  unfold cut
  rw [List.take_succ_eq_append_getElem (by rw [len_toList]; exact h), List.drop_append_of_le_length (by simp; omega)]
  rfl
theorem cut_self (s : ByteArray) (k : Nat) : cut s k k = [] := by
  unfold cut
  apply List.drop_of_length_le
  simp
  omega
theorem info_str : (Tryd.prog.info? 9).map (fun i => (i.zero, i.size, i.bytes)) = some (some (.string ⟨#[]⟩), 1, 16) := by kernel_rfl

/-- What is known at byte k: the pieces are those that are done, then those of what is at hand. -/
def AtByte (s : ByteArray) (o : List (List UInt8)) (f k : Nat) : Prop :=
  (k ≤ s.size → PM.pcs [] s.data.toList = o ++ PM.pcs (cut s f k) (rest s k)) ∧ (s.size < k → PM.pcs [] s.data.toList = o)
section
variable {s : ByteArray} {o : List (List UInt8)} {f k : Nat}
theorem AtByte.more (H : AtByte s o f k) (hf : f ≤ k) (h : k < s.size) (hc : ((s[k].toNat : Int) != 47) = true) : AtByte s o f (k + 1) := by
  have hc' : s[k] ≠ 47 := fun e => by rw [e] at hc; exact absurd hc (by decide)
  refine ⟨fun _ => ?_, fun h2 => by omega⟩
  rw [H.1 (by omega), rest_cons s k h, PM.pcs, if_neg hc', ← cut_more s f k hf h]
theorem AtByte.slash (H : AtByte s o f k) (h : k < s.size) (hc : ((s[k].toNat : Int) != 47) = false) :
    (∃ R, PM.pcs [] s.data.toList = o ++ cut s f k :: R) ∧ AtByte s (o ++ [cut s f k]) (k + 1) (k + 1) := by
  have hc' : s[k] = 47 := UInt8.toNat_inj.1 (by simp only [bne_eq_false_iff_eq] at hc; rw [show (47 : UInt8).toNat = 47 from rfl]; omega)
  have := H.1 (by omega)
  rw [rest_cons s k h, PM.pcs, if_pos hc'] at this
  exact ⟨⟨_, this⟩, fun _ => by rw [cut_self, this]; simp, fun h2 => by omega⟩
theorem AtByte.last (H : AtByte s o f k) (h : s.size = k) : (∃ R, PM.pcs [] s.data.toList = o ++ cut s f k :: R) ∧ AtByte s (o ++ [cut s f k]) (k + 1) (k + 1) := by
  subst h
  have := H.1 (Nat.le_refl _)
  rw [rest_end, PM.pcs] at this
  exact ⟨⟨[], this⟩, fun h2 => by omega, fun _ => this⟩
theorem many_bad (h0 : s.data.toList ≠ []) {x : List UInt8} (H : ∃ R, PM.pcs [] s.data.toList = o ++ x :: R) (h : (o.length : Int) = 4) : PM.okB s.data.toList = false := by
  obtain ⟨R, hR⟩ := H
  rw [Bool.eq_false_iff, ne_eq, PM.okB_iff _ h0, hR]
  simp only [List.length_append, List.length_cons]
  omega
theorem seg_bad (h0 : s.data.toList ≠ []) {x : List UInt8} (H : ∃ R, PM.pcs [] s.data.toList = o ++ x :: R) (h : PM.segB x = false) : PM.okB s.data.toList = false := by
  obtain ⟨R, hR⟩ := H
  rw [Bool.eq_false_iff, ne_eq, PM.okB_iff _ h0, hR]
  simp only [List.all_append, List.all_cons, h, Bool.false_and, Bool.and_false]
  simp
theorem AtByte.done (h0 : s.data.toList ≠ []) (H : AtByte s o f k) (h : s.size < k) (h4 : o.length ≤ 4) (hs : o.all PM.segB = true) : PM.okB s.data.toList = true ∧ PM.segsOf s.data.toList = o := by
  have := H.2 h
  refine ⟨(PM.okB_iff _ h0).2 ⟨by rw [this]; exact h4, by rw [this]; exact hs⟩, ?_⟩
  unfold PM.segsOf
  rw [if_neg h0, this]
end

theorem one_str {x : ByteArray} : ∀ u ∈ [Value.string x], u.oneCell' = true := by
  intro u hu
  simp at hu
  subst hu
  rfl
theorem bad_of {n : Int} {b : Bool} (h : ¬ n = 4) (h2 : (n == 4) = true ∨ (!b) = true) : b = false := by
  rcases h2 with h2 | h2
  · exact absurd (beq_iff_eq.1 h2) h
  · simpa using h2
theorem size_alloc (w : World) (o : Obj) : (w.alloc o).heap.size = w.heap.size + 1 := by simp
/-- What the document's Split leaves. -/
def RSplitPost (l : List UInt8) (w : World) (e : Ending) (w' : World) : Prop :=
  (PM.okB l = true ∧ (∃ A c, e = .returned (.tuple #[.slice A (PM.segsOf l).length c, .int .i64 0]) ∧ StrsAt w' A c (PM.segsOf l)) ∨ PM.okB l = false ∧ e = .returned (.tuple #[.slice none 0 0, .int .i64 10])) ∧ Below w.heap.size w w'

end Go.Proofs.YtpfljooceppcbaaDoor
