/- The library's Split at a slash gives just the pieces. -/
import Derived.Test.YtpfljooceppcbaaDoorPathsMath
import Derived.Lib.Split
import Derived.Lib.SplitLaws
namespace Go.Proofs.YtpfljooceppcbaaDoor.PM

theorem split_one : ∀ (n : Nat) (l : List UInt8), l.length ≤ n → Lib.splitK [47] 0 (Lib.count l [47]) l = pcs [] l := by
  intro n
  induction n with
  | zero =>
    intro l hl
    have : l = [] := List.eq_nil_of_length_eq_zero (by omega)
    subst this
    rfl
  | succ n ih =>
    intro l hl
    rcases Lib.index_spec l [47] with ⟨hi, hn⟩ | ⟨i, hi, hil, hocc, hno⟩
    · rw [Lib.count_miss hi]
      show [l] = _
      rw [pcs_no]
      · rfl
      · intro hm
        obtain ⟨j, hj, he⟩ := List.getElem_of_mem hm
        have := hn j (by omega)
        unfold Lib.occAt at this
        rw [List.drop_eq_getElem_cons hj, he] at this
        simp at this
    · have hlt : i < l.length := by
        rcases Lib.occAt_room hocc with h | h
        · simp at h; omega
        · cases h
      have hc : l[i] = 47 := by
        unfold Lib.occAt at hocc
        rw [List.drop_eq_getElem_cons hlt] at hocc
        simp only [List.isPrefixOf, Bool.and_true, beq_iff_eq] at hocc
        exact hocc.symm
      have hl2 : l = l.take i ++ 47 :: l.drop (i + 1) := by
        rw [← hc, ← List.drop_eq_getElem_cons hlt, List.take_append_drop]
      have hni : (47 : UInt8) ∉ l.take i := by
        intro hm
        obtain ⟨j, hj, he⟩ := List.getElem_of_mem hm
        have hji : j < i := by simp at hj; omega
        have := hno j hji
        unfold Lib.occAt at this
        rw [List.drop_eq_getElem_cons (by omega)] at this
        rw [List.getElem_take] at he
        rw [he] at this
        simp at this
      rw [Lib.count_hit (by simp) hi, Nat.add_comm 1, Lib.splitK]
      rw [if_neg (by rw [hi]; intro h; have := beq_iff_eq.1 h; omega), hi]
      simp only [Int.toNat_natCast, Nat.add_zero, List.length_cons, List.length_nil, Nat.zero_add]
      rw [ih _ (by simp; omega)]
      have e : pcs [] l = pcs [] (l.take i ++ 47 :: l.drop (i + 1)) := congrArg (pcs []) hl2
      rw [e, pcs_app47, pcs_no _ _ hni]
      rfl

theorem splitB_one (s : ByteArray) : (Lib.splitB ⟨#[47]⟩ 0 (Lib.countB s ⟨#[47]⟩) s).map (·.data.toList) = pcs [] s.data.toList := by
  rw [Lib.splitB_data]
  exact split_one _ _ (Nat.le_refl _)

/-- A text of bytes as a value. -/
def str (l : List UInt8) : Value := .string ⟨l.toArray⟩
theorem str_data (s : ByteArray) : str s.data.toList = .string s := rfl

theorem splitB_vals (s : ByteArray) : (Lib.splitB ⟨#[47]⟩ 0 (Lib.countB s ⟨#[47]⟩) s).map Value.string = (pcs [] s.data.toList).map str := by
  rw [← splitB_one, List.map_map]
  rfl

theorem countB_one (s : ByteArray) : Lib.countB s ⟨#[47]⟩ + 1 = (pcs [] s.data.toList).length := by
  rw [← splitB_one, List.length_map]
  exact (Lib.splitB_all ⟨#[47]⟩ (Nat.le_refl 1) 0 _ s rfl).symm

end Go.Proofs.YtpfljooceppcbaaDoor.PM
