/- What two orders of putting leave of a list: one and the same. -/
import Derived.Test.YtfgilhcjfpfjbaaDoorPsL5
namespace Go.Proofs.YtfgilhcjfpfjbaaDoor.ahead
open SE (Ent)
set_option linter.unusedVariables false
/-- An entry that an empty set takes. -/
def good (e : Ent) : Bool := PM.okB (SE.p e) && SE.okMode e.mode
theorem puts_inv : ∀ (l : List Ent) {L : List Ent}, SE.Inv L → SE.Inv (fillOn L l)
  | [], _, h => h
  | e :: r, L, h => puts_inv r (SE.Inv.put h e)
theorem put_one {L : List Ent} {e : Ent} (hn : ∀ x ∈ L, x.id ≠ e.id) (hl : L.length < 64) : (SE.put L e).1.Perm (L ++ [e].filter good) ∧ (decide ((SE.put L e).2 = 0)) = good e := by
  have hh : SE.has L e.id = false := by
    rw [Bool.eq_false_iff]
    intro h
    obtain ⟨x, hx, hi⟩ := SE.has_iff.1 h
    exact hn x hx hi
  unfold SE.put good
  cases h1 : PM.okB (SE.p e) with
  | false => simp [h1]
  | true =>
    cases h2 : SE.okMode e.mode with
    | false => simp [h1, h2]
    | true =>
      have hne : ¬ L.length = 64 := by omega
      simp only [hh, hne, if_false, Bool.true_eq_false, Bool.false_eq_true, Bool.and_self, decide_true]
      refine ⟨?_, trivial⟩
      rw [List.filter_cons, if_pos (by rw [h1, h2]; rfl), List.filter_nil]
      exact (SE.ins_perm L e).trans (List.perm_append_singleton e L).symm
theorem puts_perm : ∀ (l : List Ent) {L : List Ent}, (∀ x ∈ L, ∀ e ∈ l, x.id ≠ e.id) → (l.map (·.id)).Nodup → L.length + l.length ≤ 64 → (fillOn L l).Perm (L ++ l.filter good)
  | [], L, _, _, _ => by simp [fillOn]
  | e :: r, L, h1, h2, h3 => by
    rw [List.map_cons, List.nodup_cons] at h2
    rw [List.length_cons] at h3
    obtain ⟨p1, _⟩ := put_one (L := L) (e := e) (fun x hx => h1 x hx e (by simp)) (by omega)
    have hlen : (SE.put L e).1.length ≤ L.length + 1 := by
      rw [p1.length_eq, List.length_append]
      have := List.length_filter_le good [e]
      simpa using this
    have ih := puts_perm r (L := (SE.put L e).1) (fun x hx y hy => by
      have hx2 := p1.mem_iff.1 hx
      rcases List.mem_append.1 hx2 with hx3 | hx3
      · exact h1 x hx3 y (List.mem_cons_of_mem _ hy)
      · have hx4 : x = e := by simpa using (List.mem_filter.1 hx3).1
        subst hx4
        exact fun e1 => h2.1 (List.mem_map.2 ⟨y, hy, e1.symm⟩)) h2.2 (by omega)
    refine ih.trans ?_
    have h4 := p1.append_right (r.filter good)
    refine h4.trans ?_
    rw [List.append_assoc]
    refine List.Perm.append_left L ?_
    rw [← List.filter_append]
    exact List.Perm.refl _
/-- What was put first and is dropped at the end leaves no trace, whatever the order of the others. -/
theorem no_trace {l : List Ent} {m : Ent} (hi : (l.map (·.id)).Nodup) (hm : ∀ e ∈ l, e.id ≠ m.id) (hl : l.length ≤ 60) :
    SE.drop (fillOn (SE.put [] m).1 l.reverse) m.id = fillOn [] l ∧ SE.has (fillOn (SE.put [] m).1 l.reverse) m.id = decide ((SE.put [] m).2 = 0) := by
  obtain ⟨p1, g1⟩ := put_one (L := []) (e := m) (by simp) (by simp)
  have hir : (l.reverse.map (·.id)).Nodup := by rw [List.map_reverse]; exact (List.reverse_perm _).nodup_iff.2 hi
  have hb := puts_perm l.reverse (L := (SE.put [] m).1) (fun x hx y hy => by
    have hx2 := p1.mem_iff.1 hx
    have hx4 : x = m := by simpa using (List.mem_filter.1 (by simpa using hx2 : x ∈ [m].filter good)).1
    subst hx4
    exact fun e1 => hm y (List.mem_reverse.1 hy) e1.symm) hir (by
      have := p1.length_eq
      have h2 := List.length_filter_le good [m]
      simp only [List.nil_append] at this
      rw [List.length_reverse, this]
      have h3 : [m].length = 1 := rfl
      omega)
  have ha := puts_perm l (L := []) (by simp) hi (by simp; omega)
  have hall : (fillOn (SE.put [] m).1 l.reverse).Perm ([m].filter good ++ l.filter good) := by
    refine hb.trans (List.Perm.append (by simpa using p1) ?_)
    rw [List.filter_reverse]
    exact List.reverse_perm _
  constructor
  · refine SE.same_list ?_ (puts_inv l SE.Inv.nil).rises ?_
    · exact ((puts_inv l.reverse (SE.Inv.put SE.Inv.nil m)).rises).sublist (SE.drop_sublist _ _)
    · refine List.Perm.trans ?_ ha.symm
      unfold SE.drop
      refine (hall.filter _).trans ?_
      rw [List.filter_append, List.nil_append]
      have e1 : ([m].filter good).filter (fun e => decide (e.id ≠ m.id)) = [] := by
        rw [List.filter_eq_nil_iff]
        intro x hx
        have hx4 : x = m := by simpa using (List.mem_filter.1 hx).1
        simp [hx4]
      have e2 : (l.filter good).filter (fun e => decide (e.id ≠ m.id)) = l.filter good := by
        rw [List.filter_eq_self]
        intro x hx
        simpa using hm x (List.mem_filter.1 hx).1
      rw [e1, e2, List.nil_append]
  · rw [g1]
    cases hg : good m with
    | true =>
      refine SE.has_iff.2 ⟨m, hall.mem_iff.2 (List.mem_append.2 (.inl (List.mem_filter.2 ⟨by simp, hg⟩))), rfl⟩
    | false =>
      rw [Bool.eq_false_iff]
      intro h
      obtain ⟨x, hx, hxi⟩ := SE.has_iff.1 h
      rcases List.mem_append.1 (hall.mem_iff.1 hx) with h1 | h1
      · obtain ⟨h2, h3⟩ := List.mem_filter.1 h1
        have hx4 : x = m := by simpa using h2
        rw [hx4, hg] at h3
        cases h3
      · exact hm x (List.mem_filter.1 h1).1 hxi
end Go.Proofs.YtfgilhcjfpfjbaaDoor.ahead
