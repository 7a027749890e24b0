/- What over, under and clash hold, entry by entry. -/
import Derived.Test.YtbgcjbekbeobnaaDoorPsL5
namespace Go.Proofs.YtbgcjbekbeobnaaDoor
open SE (Ent)
set_option linter.unusedVariables false
theorem same_id {L : List Ent} (hi : (L.map (·.id)).Nodup) {x e : Ent} (hx : x ∈ L) (he : e ∈ L) (h : x.id = e.id) : x = e := by
  obtain ⟨i, hil, rfl⟩ := List.getElem_of_mem hx
  obtain ⟨j, hjl, rfl⟩ := List.getElem_of_mem he
  have hp := List.pairwise_iff_getElem.1 (List.pairwise_map.1 hi)
  rcases Nat.lt_trichotomy i j with k | k | k
  · exact absurd h (hp i j hil hjl k)
  · subst k; rfl
  · exact absurd h.symm (hp j i hjl hil k)
theorem mem_sel {L : List Ent} (hi : (L.map (·.id)).Nodup) {e : Ent} (he : e ∈ L) (f : Ent → Bool) : decide (e.id ∈ SE.rise (sel L f)) = f e := by
  have key : e.id ∈ SE.rise (sel L f) ↔ f e = true := by
    rw [SE.rise_mem]
    unfold sel
    rw [List.mem_map]
    constructor
    · rintro ⟨x, hx, h⟩
      rw [List.mem_filter] at hx
      rw [← same_id hi hx.1 he h]
      exact hx.2
    · intro h
      exact ⟨e, List.mem_filter.2 ⟨he, h⟩, rfl⟩
  cases hf : f e with
  | true => exact decide_eq_true (key.2 hf)
  | false => exact decide_eq_false (fun h => by rw [key.1 h] at hf; cases hf)
theorem sel_small (L : List Ent) (f : Ent → Bool) : (SE.rise (sel L f)).length ≤ L.length := by
  rw [SE.rise_len]
  unfold sel
  rw [List.length_map]
  exact List.length_filter_le _ _
theorem sel_none {L : List Ent} {f : Ent → Bool} (h : ∀ e ∈ L, f e = false) : SE.rise (sel L f) = [] := by
  unfold sel
  rw [List.filter_eq_nil_iff.2 (fun e he => by rw [h e he]; decide)]
  rfl
theorem cov_no {p q : List UInt8} (h : PM.okB q = false) : PM.cov p q = false := by
  cases hc : PM.cov p q with
  | false => rfl
  | true => rw [PM.cov_okr hc] at h; cases h
theorem cov_no' {p q : List UInt8} (h : PM.okB q = false) : PM.cov q p = false := by
  cases hc : PM.cov q p with
  | false => rfl
  | true => rw [PM.cov_okl hc] at h; cases h
theorem over_facts {L : List Ent} (h : SE.Inv L) (q : List UInt8) : ∃ l, SE.over L q = l ∧ (∀ e ∈ L, decide (e.id ∈ l) = PM.cov (SE.p e) q) ∧ l.length ≤ L.length ∧ (PM.okB q = false → l = []) :=
  ⟨_, rfl, fun e he => mem_sel h.ids he _, sel_small L _, fun hq => sel_none fun e _ => cov_no hq⟩
theorem under_facts {L : List Ent} (h : SE.Inv L) (q : List UInt8) : ∃ l, SE.under L q = l ∧ (∀ e ∈ L, decide (e.id ∈ l) = PM.cov q (SE.p e)) ∧ l.length ≤ L.length ∧ (PM.okB q = false → l = []) :=
  ⟨_, rfl, fun e he => mem_sel h.ids he _, sel_small L _, fun hq => sel_none fun e _ => cov_no' hq⟩
theorem clash_facts {L : List Ent} (h : SE.Inv L) (q : List UInt8) (m who : Int) : ∃ l, SE.clash L q m who = l ∧ (∀ e ∈ L, decide (e.id ∈ l) = SE.against q m who e) ∧ l.length ≤ L.length ∧ (PM.okB q = false → l = []) ∧ (SE.okMode m = false → l = []) :=
  ⟨_, rfl, fun e he => mem_sel h.ids he _, sel_small L _, fun hq => sel_none fun e _ => by unfold SE.against SE.lap; rw [cov_no hq, cov_no' hq]; simp, fun hm => sel_none fun e _ => by unfold SE.against; rw [hm]; rfl⟩
end Go.Proofs.YtbgcjbekbeobnaaDoor
