/- The landed package's sets are sets as the statements use them. -/
import Derived.Test.YtpfljooceppcbaaDoorPtList
import Derived.Test.YtpfljooceppcbaaDoorPsSet
namespace Go.Proofs.YtpfljooceppcbaaDoor
open Go.RowKit
open SE (Ent)
set_option linter.unusedVariables false
set_option maxRecDepth 100000
/-- A set whose list is L, made of the blocks F. -/
def IsSet (w : World) (g : Nat) (L : List Ent) (F : List Nat) : Prop :=
  ∃ T own M D, SetAt w g L T own M D ∧ Of own F ∧ g ∈ F ∧ M ∈ F ∧ (∀ b ∈ F, b < w.heap.size) ∧ ∀ b ∈ F, b = g ∨ b = M ∨ ∃ t, own b = some t
/-- The blocks that branches own, as a list. -/
def ownedBy (own : Owner) (n : Nat) : List Nat := (List.range n).filter fun b => (own b).isSome
theorem mem_owned {own : Owner} {n b : Nat} : b ∈ ownedBy own n ↔ b < n ∧ ∃ t, own b = some t := by
  unfold ownedBy
  rw [List.mem_filter, List.mem_range, Option.isSome_iff_exists]
theorem SetAt.is {w : World} {g M : Nat} {L D : List Ent} {T : Tr} {own : Owner} (h : SetAt w g L T own M D) : IsSet w g L (g :: M :: ownedBy own w.heap.size) := by
  refine ⟨T, own, M, D, h, fun b t e => ?_, by simp, by simp, fun b hb => ?_, fun b hb => ?_⟩
  · exact List.mem_cons_of_mem _ (List.mem_cons_of_mem _ (mem_owned.2 ⟨h.tree.lt b t e, t, e⟩))
  · rcases List.mem_cons.1 hb with e | hb
    · rw [e]; exact h.cells.lt
    · rcases List.mem_cons.1 hb with e | hb
      · rw [e]; exact h.map.lt
      · exact (mem_owned.1 hb).1
  · rcases List.mem_cons.1 hb with e | hb
    · exact .inl e
    · rcases List.mem_cons.1 hb with e | hb
      · exact .inr (.inl e)
      · exact .inr (.inr (mem_owned.1 hb).2)
theorem put_is {w w' : World} {g M : Nat} {L' : List Ent} {own : Owner} {F : List Nat} (hO : Of own F) (hg : g ∈ F) (hM : M ∈ F) (h : PutSet w g own M L' w') : ∃ F', IsSet w' g L' F' ∧ Mod F w w' ∧ ∀ b ∈ F', b ∈ F ∨ w.heap.size ≤ b := by
  obtain ⟨T', own', D', h1, h2, h3⟩ := h
  refine ⟨_, h1.is, h2 F hO hg hM, fun b hb => ?_⟩
  rcases List.mem_cons.1 hb with e | hb
  · rw [e]; exact .inl hg
  · rcases List.mem_cons.1 hb with e | hb
    · rw [e]; exact .inl hM
    · obtain ⟨_, t, ht⟩ := mem_owned.1 hb
      rcases h3.new b t ht with h | h
      · exact .inl (hO b t h)
      · exact .inr h
def theSets : Sets where
  Is := IsSet
  inv := fun ⟨T, own, M, D, h, _⟩ => h.inv
  fair := fun ⟨T, own, M, D, h, _⟩ => h.fair
  lt := fun ⟨T, own, M, D, h, _, _, _, h4, _⟩ => h4
  mod := fun ⟨T, own, M, D, h, h1, h2, h3, h4, h5⟩ hm hn => ⟨T, own, M, D, h.mod hm (fun b hb => by
    have hF : b ∉ _ := fun hf => hn b hf hb
    refine ⟨?_, fun e => hF (e ▸ h2), fun e => hF (e ▸ h3)⟩
    cases ho : own b with
    | none => rfl
    | some t => exact absurd (h1 b t ho) hF), h1, h2, h3, fun b hb => Nat.lt_of_lt_of_le (h4 b hb) hm.size, h5⟩
  new := fun w _ => (New_any w).mono fun x w' ⟨h1, h2, h3, h4⟩ => ⟨_, _, h1, h2.is, h3, fun b hb => by
    rcases List.mem_cons.1 hb with e | hb
    · omega
    · rcases List.mem_cons.1 hb with e | hb
      · omega
      · obtain ⟨_, t, ht⟩ := mem_owned.1 hb
        unfold bareOwn at ht
        split at ht
        · omega
        · cases ht⟩
  put := fun {w g L F} ⟨T, own, M, D, h, h1, h2, h3, _⟩ hx e hE => by
    cases ho : PM.okB (SE.p e) with
    | true => exact (Put_ok w h e hE hx ho).mono fun x w' ⟨k1, k2⟩ => (put_is h1 h2 h3 k2).elim fun F' hF => ⟨F', k1, hF⟩
    | false =>
      have hp : SE.put L e = (L, 10) := by unfold SE.put; rw [if_pos ho]
      rw [hp]
      exact (Put_bad w h e hE hx ho).mono fun x w' ⟨k1, k2⟩ => (put_is h1 h2 h3 (PutSet.same h k2)).elim fun F' hF => ⟨F', k1, hF⟩
  drop := fun {w g L F} ⟨T, own, M, D, h, h1, h2, h3, _⟩ hx id => (Drop_set w h id hx).mono fun x w' ⟨k1, k2⟩ => (put_is h1 h2 h3 k2).elim fun F' hF => ⟨F', k1, hF⟩
  get := fun {w g L F} ⟨T, own, M, D, h, _⟩ id => Get_set w h id
  len := fun {w g L F} ⟨T, own, M, D, h, _⟩ => (Len_set w h).mono fun x w' ⟨k1, k2⟩ => ⟨k1, by rw [k2]; exact Below.refl _ _⟩
  list := fun {w g L F} ⟨T, own, M, D, h, _⟩ => List_set w h
  clash := fun {w g L F} ⟨T, own, M, D, h, _⟩ hx q m who hq => Clash_set q m who w hx hq h
  over := fun {w g L F} ⟨T, own, M, D, h, _⟩ hx q hq => Over_set q w hx hq h
  under := fun {w g L F} ⟨T, own, M, D, h, _⟩ hx q hq => Under_set q w hx hq h
  putNil := fun w e _ => Put_nil w e
  dropNil := fun w id => Drop_nil w id
  getNil := fun w id => Get_nil w id
  lenNil := fun w => (Len_nil w).mono fun x w' ⟨k1, k2⟩ => ⟨k1, by rw [k2]; exact Below.refl _ _⟩
  listNil := fun w => List_nil w
  clashNil := fun w q m who hx hq => Clash_nil q m who w hx hq
  overNil := fun w q hx hq => Over_nil q w hx hq
  underNil := fun w q hx hq => Under_nil q w hx hq
end Go.Proofs.YtpfljooceppcbaaDoor
