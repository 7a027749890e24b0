/- What is left when all has been dropped; a set at the dropping. -/
import Derived.Test.YtpfljooceppcbaaDoorPsOS2
namespace Go.Proofs.YtpfljooceppcbaaDoor
open Go.RowKit
open SE (Ent)
set_option linter.unusedVariables false
set_option linter.unusedSimpArgs false
set_option maxRecDepth 100000
def dropsOn (L l : List Ent) : List Ent := l.foldl (fun L e => SE.drop L e.id) L
theorem drops_step {L l : List Ent} {k : Nat} (h : k < l.length) : dropsOn L (l.take (k + 1)) = SE.drop (dropsOn L (l.take k)) l[k].id := by
  unfold dropsOn
  rw [List.take_add_one, List.getElem?_eq_getElem h, Option.toList_some, List.foldl_append]
  rfl
theorem drops_mem : ∀ (l L : List Ent) {x : Ent}, x ∈ dropsOn L l → x ∈ L ∧ ∀ e ∈ l, x.id ≠ e.id
  | [], L, x, h => ⟨h, fun e he => by cases he⟩
  | a :: l, L, x, h => by
    obtain ⟨h1, h2⟩ := drops_mem l (SE.drop L a.id) (x := x) h
    unfold SE.drop at h1
    rw [List.mem_filter] at h1
    refine ⟨h1.1, fun e he => ?_⟩
    rcases List.mem_cons.1 he with rfl | he
    · exact of_decide_eq_true h1.2
    · exact h2 e he
theorem put_mem {L : List Ent} {e x : Ent} (h : x ∈ (SE.put L e).1) : x ∈ L ∨ x = e := by
  unfold SE.put at h
  split at h
  · exact .inl h
  · split at h
    · exact .inl h
    · split at h
      · exact .inl h
      · split at h
        · exact .inl h
        · exact (SE.ins_mem.1 h).symm
theorem fillOn_mem : ∀ (l L : List Ent) {x : Ent}, x ∈ fillOn L l → x ∈ L ∨ x ∈ l
  | [], L, x, h => .inl h
  | a :: l, L, x, h => by
    rcases fillOn_mem l (SE.put L a).1 (x := x) h with h | h
    · rcases put_mem h with h | rfl
      · exact .inl h
      · exact .inr (List.mem_cons_self ..)
    · exact .inr (List.mem_cons_of_mem _ h)
theorem drops_all (l : List Ent) : dropsOn (fill l) l = [] := by
  refine List.eq_nil_iff_forall_not_mem.2 fun x hx => ?_
  obtain ⟨h1, h2⟩ := drops_mem l _ hx
  rcases fillOn_mem l [] h1 with h | h
  · cases h
  · exact h2 x h rfl
/-- A set while its entries are dropped. -/
def Dr (S : Sets) (w2 w : World) (g : Nat) (Fs : List Nat) (M : List Ent) : Prop := ∃ F, S.Is w g M F ∧ (∀ b ∈ F, b ∈ Fs ∨ w2.heap.size ≤ b) ∧ Mod Fs w2 w
section
variable {S : Sets} {w2 w w' : World} {g : Nat} {Fs : List Nat} {M : List Ent}
theorem Dr.mod (h : Dr S w2 w g Fs M) : Mod Fs w2 w := by obtain ⟨F, _, _, h⟩ := h; exact h
theorem Dr.on (h : Dr S w2 w g Fs M) (hb : Below w.heap.size w w') : Dr S w2 w' g Fs M := by
  obtain ⟨F, h1, h2, h3⟩ := h
  exact ⟨F, Sets.below h1 hb, h2, h3.trans (Mod.of_below hb []) (by simp)⟩
theorem Dr.drop (h : Dr S w2 w g Fs M) (hx : HasMax w) (id : Int) : Calls Tryd.prog 9 #[ptr g, .int .i64 id] w fun x w' => ∃ b, x = .returned (.bool b) ∧ Hid (Dr S w2 w' g Fs (SE.drop M id)) := by
  obtain ⟨F, h1, h2, h3⟩ := h
  refine (S.drop h1 hx id).mono fun x w' ⟨F', k1, k2, k3, k4⟩ => ⟨_, k1, Lib.hid ⟨F', k2, fun b hb => ?_, h3.trans k3 h2⟩⟩
  rcases k4 b hb with h | h
  · exact h2 b h
  · exact .inr (Nat.le_trans h3.size h)
theorem Dr.len (h : Dr S w2 w g Fs M) : Calls Tryd.prog 16 #[ptr g] w fun x w' => x = .returned (.int .i64 (M.length : Int)) ∧ Below w.heap.size w w' := by
  obtain ⟨F, h1, _⟩ := h
  exact S.len h1
theorem Dr.list (h : Dr S w2 w g Fs M) : Calls Tryd.prog 11 #[ptr g] w (OneE w M) := by
  obtain ⟨F, h1, _⟩ := h
  exact S.list h1
end
end Go.Proofs.YtpfljooceppcbaaDoor
