/- An agenda in memory: its items' cells and how many are in; New, in, Len. -/
import Derived.Test.YtkgipdhbaiaaeaaAgMath2
namespace Go.Proofs.Ytkgipdhbaiaaeaa
open Go.RowKit
open AM (It HS g sw)
set_option linter.unusedVariables false
set_option linter.unusedSimpArgs false
set_option maxRecDepth 100000
def c3 (x : It) : List Value := [.int .i64 x.due, .int .i64 x.kind, .int .i64 x.key]
def three (x : It) : Array Value := #[.int .i64 x.due, .int .i64 x.kind, .int .i64 x.key]
def flat (h : List It) : List Value := h.flatMap c3
theorem flat_len (h : List It) : (flat h).length = h.length * 3 := by
  induction h with
  | nil => rfl
  | cons a h ih => unfold flat at *; rw [List.flatMap_cons, List.length_append, ih]; show 3 + h.length * 3 = (h.length + 1) * 3; omega
theorem flat_append (a b : List It) : flat (a ++ b) = flat a ++ flat b := by unfold flat; rw [List.flatMap_append]
theorem flat_at {h : List It} {i : Nat} {x : It} (hx : h[i]? = some x) : (flat h)[i * 3]? = some (.int .i64 x.due) ∧ (flat h)[i * 3 + 1]? = some (.int .i64 x.kind) ∧ (flat h)[i * 3 + 2]? = some (.int .i64 x.key) := by
  induction h generalizing i with
  | nil => simp at hx
  | cons a h ih =>
    have e : flat (a :: h) = c3 a ++ flat h := by unfold flat; rw [List.flatMap_cons]
    rw [e]
    cases i with
    | zero => simp at hx; subst hx; exact ⟨rfl, rfl, rfl⟩
    | succ i =>
      rw [List.getElem?_cons_succ] at hx
      obtain ⟨h0, h1, h2⟩ := ih hx
      have h3 : ∀ k, (c3 a ++ flat h)[k + 3]? = (flat h)[k]? := fun k => by rw [List.getElem?_append_right (by simp [c3])]; simp [c3]
      exact ⟨(congrArg (fun k => (c3 a ++ flat h)[k]?) (show (i + 1) * 3 = i * 3 + 3 by omega)).trans ((h3 _).trans h0),
        (congrArg (fun k => (c3 a ++ flat h)[k]?) (show (i + 1) * 3 + 1 = i * 3 + 1 + 3 by omega)).trans ((h3 _).trans h1),
        (congrArg (fun k => (c3 a ++ flat h)[k]?) (show (i + 1) * 3 + 2 = i * 3 + 2 + 3 by omega)).trans ((h3 _).trans h2)⟩
theorem flat_set (h : List It) (i : Nat) (x : It) : flat (h.set i x) = (((flat h).set (i * 3) (.int .i64 x.due)).set (i * 3 + 1) (.int .i64 x.kind)).set (i * 3 + 2) (.int .i64 x.key) := by
  induction h generalizing i with
  | nil => rfl
  | cons a h ih =>
    have e : ∀ a : It, flat (a :: h) = c3 a ++ flat h := fun a => by unfold flat; rw [List.flatMap_cons]
    cases i with
    | zero => rw [List.set_cons_zero, e, e]; rfl
    | succ i =>
      have e2 : flat (a :: h.set i x) = c3 a ++ flat (h.set i x) := by unfold flat; rw [List.flatMap_cons]
      rw [List.set_cons_succ, e2, ih, e]
      have h3 : ∀ (l : List Value) k v, (c3 a ++ l).set (k + 3) v = c3 a ++ l.set k v := fun l k v => by rw [List.set_append_right _ _ (by simp [c3])]; simp [c3]
      rw [show (i + 1) * 3 = i * 3 + 3 by omega, show i * 3 + 3 + 1 = i * 3 + 1 + 3 by omega, show i * 3 + 3 + 2 = i * 3 + 2 + 3 by omega, h3, h3, h3]
def agC (h : List It) (n : Nat) : Array Value := (flat h ++ [Value.int .i64 (n : Int)]).toArray
/-- The agenda at block b has these items, the first n are in. -/
structure AgH (w : World) (b : Nat) (h : List It) (n : Nat) : Prop where
  whole : Whole w b 59 (agC h n)
  len : h.length = 32
  n32 : n ≤ 32
section
variable {w w' : World} {b n i : Nat} {h : List It} {F : List Nat} {x : It}
theorem AgH.lt (H : AgH w b h n) : b < w.heap.size := H.whole.lt
theorem AgH.mod (H : AgH w b h n) (hm : Mod F w w') (hb : b ∉ F) : AgH w' b h n := ⟨hm.whole H.whole hb, H.len, H.n32⟩
theorem AgH.below (H : AgH w b h n) (hb : Below w.heap.size w w') : AgH w' b h n := H.mod (F := []) (Mod.of_below hb []) (by simp)
theorem AgH.num (H : AgH w b h n) : w.cell? ⟨b, 96, none⟩ = some (.int .i64 (n : Int)) := by
  rw [H.whole.cell 96]
  unfold agC
  rw [List.getElem?_toArray, List.getElem?_append_right (by rw [flat_len, H.len]; omega), flat_len, H.len]
  rfl
theorem AgH.item (H : AgH w b h n) (hi : i < 32) : w.cell? ⟨b, i * 3, none⟩ = some (.int .i64 (g h i).due) ∧ w.cell? ⟨b, i * 3 + 1, none⟩ = some (.int .i64 (g h i).kind) ∧ w.cell? ⟨b, i * 3 + 2, none⟩ = some (.int .i64 (g h i).key) := by
  have hl := H.len
  obtain ⟨h0, h1, h2⟩ := flat_at (AM.g_get (h := h) (i := i) (by omega))
  have e : ∀ k v, (flat h)[k]? = some v → (agC h n)[k]? = some v := fun k v hv => by
    unfold agC
    rw [List.getElem?_toArray, List.getElem?_append_left (List.getElem?_eq_some_iff.1 hv).1]; exact hv
  exact ⟨(H.whole.cell _).trans (e _ _ h0), (H.whole.cell _).trans (e _ _ h1), (H.whole.cell _).trans (e _ _ h2)⟩
theorem AgH.frozen (H : AgH w b h n) (k : Nat) : w.frozen? ⟨b, k, none⟩ = false := H.whole.frozen k
theorem agC_set (h : List It) (n i : Nat) (x : It) (hi : i < h.length) : (((agC h n).setIfInBounds (i * 3) (.int .i64 x.due)).setIfInBounds (i * 3 + 1) (.int .i64 x.kind)).setIfInBounds (i * 3 + 2) (.int .i64 x.key) = agC (h.set i x) n := by
  unfold agC
  have hf := flat_len h
  simp only [List.setIfInBounds_toArray]
  rw [List.set_append_left _ _ (by omega), List.set_append_left _ _ (by simp; omega), List.set_append_left _ _ (by simp; omega), flat_set]
theorem agC_num (h : List It) (n m : Nat) (hl : h.length = 32) : (agC h n).setIfInBounds 96 (.int .i64 (m : Int)) = agC h m := by
  unfold agC
  have hf := flat_len h
  simp only [List.setIfInBounds_toArray]
  rw [List.set_append_right _ _ (by omega), hf, hl]
  rfl
theorem set_same {cs : Array Value} {k : Nat} {v : Value} (hv : cs[k]? = some v) : cs.setIfInBounds k v = cs := by
  apply Array.ext_getElem?
  intro j
  rw [Array.getElem?_setIfInBounds]
  by_cases e : k = j
  · subst e
    rw [if_pos rfl, if_pos (Array.getElem?_eq_some_iff.1 hv).1, hv]
  · rw [if_neg e]
theorem AgH.put (H : AgH w b h n) (hi : i < 32) (x : It) : AgH (((w.setCell ⟨b, i * 3, none⟩ (.int .i64 x.due)).setCell ⟨b, i * 3 + 1, none⟩ (.int .i64 x.kind)).setCell ⟨b, i * 3 + 2, none⟩ (.int .i64 x.key)) b (h.set i x) n := by
  refine ⟨?_, by rw [List.length_set]; exact H.len, H.n32⟩
  rw [← agC_set h n i x (by rw [H.len]; exact hi)]
  exact ((H.whole.store _ _).store _ _).store _ _
theorem AgH.due (H : AgH w b h n) (hi : i < 32) {d : Int} : AgH (w.setCell ⟨b, i * 3, none⟩ (.int .i64 d)) b (h.set i ⟨d, (g h i).kind, (g h i).key⟩) n := by
  refine ⟨?_, by rw [List.length_set]; exact H.len, H.n32⟩
  have h1 := H.whole.store (i * 3) (.int .i64 d)
  have hl := H.len
  have hf := flat_len h
  obtain ⟨_, e1, e2⟩ := flat_at (AM.g_get (h := h) (i := i) (by omega))
  rw [← agC_set h n i _ (by omega)]
  have ea : ∀ k v, (flat h)[k]? = some v → (agC h n)[k]? = some v := fun k v hv => by
    unfold agC
    rw [List.getElem?_toArray, List.getElem?_append_left (List.getElem?_eq_some_iff.1 hv).1]; exact hv
  have eb : ((agC h n).setIfInBounds (i * 3) (.int .i64 d)).setIfInBounds (i * 3 + 1) (.int .i64 (g h i).kind) = (agC h n).setIfInBounds (i * 3) (.int .i64 d) :=
    set_same ((Array.getElem?_setIfInBounds_ne (by omega)).trans (ea _ _ e1))
  rw [show (((agC h n).setIfInBounds (i * 3) (.int .i64 (It.mk d (g h i).kind (g h i).key).due)).setIfInBounds (i * 3 + 1) (.int .i64 (It.mk d (g h i).kind (g h i).key).kind)) = (agC h n).setIfInBounds (i * 3) (.int .i64 d) from eb]
  rw [set_same (k := i * 3 + 2) ((Array.getElem?_setIfInBounds_ne (by omega)).trans (ea _ _ e2))]
  exact h1
theorem AgH.count (H : AgH w b h n) {m : Nat} (hm : m ≤ 32) : AgH (w.setCell ⟨b, 96, none⟩ (.int .i64 (m : Int))) b h m := by
  refine ⟨?_, H.len, hm⟩
  rw [← agC_num h n m H.len]
  exact H.whole.store _ _
end
def ag0 : Array Value := agC (List.replicate 32 default) 0
theorem ag0_at (w : World) : AgH (w.alloc (.cells ag0 59)) w.heap.size (List.replicate 32 default) 0 := ⟨Whole.new w _ _, by simp, by omega⟩
set_option maxHeartbeats 1000000 in
theorem New_any (w : World) : Calls Try.prog 8 #[] w fun e w' => e = .returned (.pointer (some ⟨w.heap.size, 0, none⟩)) ∧ w' = w.alloc (.cells ag0 59) := by
  have hz : ∀ w, (zeroValue 59).run Try.prog w = .ok (.agg ag0) w := fun w => by kernel_rfl
  go_enter Try.func8, Try.ntmps8
  go_wp2_with fail
  go_ret
  exact ⟨rfl, rfl⟩
section
variable {w : World} {b n : Nat} {h : List It}
set_option maxHeartbeats 1000000 in
theorem in_any (H : AgH w b h n) : Calls Try.prog 27 #[.pointer (some ⟨b, 0, none⟩)] w fun e w' => e = .returned (.slice (some ⟨b, 0, none⟩) n 32) ∧ ∃ q, w' = w.drewN q := by
  have h1 := H.num
  have h2 := H.n32
  have h3 : ((n : Int) ≤ 32) := by omega
  clear H
  go_enter Try.func27, Try.ntmps27
  go_wp2_with fail
  go_quiet (fail)
  go_wp2_with fail
  go_ret
  exact ⟨rfl, _, rfl⟩
set_option maxHeartbeats 1000000 in
theorem in_nil (w : World) : Calls Try.prog 27 #[.pointer none] w fun e w' => e = .returned (.slice none 0 0) ∧ w' = w := by
  go_enter Try.func27, Try.ntmps27
  go_wp2_with fail
  go_ret
  exact ⟨rfl, rfl⟩
set_option maxHeartbeats 1000000 in
theorem Len_any (H : AgH w b h n) : Calls Try.prog 11 #[.pointer (some ⟨b, 0, none⟩)] w fun e w' => e = .returned (.int .i64 (n : Int)) ∧ ∃ q, w' = w.drewN q := by
  have HH := Lib.hid H
  clear H
  go_enter Try.func11, Try.ntmps11
  go_wp2_with fail
  refine (in_any HH.out).mono ?_
  rintro e w1 ⟨rfl, q, rfl⟩
  go_wp2_with fail
  go_ret
  exact ⟨rfl, _, rfl⟩
set_option maxHeartbeats 1000000 in
theorem Len_nil (w : World) : Calls Try.prog 11 #[.pointer none] w fun e w' => e = .returned (.int .i64 0) ∧ w' = w := by
  go_enter Try.func11, Try.ntmps11
  go_wp2_with fail
  refine (in_nil w).mono ?_
  rintro e w1 ⟨rfl, rfl⟩
  go_wp2_with fail
  go_ret
  exact ⟨rfl, rfl⟩
end
end Go.Proofs.Ytkgipdhbaiaaeaa
