/- Records behind one another, as sectors: which sector lies where; what a scan tells of them. -/
import Derived.Test.YtlnahmgcjaodkaaScW16
namespace Go.Proofs.Ytlnahmgcjaodkaa
open Go.RowKit
open By
set_option linter.unusedVariables false
set_option linter.unusedSimpArgs false
theorem packs_app (g : Nat) : ∀ (s : Nat) (a b : List (List UInt8)), SC.packs g s (a ++ b) = SC.packs g s a ++ SC.packs g (s + a.length) b
  | s, [], b => by simp [SC.packs]
  | s, r :: a, b => by
    show SC.pack g s r ++ SC.packs g (s + 1) (a ++ b) = (SC.pack g s r ++ SC.packs g (s + 1) a) ++ _
    rw [packs_app g (s + 1) a b, List.append_assoc, List.length_cons, show s + 1 + a.length = s + (a.length + 1) by omega]
/-- Where record i begins. -/
def offs (g : Nat) (rs : List (List UInt8)) (i : Nat) : Nat := (SC.packs g 0 (rs.take i)).length
theorem offs_next {g : Nat} {rs : List (List UInt8)} {i : Nat} {r : List UInt8} (h : rs[i]? = some r) : offs g rs (i + 1) = offs g rs i + SC.np r := by
  have hi := (List.getElem?_eq_some_iff.1 h).1
  unfold offs
  rw [List.take_add_one, h, Option.toList_some, SC.packs_snoc, List.length_append, SC.pack_len]
theorem packs_at {g : Nat} {rs : List (List UInt8)} {i k : Nat} {r : List UInt8} (h : rs[i]? = some r) (hk : k < SC.np r) : (SC.packs g 0 rs)[offs g rs i + k]? = some (SC.lay (SC.part g i r k)) := by
  obtain ⟨hi, e⟩ := List.getElem?_eq_some_iff.1 h
  have e1 : rs = rs.take i ++ r :: rs.drop (i + 1) := by rw [← e, List.getElem_cons_drop, List.take_append_drop]
  have hl : (rs.take i).length = i := by rw [List.length_take]; omega
  rw [show SC.packs g 0 rs = SC.packs g 0 (rs.take i ++ r :: rs.drop (i + 1)) from congrArg _ e1, packs_app, hl, Nat.zero_add]
  unfold offs
  rw [List.getElem?_append_right (by omega), Nat.add_sub_cancel_left]
  show (SC.pack g i r ++ _)[k]? = _
  rw [List.getElem?_append_left (by rw [SC.pack_len]; exact hk)]
  exact SC.pack_at hk
theorem offs_end (g : Nat) (rs : List (List UInt8)) : offs g rs rs.length = (SC.packs g 0 rs).length := by unfold offs; rw [List.take_length]
theorem take_part (r : List UInt8) (k : Nat) : r.take (47 * k) ++ (r.drop (47 * k)).take 47 = r.take (47 * (k + 1)) := by rw [show 47 * (k + 1) = 47 * k + 47 by omega, List.take_add]
theorem take_np (r : List UInt8) : r.take (47 * SC.np r) = r := List.take_of_length_le (by unfold SC.np; omega)
theorem fair_any {g : Int} {rs : List (List UInt8)} (h : Fair g rs rs.length) {i : Nat} {r : List UInt8} (hr : rs[i]? = some r) : (1 ≤ g.toNat ∧ g.toNat ≤ 1073741824) ∧ (g.toNat : Int) = g ∧ i ≤ 1073741824 ∧ r.length ≤ 188 := by
  obtain ⟨h1, h2, h3⟩ := packErr_zero (h i r hr (List.getElem?_eq_some_iff.1 hr).1)
  omega
theorem scans_fair {g : Int} {rs rest tail : List (List UInt8)} {u : Nat} (h : Fair g rs rs.length) (h40 : rs.length ≤ 40) (hr : ScansI g rs.length rest tail u) : ScansI g 0 (SC.packs g.toNat 0 rs ++ rest) (rs ++ tail) ((SC.packs g.toNat 0 rs).length + u) := by
  have key : ∀ (a : List (List UInt8)) (s : Nat), (∀ r ∈ a, r.length ≤ 188) → (a ≠ [] → (1 ≤ g.toNat ∧ g.toNat ≤ 1073741824) ∧ (g.toNat : Int) = g) → s + a.length ≤ 1073741824 → ScansI g (s + a.length) rest tail u → ScansI g s (SC.packs g.toNat s a ++ rest) (a ++ tail) ((SC.packs g.toNat s a).length + u) := fun a => by
    induction a with
    | nil => intro s _ _ _ k; simpa [SC.packs] using k
    | cons d a ih =>
      intro s hd hg hs k
      have hgg := hg (by simp)
      rw [List.length_cons] at hs k
      have hrec := SC.rec_pack (s := s) hgg.1 (by omega) (hd d List.mem_cons_self) (SC.packs g.toNat (s + 1) a ++ rest)
      have i2 := ih (s + 1) (fun r hr => hd r (List.mem_cons_of_mem _ hr)) (fun _ => hgg) (by omega) (by rwa [show s + 1 + a.length = s + (a.length + 1) by omega])
      show ScansI g s ((SC.pack g.toNat s d ++ SC.packs g.toNat (s + 1) a) ++ rest) (d :: (a ++ tail)) ((SC.pack g.toNat s d ++ SC.packs g.toNat (s + 1) a).length + u)
      rw [List.length_append, SC.pack_len, Nat.add_assoc, List.append_assoc]
      refine ScansI.more ⟨_, _, hgg.2, rfl, hrec⟩ ?_
      rw [List.drop_left' (SC.pack_len g.toNat s d)]
      exact i2
  refine key rs 0 (fun r hr' => ?_) (fun hne => ?_) (by omega) (by rwa [Nat.zero_add])
  · obtain ⟨j, hj⟩ := List.mem_iff_getElem?.1 hr'
    exact (fair_any h hj).2.2.2
  · cases rs with
    | nil => exact absurd rfl hne
    | cons d a => exact ⟨(fair_any h (i := 0) rfl).1, (fair_any h (i := 0) rfl).2.1⟩
/-- No record begins with a sector that is no part of it. -/
theorem no_first {g s : Int} {x : List UInt8} {l : List (List UInt8)} (h : ∀ p, SC.Is x p → (p.gen : Int) = g → (p.seq : Int) ≠ s) (d : List UInt8) (n : Nat) : ¬ RecI (x :: l) g s d n := fun k => by
  have hn : 1 ≤ n := by obtain ⟨_, _, _, _, hr⟩ := k; exact hr.le.1
  obtain ⟨p, ⟨y, h1, h2, h3, h4, _⟩, _⟩ := k.at (i := 0) hn
  cases h1
  exact h p h2 h3 h4
end Go.Proofs.Ytlnahmgcjaodkaa
