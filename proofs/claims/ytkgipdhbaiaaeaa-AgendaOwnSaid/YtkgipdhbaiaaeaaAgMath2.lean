/- The list in order that a heap of items stands for: what is put in, left out, taken. No program is named. -/
import Derived.Test.YtkgipdhbaiaaeaaAgMath
namespace Go.Proofs.Ytkgipdhbaiaaeaa.AM
set_option linter.unusedVariables false
def hit (k y : Int) (x : It) : Bool := x.kind == k && x.key == y
theorem hit_iff {k y : Int} {x : It} : hit k y x = true ↔ x.kind = k ∧ x.key = y := by unfold hit; simp
def has (L : List It) (k y : Int) : Bool := L.any (hit k y)
def drop (L : List It) (k y : Int) : List It := L.filter (fun x => !hit k y x)
def ins : List It → It → List It
  | [], x => [x]
  | a :: L, x => if before a x then a :: ins L x else x :: a :: L
def may (x : It) : Bool := decide (0 ≤ x.due) && decide (x.due ≤ 4611686018427387904) && decide (1 ≤ x.kind) && decide (x.kind ≤ 4)
def put (L : List It) (x : It) : List It × Int :=
  if may x = false then (L, 2) else if has L x.kind x.key = false ∧ L.length = 32 then (L, 51) else (ins (drop L x.kind x.key) x, 0)
structure Good (L : List It) : Prop where
  le : L.length ≤ 32
  sorted : L.Pairwise lt
  keys : L.Pairwise (fun a b => ¬ (a.kind = b.kind ∧ a.key = b.key))
structure HS (h : List It) (n : Nat) (L : List It) : Prop where
  len : h.length = 32
  n32 : n ≤ 32
  heap : Heap h n
  perm : (h.take n).Perm L
  good : Good L
theorem HS.size {h : List It} {n : Nat} {L : List It} (H : HS h n L) : L.length = n := by
  rw [← H.perm.length_eq, List.length_take, H.len]; have := H.n32; omega
theorem HS.mem {h : List It} {n i : Nat} {L : List It} (H : HS h n L) (hi : i < n) : g h i ∈ L := by
  rw [← H.perm.mem_iff, ← g_take hi]
  exact g_mem (by rw [List.length_take, H.len]; have := H.n32; omega)
theorem HS.place {h : List It} {n : Nat} {L : List It} (H : HS h n L) {x : It} (hx : x ∈ L) : ∃ i, i < n ∧ g h i = x := by
  rw [← H.perm.mem_iff] at hx
  obtain ⟨i, hi, e⟩ := List.getElem_of_mem hx
  have h1 : i < n := by rw [List.length_take] at hi; omega
  refine ⟨i, h1, ?_⟩
  have := g_get hi
  rw [List.getElem?_eq_getElem hi, e] at this
  rw [← g_take h1]
  injection this with this
  exact this.symm
theorem has_false {L : List It} {k y : Int} : has L k y = false ↔ ∀ x ∈ L, ¬ (x.kind = k ∧ x.key = y) := by
  unfold has
  rw [List.any_eq_false]
  exact ⟨fun h x hx e => h x hx (hit_iff.2 e), fun h x hx e => h x hx (hit_iff.1 e)⟩
theorem has_true {L : List It} {k y : Int} {x : It} (hx : x ∈ L) (h1 : x.kind = k) (h2 : x.key = y) : has L k y = true := by
  unfold has
  rw [List.any_eq_true]
  exact ⟨x, hx, hit_iff.2 ⟨h1, h2⟩⟩
theorem ins_perm (L : List It) (x : It) : (ins L x).Perm (x :: L) := by
  induction L with
  | nil => exact List.Perm.refl _
  | cons a L ih =>
    unfold ins
    split
    · exact (ih.cons a).trans (List.Perm.swap x a L)
    · exact List.Perm.refl _
theorem ins_mem {L : List It} {x z : It} : z ∈ ins L x ↔ z = x ∨ z ∈ L := by rw [(ins_perm L x).mem_iff, List.mem_cons]
theorem ins_sorted {L : List It} {x : It} (h : L.Pairwise lt) (hn : ∀ y ∈ L, y ≠ x) : (ins L x).Pairwise lt := by
  induction L with
  | nil => exact List.pairwise_singleton _ _
  | cons a L ih =>
    obtain ⟨h1, h2⟩ := List.pairwise_cons.1 h
    unfold ins
    split
    · rename_i hb
      refine List.pairwise_cons.2 ⟨fun z hz => ?_, ih h2 (fun y hy => hn y (List.mem_cons_of_mem _ hy))⟩
      rcases ins_mem.1 hz with e | e
      · rw [e]; exact of_decide_eq_true hb
      · exact h1 z e
    · rename_i hb
      have hxa : lt x a := lt_of (fun e => hb (decide_eq_true e)) (fun e => hn a (List.mem_cons_self ..) e.symm)
      refine List.pairwise_cons.2 ⟨fun z hz => ?_, h⟩
      rcases List.mem_cons.1 hz with e | e
      · rw [e]; exact hxa
      · exact lt_trans hxa (h1 z e)
theorem keys_perm {L M : List It} (h : L.Perm M) (hk : L.Pairwise (fun a b => ¬ (a.kind = b.kind ∧ a.key = b.key))) : M.Pairwise (fun a b => ¬ (a.kind = b.kind ∧ a.key = b.key)) :=
  (h.pairwise_iff (fun {x y} hxy e => hxy ⟨e.1.symm, e.2.symm⟩)).1 hk
theorem drop_none (L : List It) (k y : Int) : has (drop L k y) k y = false := by
  rw [has_false]
  intro x hx e
  have := (List.mem_filter.1 hx).2
  rw [hit_iff.2 e] at this
  cases this
theorem drop_same {L : List It} {k y : Int} (h : has L k y = false) : drop L k y = L := by
  unfold drop
  rw [List.filter_eq_self]
  intro x hx
  have := has_false.1 h x hx
  cases hh : hit k y x with
  | true => exact absurd (hit_iff.1 hh) this
  | false => rfl
theorem drop_perm {L : List It} {x : It} (hk : L.Pairwise (fun a b => ¬ (a.kind = b.kind ∧ a.key = b.key))) (hx : x ∈ L) : L.Perm (x :: drop L x.kind x.key) := by
  induction L with
  | nil => cases hx
  | cons a L ih =>
    obtain ⟨h1, h2⟩ := List.pairwise_cons.1 hk
    by_cases e : hit x.kind x.key a = true
    · have hax : a = x := by
        rcases List.mem_cons.1 hx with e1 | e1
        · exact e1.symm
        · exact absurd (hit_iff.1 e) (h1 x e1)
      subst hax
      have hd : drop (a :: L) a.kind a.key = L := by
        unfold drop
        rw [List.filter_cons, e]
        simp only [Bool.not_true, Bool.false_eq_true, if_false]
        exact drop_same (has_false.2 (fun z hz e2 => h1 z hz ⟨e2.1.symm, e2.2.symm⟩))
      rw [hd]
    · have hxL : x ∈ L := by
        rcases List.mem_cons.1 hx with e1 | e1
        · exact absurd (hit_iff.2 (by rw [e1]; exact ⟨rfl, rfl⟩)) e
        · exact e1
      have hd : drop (a :: L) x.kind x.key = a :: drop L x.kind x.key := by
        unfold drop
        rw [List.filter_cons]
        simp [e]
      rw [hd]
      exact ((ih h2 hxL).cons a).trans (List.Perm.swap x a _)
theorem Good.drop {L : List It} (h : Good L) (k y : Int) : Good (AM.drop L k y) :=
  ⟨Nat.le_trans (List.length_filter_le ..) h.le, h.sorted.filter _, h.keys.filter _⟩
theorem Good.ins {L : List It} {x : It} (h : Good L) (hx : has L x.kind x.key = false) (hl : L.length < 32) : Good (AM.ins L x) :=
  ⟨by rw [(ins_perm L x).length_eq]; exact hl, ins_sorted h.sorted (fun y hy e => has_false.1 hx y hy (by rw [e]; exact ⟨rfl, rfl⟩)),
   keys_perm (ins_perm L x).symm (List.pairwise_cons.2 ⟨fun z hz e => has_false.1 hx z hz ⟨e.1.symm, e.2.symm⟩, h.keys⟩)⟩
theorem take_set_perm {h M : List It} {n i : Nat} {x : It} (hi : i < n) (hn : n ≤ h.length) (hp : (h.take n).Perm (g h i :: M)) : ((h.set i x).take n).Perm (x :: M) := by
  have hl : i < (h.take n).length := by rw [List.length_take]; omega
  have e : (h.take n)[i] = g h i := by have := g_get hl; rw [List.getElem?_eq_getElem hl, g_take hi] at this; injection this
  rw [List.take_set, List.perm_iff_count]
  intro a
  rw [List.count_set hl, e]
  have h1 := (List.perm_iff_count.1 hp) a
  rw [h1, List.count_cons, List.count_cons]
  omega
/-- The one at i is put elsewhere in time. -/
theorem HS.fix {h h' : List It} {n i : Nat} {L : List It} {x : It} (H : HS h n L) (hi : i < n) (e1 : (g h i).kind = x.kind) (e2 : (g h i).key = x.key) (hl : h'.length = 32) (hh : Heap h' n) (hp : (h'.take n).Perm ((h.set i x).take n)) : HS h' n (ins (drop L x.kind x.key) x) := by
  have hm := H.mem hi
  have hd := drop_perm H.good.keys hm
  rw [e1, e2] at hd
  have hlen : L.length = (drop L x.kind x.key).length + 1 := by rw [hd.length_eq]; rfl
  have h3 := hp.trans (take_set_perm hi (by rw [H.len]; exact H.n32) (H.perm.trans hd))
  refine ⟨hl, H.n32, hh, h3.trans (ins_perm _ _).symm, (H.good.drop _ _).ins (drop_none _ _ _) (by have := H.good.le; omega)⟩
theorem take_push {h : List It} {n : Nat} {x : It} (hn : n < h.length) : ((h.set n x).take (n + 1)).Perm (x :: h.take n) := by
  rw [List.take_add_one, List.take_set, List.set_eq_of_length_le (by rw [List.length_take]; omega), List.getElem?_set_self hn]
  exact (List.perm_append_comm).trans (List.Perm.refl _)
theorem HS.push {h h' : List It} {n : Nat} {L : List It} {x : It} (H : HS h n L) (hn : n < 32) (hx : has L x.kind x.key = false) (hl : h'.length = 32) (hh : Heap h' (n + 1)) (hp : (h'.take (n + 1)).Perm ((h.set n x).take (n + 1))) : HS h' (n + 1) (ins (drop L x.kind x.key) x) := by
  rw [drop_same hx]
  exact ⟨hl, hn, hh, (hp.trans (take_push (by rw [H.len]; exact hn))).trans ((H.perm.cons x).trans (ins_perm L x).symm), H.good.ins hx (by rw [H.size]; exact hn)⟩
theorem HS.out {h h' : List It} {n i : Nat} {L : List It} (H : HS h n L) (hi : i < n) (hl : h'.length = 32) (hh : Heap h' (n - 1)) (hp : (h'.take (n - 1)).Perm ((sw h i (n - 1)).take (n - 1))) : HS h' (n - 1) (drop L (g h i).kind (g h i).key) := by
  have hn := H.n32
  have hlen := H.len
  refine ⟨hl, by omega, hh, hp.trans ?_, H.good.drop _ _⟩
  have h1 := sw_take (h := h) (i := i) (j := n - 1) (n := n) hi (by omega) (by omega)
  have e : (sw h i (n - 1)).take n = (sw h i (n - 1)).take (n - 1) ++ [g h i] := by
    obtain ⟨m, rfl⟩ : ∃ m, n = m + 1 := ⟨n - 1, by omega⟩
    rw [Nat.add_sub_cancel, List.take_add_one, g_get (by rw [sw_len]; omega), g_sw (by omega) (by omega), if_pos rfl]
    rfl
  rw [e] at h1
  exact ((List.perm_append_comm (l₁ := [g h i])).trans (h1.trans (H.perm.trans (drop_perm H.good.keys (H.mem hi))))).cons_inv
theorem HS.head {h : List It} {n : Nat} {x : It} {L : List It} (H : HS h n (x :: L)) : g h 0 = x := by
  have hs := H.size
  have h0 : 0 < n := by simp at hs; omega
  have hm := H.mem h0
  obtain ⟨k, hk, e⟩ := H.place (List.mem_cons_self (a := x) (l := L))
  rcases List.mem_cons.1 hm with e1 | e1
  · exact e1
  · have h1 := (List.pairwise_cons.1 H.good.sorted).1 _ e1
    have h2 := H.heap.root k hk
    rw [e] at h2
    exact absurd h1 h2
theorem Good.tail {x : It} {L : List It} (h : Good (x :: L)) : AM.drop (x :: L) x.kind x.key = L := by
  unfold AM.drop
  rw [List.filter_cons, hit_iff.2 ⟨rfl, rfl⟩]
  simp only [Bool.not_true, Bool.false_eq_true, if_false]
  exact drop_same (has_false.2 (fun z hz e2 => (List.pairwise_cons.1 h.keys).1 z hz ⟨e2.1.symm, e2.2.symm⟩))
theorem Good.put {L : List It} (h : Good L) (x : It) : Good (AM.put L x).1 := by
  unfold AM.put
  split
  · exact h
  · split
    · exact h
    · rename_i hc
      refine (h.drop _ _).ins (drop_none _ _ _) ?_
      by_cases hh : has L x.kind x.key = false
      · have : L.length ≠ 32 := fun e => hc ⟨hh, e⟩
        rw [drop_same hh]; have := h.le; omega
      · have hh : has L x.kind x.key = true := by simpa using hh
        unfold has at hh
        obtain ⟨z, hz, he⟩ := List.any_eq_true.1 hh
        obtain ⟨e1, e2⟩ := hit_iff.1 he
        have := (drop_perm h.keys hz).length_eq
        rw [e1, e2] at this
        simp at this
        have := h.le
        omega
theorem good_nil : Good [] := ⟨by simp, List.Pairwise.nil, List.Pairwise.nil⟩
/-- Two lists in order of the same items are one. -/
theorem same_list {A B : List It} (ha : A.Pairwise lt) (hb : B.Pairwise lt) (hp : A.Perm B) : A = B :=
  hp.eq_of_pairwise (fun a b _ _ h k => absurd k (lt_asymm h)) ha hb
end Go.Proofs.Ytkgipdhbaiaaeaa.AM
