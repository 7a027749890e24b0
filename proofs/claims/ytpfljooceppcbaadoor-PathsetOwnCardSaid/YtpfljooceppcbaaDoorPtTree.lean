/- The tree of a set: its branches, by the way to them, and what stands in memory for each. -/
import Derived.Test.YtpfljooceppcbaaDoorPsR7
import Derived.Test.YtpfljooceppcbaaDoorDict
namespace Go.Proofs.YtpfljooceppcbaaDoor
open Go.RowKit
open SE (Ent)
open PM (str)
set_option linter.unusedVariables false
abbrev Way := List (List UInt8)
/-- A branch: its block, its numbers' slice and what it holds, its children's map and their segments. -/
structure Nd where
  b : Nat
  A : Option Addr
  c : Nat
  ids : List Int
  m : Option Nat
  kids : List (List UInt8)
abbrev Tr := Way → Option Nd
/-- Whose a block is: a branch's own (0), its numbers' (1), its map's (2). -/
abbrev Owner := Nat → Option (Way × Nat)
namespace PT
def blk (T : Tr) (p : Way) : Nat := match T p with
  | some n => n.b
  | none => 0
def ids (T : Tr) (p : Way) : List Int := match T p with
  | some n => n.ids
  | none => []
theorem blk_some {T : Tr} {p : Way} {n : Nd} (h : T p = some n) : blk T p = n.b := by unfold blk; rw [h]
theorem ids_some {T : Tr} {p : Way} {n : Nd} (h : T p = some n) : ids T p = n.ids := by unfold ids; rw [h]
theorem ids_none {T : Tr} {p : Way} (h : T p = none) : ids T p = [] := by unfold ids; rw [h]
def set (T : Tr) (p : Way) (n : Nd) : Tr := fun q => if q = p then some n else T q
def cut (T : Tr) (p : Way) : Tr := fun q => if q = p then none else T q
theorem set_same (T : Tr) (p : Way) (n : Nd) : set T p n p = some n := if_pos rfl
theorem set_other {T : Tr} {p q : Way} {n : Nd} (h : q ≠ p) : set T p n q = T q := if_neg h
theorem cut_same (T : Tr) (p : Way) : cut T p p = none := if_pos rfl
theorem cut_other {T : Tr} {p q : Way} (h : q ≠ p) : cut T p q = T q := if_neg h
theorem snoc_inj {p q : Way} {s r : List UInt8} (h : p ++ [s] = q ++ [r]) : p = q ∧ s = r := by
  have := List.append_inj' h rfl
  exact ⟨this.1, by simpa using this.2⟩
theorem snoc_ne (p : Way) (s : List UInt8) : p ++ [s] ≠ p := fun h => by
  have := congrArg List.length h
  simp at this
def kidPairs (T : Tr) (p : Way) (kids : List (List UInt8)) : List (Value × Value) := kids.map fun s => (str s, .pointer (some ⟨blk T (p ++ [s]), 0, none⟩))
theorem str_inj {a b : List UInt8} (h : str a = str b) : a = b := by
  unfold PM.str at h
  injection h with h
  have := congrArg (fun x : ByteArray => x.data.toList) h
  simpa using this
theorem kidPairs_keys {T : Tr} {p : Way} {kids : List (List UInt8)} (h : kids.Nodup) : ((kidPairs T p kids).map (·.1)).Nodup := by
  unfold kidPairs
  rw [List.map_map]
  induction kids with
  | nil => simp
  | cons a r ih =>
    rw [List.nodup_cons] at h
    rw [List.map_cons, List.nodup_cons]
    refine ⟨fun hm => ?_, ih h.2⟩
    obtain ⟨x, hx, e⟩ := List.mem_map.1 hm
    have : x = a := str_inj e
    exact h.1 (this ▸ hx)
theorem kidPairs_no {T : Tr} {p : Way} {kids : List (List UInt8)} {s : List UInt8} (h : s ∉ kids) : ∀ q ∈ kidPairs T p kids, q.1 ≠ str s := by
  intro q hq e
  unfold kidPairs at hq
  obtain ⟨x, hx, rfl⟩ := List.mem_map.1 hq
  exact h (str_inj e ▸ hx)
theorem kidPairs_mem {T : Tr} {p : Way} {kids : List (List UInt8)} {s : List UInt8} (h : s ∈ kids) : (str s, Value.pointer (some ⟨blk T (p ++ [s]), 0, none⟩)) ∈ kidPairs T p kids := by
  unfold kidPairs
  exact List.mem_map.2 ⟨s, h, rfl⟩
theorem kidPairs_congr {T T' : Tr} {p : Way} {kids : List (List UInt8)} (h : ∀ s ∈ kids, blk T' (p ++ [s]) = blk T (p ++ [s])) : kidPairs T' p kids = kidPairs T p kids := by
  unfold kidPairs
  exact List.map_congr_left fun s hs => by rw [h s hs]
end PT
open PT (blk ids set cut kidPairs)
structure NodeAt (w : World) (T : Tr) (own : Owner) (p : Way) (n : Nd) : Prop where
  cells : Whole w n.b 49 #[.slice n.A n.ids.length n.c, .map n.m]
  row : w.ownsRow 0 3 1 (.slice n.A n.ids.length n.c) n.ids.length (i64s n.ids)
  bare : n.m = none → n.kids = []
  kidsAt : ∀ mb, n.m = some mb → MapAt w mb .string (kidPairs T p n.kids)
  nodup : n.kids.Nodup
  kids : ∀ s, s ∈ n.kids ↔ (T (p ++ [s])).isSome = true
  own0 : own n.b = some (p, 0)
  own1 : ∀ ad, n.A = some ad → own ad.block = some (p, 1)
  own2 : ∀ mb, n.m = some mb → own mb = some (p, 2)
structure TreeAt (w : World) (T : Tr) (own : Owner) : Prop where
  root : (T []).isSome = true
  up : ∀ p s, (T (p ++ [s])).isSome = true → (T p).isSome = true
  deep : ∀ p, (T p).isSome = true → p.length ≤ 4
  node : ∀ p n, T p = some n → NodeAt w T own p n
  lt : ∀ b t, own b = some t → b < w.heap.size
section
variable {w w' : World} {T T' : Tr} {own own' : Owner} {p : Way} {n : Nd}
/-- A branch that is left alone. -/
theorem NodeAt.keep {G : List Nat} (h : NodeAt w T own p n) (hm : Mod G w w') (hG : ∀ b ∈ G, ∀ k, own b ≠ some (p, k)) (ho : ∀ b t, own b = some t → own' b = some t)
    (hb : ∀ s ∈ n.kids, blk T' (p ++ [s]) = blk T (p ++ [s])) (hk : ∀ s, (T' (p ++ [s])).isSome = (T (p ++ [s])).isSome) : NodeAt w' T' own' p n where
  cells := hm.whole h.cells (fun hg => hG _ hg 0 h.own0)
  row := hm.own h.row (fun k e hg => by
    cases hA : n.A with
    | none => rw [hA] at e; cases e
    | some ad =>
      rw [hA] at e
      have e2 : ad.block = k := by simpa [Value.ownBlock] using e
      exact hG k hg 1 (by rw [← e2]; exact h.own1 ad hA))
  bare := h.bare
  kidsAt mb e := by
    rw [PT.kidPairs_congr hb]
    exact (h.kidsAt mb e).mod hm (fun hg => hG _ hg 2 (h.own2 mb e))
  nodup := h.nodup
  kids s := by rw [hk s]; exact h.kids s
  own0 := ho _ _ h.own0
  own1 ad e := ho _ _ (h.own1 ad e)
  own2 mb e := ho _ _ (h.own2 mb e)
theorem NodeAt.below (h : NodeAt w T own p n) (hb : Below w.heap.size w w') : NodeAt w' T own p n := h.keep (Mod.of_below hb []) (by simp) (fun _ _ e => e) (fun _ _ => rfl) (fun _ => rfl)
theorem TreeAt.mod {G : List Nat} (h : TreeAt w T own) (hm : Mod G w w') (hG : ∀ b ∈ G, own b = none) : TreeAt w' T own where
  root := h.root
  up := h.up
  deep := h.deep
  node p n e := (h.node p n e).keep hm (fun b hb k => by rw [hG b hb]; simp) (fun _ _ e => e) (fun _ _ => rfl) (fun _ => rfl)
  lt b t e := Nat.lt_of_lt_of_le (h.lt b t e) hm.size
theorem TreeAt.below (h : TreeAt w T own) (hb : Below w.heap.size w w') : TreeAt w' T own := h.mod (Mod.of_below hb []) (by simp)
theorem TreeAt.isSome_prefix (h : TreeAt w T own) : ∀ {q : Way}, (T (p ++ q)).isSome = true → (T p).isSome = true := by
  intro q
  induction hq : q.length generalizing q with
  | zero =>
    have : q = [] := List.eq_nil_of_length_eq_zero hq
    subst this
    rw [List.append_nil]; exact id
  | succ k ih =>
    intro hs
    have hne : q ≠ [] := fun e => by rw [e] at hq; simp at hq
    have e := List.dropLast_concat_getLast hne
    rw [← e, ← List.append_assoc] at hs
    exact ih (by rw [List.length_dropLast, hq]; rfl) (h.up _ _ hs)
theorem NodeAt.cell0 (h : NodeAt w T own p n) : w.cell? ⟨n.b, 0, none⟩ = some (.slice n.A n.ids.length n.c) := h.cells.cell 0
theorem NodeAt.cell1 (h : NodeAt w T own p n) : w.cell? ⟨n.b, 1, none⟩ = some (.map n.m) := h.cells.cell 1
theorem NodeAt.mapO (h : NodeAt w T own p n) : MapO w n.m .string (kidPairs T p n.kids) := by
  cases e : n.m with
  | none =>
    show kidPairs T p n.kids = []
    rw [h.bare e]; rfl
  | some mb => exact h.kidsAt mb e
theorem NodeAt.intsAt (h : NodeAt w T own p n) : IntsAt w n.A n.ids := IntsAt.own h.row
theorem NodeAt.cap (h : NodeAt w T own p n) : n.ids.length ≤ n.c ∧ n.c ≤ 9223372036854775807 := by
  obtain ⟨A, c, e, h1, h2⟩ := own_shape h.row
  injection e with _ _ e3
  subst e3
  exact ⟨h1, h2⟩
end

/-! ### What lies under a way -/
namespace PT
def segs (e : Ent) : Way := PM.segsOf (SE.p e)
/-- The tree holds what the list holds. -/
def Agrees (T : Tr) (L : List Ent) : Prop := ∀ q, (ids T q).Perm ((L.filter (fun e => decide (segs e = q))).map (·.id))
/-- The Ids of all under a way, its own among them. -/
def lies (L : List Ent) (p : Way) : List Int := (L.filter (fun e => p.isPrefixOf (segs e))).map (·.id)
theorem lies_len (L : List Ent) (p : Way) : (lies L p).length ≤ L.length := by unfold lies; rw [List.length_map]; exact List.length_filter_le _ _
theorem flat_same {α β : Type} {f g : β → List α} : ∀ {ks : List β}, (∀ k ∈ ks, f k = g k) → ks.flatMap f = ks.flatMap g
  | [], _ => rfl
  | k :: r, h => by rw [List.flatMap_cons, List.flatMap_cons, h k (by simp), flat_same fun j hj => h j (List.mem_cons_of_mem _ hj)]
theorem flat_one {α β : Type} {f g : β → List α} {e : α} : ∀ {ks : List β} {k : β}, ks.Nodup → k ∈ ks → f k = e :: g k → (∀ j ∈ ks, j ≠ k → f j = g j) → (ks.flatMap f).Perm (e :: ks.flatMap g)
  | [], k, _, hk, _, _ => by simp at hk
  | a :: r, k, hn, hk, h1, h2 => by
    rw [List.nodup_cons] at hn
    rw [List.flatMap_cons, List.flatMap_cons]
    by_cases ha : a = k
    · subst ha
      rw [h1, flat_same (f := f) (g := g) (ks := r) fun j hj => h2 j (List.mem_cons_of_mem _ hj) (fun e => hn.1 (e ▸ hj))]
      exact List.Perm.refl _
    · have hkr : k ∈ r := (List.mem_cons.1 hk).resolve_left (fun e => ha e.symm)
      rw [h2 a (by simp) ha]
      have ih := flat_one hn.2 hkr h1 fun j hj => h2 j (List.mem_cons_of_mem _ hj)
      exact (ih.append_left (g a)).trans List.perm_middle
/-- Every entry stands in just one of the parts. -/
theorem part_perm {α β : Type} (f g0 : α → Bool) (g : β → α → Bool) (ks : List β) (hnd : ks.Nodup) : ∀ (L : List α),
    (∀ e ∈ L, f e = true → (g0 e = true ∧ ∀ k ∈ ks, g k e = false) ∨ (g0 e = false ∧ ∃ k ∈ ks, g k e = true ∧ ∀ j ∈ ks, j ≠ k → g j e = false)) →
    (∀ e ∈ L, f e = false → g0 e = false ∧ ∀ k ∈ ks, g k e = false) → (L.filter f).Perm (L.filter g0 ++ ks.flatMap fun k => L.filter (g k))
  | [], _, _ => by
    have : (ks.flatMap fun k => ([] : List α).filter (g k)) = [] := by
      rw [List.flatMap_eq_nil_iff]
      intro k _
      rfl
    rw [this]; simp
  | e :: r, h1, h2 => by
    have ih := part_perm f g0 g ks hnd r (fun x hx => h1 x (List.mem_cons_of_mem _ hx)) (fun x hx => h2 x (List.mem_cons_of_mem _ hx))
    cases hf : f e with
    | false =>
      obtain ⟨k1, k2⟩ := h2 e (by simp) hf
      rw [List.filter_cons_of_neg (by rw [hf]; decide), List.filter_cons_of_neg (by rw [k1]; decide)]
      rw [flat_same (f := fun k => (e :: r).filter (g k)) (g := fun k => r.filter (g k)) fun k hk => List.filter_cons_of_neg (by rw [k2 k hk]; decide)]
      exact ih
    | true =>
      rw [List.filter_cons_of_pos hf]
      rcases h1 e (by simp) hf with ⟨k1, k2⟩ | ⟨k1, k, hk, k2, k3⟩
      · rw [List.filter_cons_of_pos k1, flat_same (f := fun k => (e :: r).filter (g k)) (g := fun k => r.filter (g k)) fun k hk => List.filter_cons_of_neg (by rw [k2 k hk]; decide)]
        exact ih.cons e
      · rw [List.filter_cons_of_neg (by rw [k1]; decide)]
        have h3 := flat_one (f := fun k => (e :: r).filter (g k)) (g := fun k => r.filter (g k)) (e := e) hnd hk (List.filter_cons_of_pos k2) fun j hj hne => List.filter_cons_of_neg (by rw [k3 j hj hne]; decide)
        exact (ih.cons e).trans (List.perm_middle.symm.trans (h3.symm.append_left _))
theorem prefix_step {p q : Way} (h : p.isPrefixOf q = true) : q = p ∨ ∃ s, (p ++ [s]).isPrefixOf q = true := by
  obtain ⟨t, rfl⟩ := List.isPrefixOf_iff_prefix.1 h
  cases t with
  | nil => left; simp
  | cons s r => right; exact ⟨s, List.isPrefixOf_iff_prefix.2 ⟨r, by simp⟩⟩
theorem prefix_one {p q : Way} {s r : List UInt8} (h : (p ++ [s]).isPrefixOf q = true) (k : (p ++ [r]).isPrefixOf q = true) : s = r := by
  obtain ⟨t, h1⟩ := List.isPrefixOf_iff_prefix.1 h
  obtain ⟨u, h2⟩ := List.isPrefixOf_iff_prefix.1 k
  rw [← h2] at h1
  simp only [List.append_assoc, List.append_cancel_left_eq] at h1
  simp at h1
  exact h1.1
theorem prefix_self_no {p : Way} {s : List UInt8} : (p ++ [s]).isPrefixOf p = false := by
  rw [Bool.eq_false_iff]
  intro h
  have := (List.isPrefixOf_iff_prefix.1 h).length_le
  rw [List.length_append, List.length_singleton] at this
  omega
theorem prefix_less {p q : Way} {s : List UInt8} (h : (p ++ [s]).isPrefixOf q = true) : p.isPrefixOf q = true := by
  obtain ⟨t, rfl⟩ := List.isPrefixOf_iff_prefix.1 h
  exact List.isPrefixOf_iff_prefix.2 ⟨[s] ++ t, by simp⟩
/-- Whoever is in the list has his branch. -/
theorem Agrees.there {T : Tr} {L : List Ent} (h : Agrees T L) {e : Ent} (he : e ∈ L) : (T (segs e)).isSome = true := by
  have hm : e.id ∈ (L.filter (fun x => decide (segs x = segs e))).map (·.id) := List.mem_map.2 ⟨e, List.mem_filter.2 ⟨he, by simp⟩, rfl⟩
  have := (h (segs e)).mem_iff.2 hm
  cases ht : T (segs e) with
  | some n => rfl
  | none => rw [ids_none ht] at this; simp at this
theorem lies_split {w : World} {T : Tr} {own : Owner} {L : List Ent} {p : Way} {n : Nd} (hT : TreeAt w T own) (hA : Agrees T L) (hn : T p = some n) : (lies L p).Perm (n.ids ++ n.kids.flatMap fun s => lies L (p ++ [s])) := by
  have hN := hT.node p n hn
  have h := part_perm (fun e => p.isPrefixOf (segs e)) (fun e => decide (segs e = p)) (fun s e => (p ++ [s]).isPrefixOf (segs e)) n.kids hN.nodup L (fun e he hf => ?_) (fun e he hf => ?_)
  · unfold lies
    refine (h.map _).trans ?_
    rw [List.map_append, List.map_flatMap]
    refine List.Perm.append ?_ (List.Perm.refl _)
    have := hA p
    rw [ids_some hn] at this
    exact this.symm
  · rcases prefix_step hf with h1 | ⟨s, hs⟩
    · left
      exact ⟨by simpa using h1, fun k _ => by rw [h1]; exact prefix_self_no⟩
    · right
      refine ⟨?_, s, ?_, hs, fun j _ hne => ?_⟩
      · rw [decide_eq_false_iff_not]
        intro e1
        rw [e1, prefix_self_no] at hs
        cases hs
      · rw [hN.kids s]
        obtain ⟨t, ht⟩ := List.isPrefixOf_iff_prefix.1 hs
        have := hA.there he
        rw [← ht] at this
        exact hT.isSome_prefix this
      · rw [Bool.eq_false_iff]
        exact fun h => hne (prefix_one h hs)
  · refine ⟨?_, fun k _ => ?_⟩
    · rw [decide_eq_false_iff_not]
      intro e1
      rw [e1] at hf
      rw [List.isPrefixOf_iff_prefix.2 (List.prefix_refl p)] at hf
      cases hf
    · rw [Bool.eq_false_iff]
      intro h
      rw [prefix_less h] at hf
      cases hf
end PT
end Go.Proofs.YtpfljooceppcbaaDoor
