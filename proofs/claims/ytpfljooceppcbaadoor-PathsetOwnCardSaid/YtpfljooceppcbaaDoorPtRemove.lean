/- A number struck at the end of a way, and the branches that lead nowhere then. -/
import Derived.Test.YtpfljooceppcbaaDoorPtAdd
import Derived.StillTailTactics
import Derived.Deep.RegionHeld3
namespace Go.Proofs.YtpfljooceppcbaaDoor
open Go.RowKit
open SE (Ent)
open PM (str)
open PT (blk ids set cut kidPairs lies Agrees segs)
set_option linter.unusedVariables false
set_option maxRecDepth 100000
theorem remove1_any (x id : Int) (b : Nat) (w : World) (hc : w.cell? ⟨b, 0, none⟩ = some (.int .i64 id)) :
    Calls Tryd.prog 39 (#[.int .i64 x] ++ #[.pointer (some ⟨b, 0, none⟩)]) w fun e w' => e = .returned (.bool (decide (x = id))) ∧ Below w.heap.size w w' := by
  show Calls Tryd.prog 39 #[.int .i64 x, .pointer (some ⟨b, 0, none⟩)] w _
  have HB := Lib.hid (Below.refl w.heap.size w)
  go_enter Tryd.func39, Tryd.ntmps39
  go_wp2_with fail
  all_goals
    go_ret
    refine ⟨ret_bool ?_, HB.out⟩
    first
      | rfl
      | (simp_all <;> rfl)
/-- What has come of a tree when a number was struck. -/
def Removed (w : World) (T : Tr) (own : Owner) (p ss : Way) (id : Int) (e : Ending) (w' : World) : Prop :=
  ∃ T', e = .returned (.tuple #[]) ∧ TreeAt w' T' own ∧ Turned w own w' ∧ (T' p).isSome = true ∧ (∀ q, (T' q).isSome = true → (T q).isSome = true ∧ blk T' q = blk T q) ∧ ∀ q, ids T' q = if q = ss then (ids T q).filter (fun x => decide (x ≠ id)) else ids T q
set_option maxHeartbeats 4000000 in
theorem remove_end (w : World) (T : Tr) (own : Owner) (hT : TreeAt w T own) (p : Way) (n : Nd) (hn : T p = some n) (A : Option Addr) (c : Nat) (id : Int) :
    Calls Tryd.prog 21 #[.pointer (some ⟨n.b, 0, none⟩), .slice A 0 c, .int .i64 id] w (Removed w T own p p id) := by
  have hN := hT.node p n hn
  have HT := Lib.hid hT; have HN := Lib.hid hN; have HNN := Lib.hid hn
  have hob : ∀ b, (Value.slice n.A n.ids.length n.c).ownBlock = some b → own b = some (p, 1) := fun b e => by
    cases hA : n.A with
    | none => rw [hA] at e; cases e
    | some ad =>
      rw [hA] at e
      have e2 : ad.block = b := by simpa [Value.ownBlock] using e
      rw [← e2]
      exact hN.own1 ad hA
  have HOB := Lib.hid hob
  have hb1 := (Below.refl w.heap.size w).alloc (Nat.le_refl _) (.cells #[.int .i64 id] 3)
  have hN1 := hN.below hb1
  have HD := Lib.hid (DeleteFunc_row 39 #[.pointer (some ⟨w.heap.size, 0, none⟩)] (fun x => decide (x = id)) (enters_of Tryd.func39 (by kernel_rfl) rfl) (B := 0) hN1.row (fun x _ W hW => remove1_any x id w.heap.size W (by
    have h1 := (Whole.new w 3 #[.int .i64 id]).cell 0
    refine (hW.cell (p := ⟨w.heap.size, 0, none⟩) (by simp) (fun hm => ?_)).trans h1
    exact absurd (hT.lt _ _ (hob _ (Option.mem_toList.1 hm))) (Nat.lt_irrefl _))))
  have c0 := hN1.cell0
  clear hN hT hn hob hN1 hb1
  go_enter Tryd.func21, Tryd.ntmps21
  go_wp2_with fail
  refine HD.out.mono ?_
  rintro e w2 ⟨rfl, hr, hm⟩
  have hw2 : Whole w2 n.b 49 #[.slice n.A n.ids.length n.c, .map n.m] := hm.whole (HN.out.cells.alloc _) (fun hm2 => by
    have h1 := HOB.out _ (Option.mem_toList.1 hm2)
    rw [HN.out.own0] at h1
    cases h1)
  have c02 := hw2.cell 0
  have f02 := hw2.frozen 0
  have HW2 := Lib.hid hw2; have HR := Lib.hid hr; have HM := Lib.hid hm
  clear hr hm hw2
  go_wp2_with fail
  go_end0
  have hl := HM.out.size
  rw [World.size_alloc] at hl
  have hM : Mod (n.b :: (Value.slice n.A n.ids.length n.c).ownBlock.toList) w (w2.setCell ⟨n.b, 0, none⟩ (.slice n.A (n.ids.filter fun x => !decide (x = id)).length n.c)) :=
    (((Mod.refl _ w).alloc _).trans HM.out (fun x hx => .inl (List.mem_cons_of_mem _ hx))).store (.inl (by simp)) _
  have hGt : ∀ b ∈ (n.b :: (Value.slice n.A n.ids.length n.c).ownBlock.toList), ∃ k, own b = some (p, k) ∧ k ≠ 2 := fun b hb => by
    rcases List.mem_cons.1 hb with e | e
    · exact ⟨0, by rw [e]; exact HN.out.own0, by omega⟩
    · exact ⟨1, HOB.out b (Option.mem_toList.1 e), by omega⟩
  have hne : (Value.slice n.A (n.ids.filter fun x => !decide (x = id)).length n.c).ownBlock ≠ some n.b := fun e => by
    have e2 : (Value.slice n.A n.ids.length n.c).ownBlock = some n.b := by
      cases hA : n.A with
      | none => rw [hA] at e; cases e
      | some ad => rw [hA] at e; exact e
    have h1 := HOB.out _ e2
    rw [HN.out.own0] at h1
    cases h1
  have hT3 := HT.out.reids (A' := n.A) (c' := n.c) (ids' := n.ids.filter fun x => !decide (x = id)) HNN.out (Longer.refl w own) (fun b t e => by
    have := HT.out.lt b t e
    rw [show (w2.setCell ⟨n.b, 0, none⟩ (.slice n.A (n.ids.filter fun x => !decide (x = id)).length n.c)).heap.size = w2.heap.size by simp]
    omega) hM (fun b hb q k e => by
      obtain ⟨k', e1, e2⟩ := hGt b hb
      rw [e1] at e
      cases e
      exact ⟨rfl, e2⟩) (HW2.out.store 0 _) (own_far HR.out hne (q := ⟨n.b, 0, none⟩) _) HN.out.own1
  have hS := fun q => set_some (n' := ⟨n.b, n.A, n.c, n.ids.filter fun x => !decide (x = id), n.m, n.kids⟩) HNN.out q
  have hB := fun q => set_blk (n' := ⟨n.b, n.A, n.c, n.ids.filter fun x => !decide (x = id), n.m, n.kids⟩) HNN.out rfl q
  refine ⟨_, rfl, hT3, fun F hF => hM.mono fun x hx => ?_, by rw [hS, HNN.out]; rfl, fun q h => ⟨by rw [hS] at h; exact h, hB q⟩, fun q => ?_⟩
  · obtain ⟨k, e, _⟩ := hGt x hx
    exact .inl (hF x _ e)
  · by_cases e : q = p
    · subst e
      rw [if_pos rfl, PT.ids_some (PT.set_same _ _ _), PT.ids_some HNN.out]
      exact List.filter_congr fun x _ => by simp
    · rw [if_neg e]
      unfold PT.ids
      rw [PT.set_other e]
/-! ### A branch cut off -/
section
variable {w w' : World} {T : Tr} {own : Owner} {p : Way} {n : Nd} {s : List UInt8}
/-- The tree without one branch. -/
def pruned (T : Tr) (p : Way) (n : Nd) (s : List UInt8) (ks : List (List UInt8)) : Tr := PT.cut (PT.set T p ⟨n.b, n.A, n.c, n.ids, n.m, ks⟩) (p ++ [s])
variable {ks : List (List UInt8)}
theorem pruned_gone : pruned T p n s ks (p ++ [s]) = none := PT.cut_same _ _
theorem pruned_at : pruned T p n s ks p = some ⟨n.b, n.A, n.c, n.ids, n.m, ks⟩ := by
  unfold pruned
  rw [PT.cut_other (PT.snoc_ne p s).symm]
  exact PT.set_same _ _ _
theorem pruned_else {q : Way} (h1 : q ≠ p) (h2 : q ≠ p ++ [s]) : pruned T p n s ks q = T q := by
  unfold pruned
  rw [PT.cut_other h2, PT.set_other h1]
theorem pruned_blk (hn : T p = some n) {q : Way} (h : q ≠ p ++ [s]) : blk (pruned T p n s ks) q = blk T q := by
  by_cases e : q = p
  · subst e
    rw [PT.blk_some pruned_at, PT.blk_some hn]
  · unfold PT.blk
    rw [pruned_else e h]
theorem pruned_some (hn : T p = some n) {q : Way} (h : q ≠ p ++ [s]) : (pruned T p n s ks q).isSome = (T q).isSome := by
  by_cases e : q = p
  · subst e
    rw [pruned_at, hn]; rfl
  · rw [pruned_else e h]
theorem pruned_ids (hn : T p = some n) (hs : ids T (p ++ [s]) = []) (q : Way) : ids (pruned T p n s ks) q = ids T q := by
  by_cases e2 : q = p ++ [s]
  · subst e2
    rw [PT.ids_none pruned_gone, hs]
  · by_cases e : q = p
    · subst e
      rw [PT.ids_some pruned_at, PT.ids_some hn]
    · unfold PT.ids
      rw [pruned_else e e2]
theorem prune {mb : Nat} {l1 l2 : List (Value × Value)} (hT : TreeAt w T own) (hn : T p = some n) {m : Nd} (hm : T (p ++ [s]) = some m) (hk : m.kids = []) (hmb : n.m = some mb) (hM : Mod [mb] w w')
    (hl : kidPairs T p n.kids = l1 ++ (str s, .pointer (some ⟨m.b, 0, none⟩)) :: l2) (hA : MapAt w' mb .string (l1 ++ l2)) : ∃ ks, TreeAt w' (pruned T p n s ks) own := by
  have hN := hT.node p n hn
  obtain ⟨k1, k2, hks, e1, e2⟩ : ∃ k1 k2, n.kids = k1 ++ s :: k2 ∧ kidPairs T p k1 = l1 ∧ kidPairs T p k2 = l2 := by
    unfold PT.kidPairs at hl
    obtain ⟨a, b, hab, ha, hb⟩ := List.map_eq_append_iff.1 hl
    obtain ⟨x, r, hxr, hx, hr⟩ := List.map_eq_cons_iff.1 hb
    have : x = s := by
      have := congrArg Prod.fst hx
      exact PT.str_inj this
    subst this
    exact ⟨a, r, by rw [hab, hxr], ha, hr⟩
  have hnd := hN.nodup
  rw [hks] at hnd
  have hnd2 := List.nodup_append.1 hnd
  have hs1 : s ∉ k1 := fun h => hnd2.2.2 s h s (by simp) rfl
  have hs2 : s ∉ k2 := (List.nodup_cons.1 hnd2.2.1).1
  have hkn : ∀ r, r ∈ k1 ++ k2 → r ≠ s := fun r hr e => by
    subst e
    rcases List.mem_append.1 hr with h | h
    · exact hs1 h
    · exact hs2 h
  have hnos : ∀ r, (T (p ++ [s] ++ [r])).isSome = false := fun r => by
    have h1 := ((hT.node _ m hm).kids r)
    rw [hk] at h1
    cases h2 : (T (p ++ [s] ++ [r])).isSome with
    | false => rfl
    | true => exact absurd (h1.2 h2) (by simp)
  refine ⟨k1 ++ k2, ?_, fun q r h => ?_, fun q h => ?_, fun q x hq => ?_, fun b t e => Nat.lt_of_lt_of_le (hT.lt b t e) hM.size⟩
  · by_cases e : ([] : Way) = p ++ [s]
    · have := congrArg List.length e
      simp at this
    · rw [pruned_some hn e]; exact hT.root
  · by_cases e : q ++ [r] = p ++ [s]
    · rw [e, pruned_gone] at h; cases h
    · rw [pruned_some hn e] at h
      have hq := hT.up q r h
      by_cases e3 : q = p ++ [s]
      · rw [e3, hnos r] at h; cases h
      · rw [pruned_some hn e3]; exact hq
  · by_cases e : q = p ++ [s]
    · rw [e, pruned_gone] at h; cases h
    · rw [pruned_some hn e] at h
      exact hT.deep q h
  · by_cases e : q = p ++ [s]
    · rw [e, pruned_gone] at hq; cases hq
    · by_cases e3 : q = p
      · subst e3
        rw [pruned_at] at hq
        cases hq
        refine ⟨hM.whole hN.cells (fun hm2 => ?_), hM.own hN.row (fun k e4 hk4 => ?_), (fun e4 => by rw [hmb] at e4; cases e4), fun mb' e4 => ?_, ?_, fun r => ?_, hN.own0, hN.own1, hN.own2⟩
        · rw [List.mem_singleton] at hm2
          have h1 := hN.own0
          rw [hm2, hN.own2 mb hmb] at h1
          cases h1
        · cases hA2 : n.A with
          | none => rw [hA2] at e4; cases e4
          | some ad =>
            rw [hA2] at e4
            have e5 : ad.block = k := by simpa [Value.ownBlock] using e4
            rw [List.mem_singleton] at hk4
            have h1 := hN.own1 ad hA2
            rw [e5, hk4, hN.own2 mb hmb] at h1
            cases h1
        · have e5 : mb' = mb := by
            have e6 : n.m = some mb' := e4
            rw [hmb] at e6; cases e6; rfl
          subst e5
          show MapAt w' mb' .string (kidPairs _ q (k1 ++ k2))
          rw [PT.kidPairs_congr fun r hr => pruned_blk (s := s) (q := q ++ [r]) hn (fun e6 => hkn r hr (PT.snoc_inj e6).2)]
          have e6 : kidPairs T q (k1 ++ k2) = l1 ++ l2 := by
            rw [← e1, ← e2]
            unfold PT.kidPairs
            rw [List.map_append]
          rw [e6]
          exact hA
        · exact hnd.sublist ((List.sublist_cons_self s k2).append_left k1)
        · show r ∈ k1 ++ k2 ↔ _
          by_cases e5 : r = s
          · subst e5
            rw [pruned_gone]
            constructor
            · intro h; exact absurd rfl (hkn r h)
            · intro h; cases h
          · rw [pruned_some hn (fun e6 => e5 (PT.snoc_inj e6).2), ← hN.kids r, hks]
            simp [e5]
      · rw [pruned_else e3 e] at hq
        refine (hT.node q x hq).keep hM (fun b hb k e4 => ?_) (fun _ _ h => h) (fun r _ => pruned_blk hn fun e5 => e3 (PT.snoc_inj e5).1) (fun r => pruned_some hn fun e5 => e3 (PT.snoc_inj e5).1)
        rw [List.mem_singleton] at hb
        rw [hb, hN.own2 mb hmb] at e4
        cases e4
        exact e3 rfl
end
theorem StrsAt.tail {w : World} {b o c : Nat} {s : List UInt8} {r : Way} (h : StrsAt w (some ⟨b, o, none⟩) c (s :: r)) : StrsAt w (some ⟨b, o + 1, none⟩) (c - 1) r := by
  have h1 := h.1
  rw [List.length_cons] at h1
  refine ⟨by omega, fun h0 => ?_⟩
  obtain ⟨b', o', e, hlt, hc⟩ := h.2 (by simp)
  injection e with e
  injection e with e1 e2
  subst e1
  subst e2
  refine ⟨b, o + 1, rfl, hlt, fun j x hx => ?_⟩
  have := hc (j + 1) x (by rw [List.getElem?_cons_succ]; exact hx)
  rw [show o + 1 + j = o + (j + 1) by omega]
  exact this
theorem TreeAt.drewN {w : World} {T : Tr} {own : Owner} (h : TreeAt w T own) (k : Nat) : TreeAt (w.drewN k) T own := h.mod ((Mod.refl [] w).drewN k) (by simp)
theorem NodeAt.drewN {w : World} {T : Tr} {own : Owner} {p : Way} {n : Nd} (h : NodeAt w T own p n) (k : Nat) : NodeAt (w.drewN k) T own p n := h.keep ((Mod.refl [] w).drewN k) (by simp) (fun _ _ e => e) (fun _ _ => rfl) (fun _ => rfl)
set_option maxHeartbeats 4000000 in
theorem remove_any : ∀ (r : Way) (w : World) (T : Tr) (own : Owner) (hT : TreeAt w T own) (p : Way) (n : Nd) (hn : T p = some n) (A : Option Addr) (c : Nat) (hst : StrsAt w A c r) (hfree : ∀ ad, A = some ad → own ad.block = none) (hc : c ≤ 4) (hth : (T (p ++ r)).isSome = true) (id : Int),
    Calls Tryd.prog 21 #[.pointer (some ⟨n.b, 0, none⟩), .slice A r.length c, .int .i64 id] w (Removed w T own p (p ++ r) id)
  | [], w, T, own, hT, p, n, hn, A, c, _, _, _, _, id => by
    rw [List.append_nil]
    exact remove_end w T own hT p n hn A c id
  | s :: r, w, T, own, hT, p, n, hn, A, c, hst, hfree, hc, hth, id => by
    have hpr : p ++ s :: r = p ++ [s] ++ r := by simp
    rw [hpr] at hth ⊢
    have hsc := hst.1
    rw [List.length_cons] at hsc
    obtain ⟨b, o, eA, hblt, hca⟩ := hst.2 (by simp)
    subst eA
    obtain ⟨n2, hn2⟩ := Option.isSome_iff_exists.1 (hT.isSome_prefix hth)
    have hbw := (Below.refl w.heap.size w).alloc (Nat.le_refl _) (.cells #[.int .i64 id] 3)
    have hseg : (w.alloc (.cells #[.int .i64 id] 3)).cell? ⟨b, o, none⟩ = some (str s) := (hbw.cell (p := ⟨b, o, none⟩) hblt).trans (hca 0 s rfl)
    have hT1 := hT.below hbw
    have hN1 := hT1.node p n hn
    have c1 := hN1.cell1
    have hlk : (Instr.lookup 47 (.map n.m) (str s) false).run Tryd.prog (w.alloc (.cells #[.int .i64 id] 3)).drew = .ok (.pointer (some ⟨n2.b, 0, none⟩)) (w.alloc (.cells #[.int .i64 id] 3)).drew := by
      have := (hN1.drewN 1).look s
      rw [ptrTo_some hn2] at this
      exact this
    have hbox : (w.alloc (.cells #[.int .i64 id] 3)).cell? ⟨w.heap.size, 0, none⟩ = some (.int .i64 id) := (Whole.new w 3 #[.int .i64 id]).cell 0
    have IH := Lib.hid (fun w2 (hT2 : TreeAt w2 T own) A2 c2 (hst2 : StrsAt w2 A2 c2 r) (hf2 : ∀ ad, A2 = some ad → own ad.block = none) (hc2 : c2 ≤ 4) => remove_any r w2 T own hT2 (p ++ [s]) n2 hn2 A2 c2 hst2 hf2 hc2 hth id)
    have HF := Lib.hid hfree
    have HT := Lib.hid hT; have HN := Lib.hid hn; have HN2 := Lib.hid hn2; have HST := Lib.hid hst; have HBW := Lib.hid hbw
    clear hT hn hn2 hst hca hT1 hN1 hth hfree hbw hpr
    rw [List.length_cons]
    unfold PM.str at hlk hseg
    go_enter Tryd.func21, Tryd.ntmps21
    go_wp2_with fail
    go_region
    have HB1 := Lib.hid (show Below w.heap.size w (w.alloc (.cells #[.int .i64 id] 3)).drew.drew from HBW.out.drew.drew)
    have HBX := Lib.hid (show (w.alloc (.cells #[.int .i64 id] 3)).drew.drew.cell? ⟨w.heap.size, 0, none⟩ = some (.int .i64 id) from hbox)
    have HL1 := Lib.hid (show w.heap.size < (w.alloc (.cells #[.int .i64 id] 3)).drew.drew.heap.size by show w.heap.size < (w.alloc _).heap.size; rw [World.size_alloc]; omega)
    have HLOOP := Lib.hid (show ∀ A2 c2, (∀ w2, Below w.heap.size w w2 → StrsAt w2 A2 c2 r) → (∀ ad, A2 = some ad → own ad.block = none) → c2 ≤ 4 →
        Calls Tryd.prog 21 #[.pointer (some ⟨n2.b, 0, none⟩), .slice A2 r.length c2, .int .i64 id] (w.alloc (.cells #[.int .i64 id] 3)).drew.drew fun e w2 => Removed (w.alloc (.cells #[.int .i64 id] 3)).drew.drew T own (p ++ [s]) (p ++ [s] ++ r) id e w2 ∧ w2.cell? ⟨w.heap.size, 0, none⟩ = some (.int .i64 id) from fun A2 c2 h1 h2 h3 => by
      refine (IH.out _ (HT.out.below HB1.out) A2 c2 (h1 _ HB1.out) h2 h3).mono ?_
      intro e w2 hR
      refine ⟨hR, ?_⟩
      obtain ⟨T2, _, _, k2, _⟩ := hR
      exact (World.cell?_of_block (k2.block (HT.out.below HB1.out) HL1.out (HT.out.fresh (Nat.le_refl _)))).trans HBX.out)
    go_wp2_with fail
    by_cases hc1 : c = 1
    case' pos =>
      have hr0 : r = [] := List.eq_nil_of_length_eq_zero (by omega)
      subst hc1
      subst hr0
      have HC := Lib.hid (show Calls Tryd.prog 21 #[.pointer (some ⟨n2.b, 0, none⟩), .slice (some ⟨b, o, none⟩) 0 0, .int .i64 id] (w.alloc (.cells #[.int .i64 id] 3)).drew.drew _ from HLOOP.out (some ⟨b, o, none⟩) 0 (fun w2 hb => StrsAt.nil _ _ _) (fun ad e => by cases e; exact HF.out ⟨b, o, none⟩ rfl) (by omega))
      simp only [List.length_nil, Nat.zero_add]
      go_region_held3 (fun w' => w'.cell? ⟨w.heap.size, 0, none⟩ = some (.int .i64 id))
        (first
          | (go_keep; done)
          | exact HSK)
        (first
          | (go_at_call 21; refine HC.out.mono ?_; rintro x2 w2 ⟨⟨T2, rfl, k1, k2, k3, k4, k5⟩, HSK⟩; have HT2 := Lib.hid k1; have HM2 := Lib.hid k2; have H3 := Lib.hid k3; have H4 := Lib.hid k4; have H5 := Lib.hid k5; clear k1 k2 k3 k4 k5))
    case' neg =>
      have hle1 : (1 : Int) ≤ (r.length : Int) + 1 := by omega
      have HC := Lib.hid (HLOOP.out (some ⟨b, o + 1, none⟩) (c - 1) (fun w2 hb => (HST.out.below hb).tail) (fun ad e => by cases e; exact HF.out ⟨b, o, none⟩ rfl) (by omega))
      go_region_held3 (fun w' => w'.cell? ⟨w.heap.size, 0, none⟩ = some (.int .i64 id))
        (first
          | (go_keep; done)
          | exact HSK)
        (first
          | (go_at_call 21; refine HC.out.mono ?_; rintro x2 w2 ⟨⟨T2, rfl, k1, k2, k3, k4, k5⟩, HSK⟩; have HT2 := Lib.hid k1; have HM2 := Lib.hid k2; have H3 := Lib.hid k3; have H4 := Lib.hid k4; have H5 := Lib.hid k5; clear k1 k2 k3 k4 k5))
    all_goals
      obtain ⟨m, hm⟩ := Option.isSome_iff_exists.1 H3.out
      have hmb : m.b = n2.b := by
        have := (H4.out _ H3.out).2
        rwa [PT.blk_some hm, PT.blk_some HN2.out] at this
      have hM := HT2.out.node _ m hm
      obtain ⟨n', hn'⟩ := Option.isSome_iff_exists.1 (HT2.out.up p s H3.out)
      have hnb : n'.b = n.b := by
        have := (H4.out p (by rw [hn']; rfl)).2
        rwa [PT.blk_some hn', PT.blk_some HN.out] at this
      have hN' := HT2.out.node _ n' hn'
      have c20 := hM.cell0
      have c21 := hM.cell1
      rw [hmb] at c20 c21
      have HTU := Lib.hid (show Turned w own w2 from fun F hF => (Mod.of_below HB1.out F).trans (HM2.out F hF) (fun x hx => .inl hx))
      have HLO := Lib.hid (Longer.refl w own)
      have HMM := Lib.hid hM; have HN'' := Lib.hid hN'; have HE := Lib.hid hm; have HE' := Lib.hid hn'; have HMB := Lib.hid hmb; have HNB := Lib.hid hnb
      have hks : s ∈ n'.kids := (hN'.kids s).2 H3.out
      have HKS := Lib.hid hks
      obtain ⟨mb, hmbm⟩ : ∃ mb, n'.m = some mb := by
        cases e : n'.m with
        | some mb => exact ⟨mb, rfl⟩
        | none =>
          rw [hN'.bare e] at hks
          cases hks
      have c31 := hN'.cell1
      rw [hmbm, hnb] at c31
      have hlen : ∀ ty, (Builtin.len_ #[47] ty #[.map m.m]).run Tryd.prog w2 = .ok (.int .i64 (m.kids.length : Int)) w2 := fun ty => by
        cases e : m.m with
        | none =>
          rw [hM.bare e]
          exact Maps.len_nil Tryd.underlying47 ty
        | some mb2 =>
          have := (hM.kidsAt mb2 e).len (P := Tryd.prog) Tryd.underlying47 ty
          unfold PT.kidPairs at this
          rwa [List.length_map] at this
      have HLEN := Lib.hid hlen
      have HMP := Lib.hid hmbm
      clear hm hmb hM hn' hnb hN' hks hmbm hlen
      have c40 : w2.cell? ⟨b, o, none⟩ = some (str s) := (World.cell?_of_block (w := w) (a := ⟨b, o, none⟩) (HTU.out.block HT.out hblt (HF.out ⟨b, o, none⟩ rfl))).trans (by
        obtain ⟨b', o', e, _, hc⟩ := HST.out.2 (by simp)
        injection e with e
        injection e with e1 e2
        subst e1
        subst e2
        exact hc 0 s rfl)
      unfold PM.str at c40
      have HC40 := Lib.hid c40
      clear c40
      by_cases hi0 : m.ids = []
      · have hlen := HLEN.out
        have hi1 : m.ids.length = 0 := by rw [hi0]; rfl
        by_cases hk0 : m.kids = []
        · have hk1 : m.kids.length = 0 := by rw [hk0]; rfl
          have hMA : MapAt w2.drew mb .string (kidPairs T2 p n'.kids) := HN''.out.kidsAt mb HMP.out
          have hmem := PT.kidPairs_mem (T := T2) (p := p) HKS.out
          rw [PT.blk_some HE.out] at hmem
          obtain ⟨w3, l1, l2, hdel0, hl, hM3, hg3, hs3⟩ := hMA.drop (P := Tryd.prog) Tryd.underlying47 Tryd.underlying9 (PT.kidPairs_keys HN''.out.nodup) hmem 0
          have hdel : ∀ ty, (Builtin.delete_ #[47, 9] ty #[.map (some mb), str s]).run Tryd.prog w2.drew = .ok (.tuple #[]) w3 := fun ty => hdel0
          unfold PM.str at hdel
          obtain ⟨ks, hTP⟩ := prune (w' := w3) HT2.out HE'.out HE.out hk0 HMP.out ((Mod.refl [mb] w2).drew.grown hg3 (fun k hk => .inl (by cases hk; simp))) hl hM3
          have HTP := Lib.hid hTP
          have HG3 := Lib.hid hg3
          have hidn : ids T2 (p ++ [s]) = [] := by rw [PT.ids_some HE.out]; exact hi0
          have HIDN := Lib.hid hidn
          have c40 := HC40.out
          clear hTP hg3 hdel0 hl hM3 hs3 hMA hmem hidn hi0 hk0
          rw [hk1] at hlen
          rw [hi1] at c20
          go_wp2_with fail
          go_region
          go_end0
          refine ⟨pruned T2 p n' s ks, rfl, HTP.out, fun F hF => (HTU.out F hF).trans ((Mod.refl [mb] w2).drew.grown HG3.out (fun k hk => .inl (by cases hk; simp))) (fun x hx => ?_), by rw [pruned_at]; rfl, fun q h => ?_, fun q => by rw [pruned_ids HE'.out HIDN.out]; exact H5.out q⟩
          · rw [List.mem_singleton] at hx
            exact .inl (hF x _ (by rw [hx]; exact HN''.out.own2 mb HMP.out))
          · have hq : q ≠ p ++ [s] := fun e => by rw [e, pruned_gone] at h; cases h
            rw [pruned_some HE'.out hq] at h
            rw [pruned_blk HE'.out hq]
            exact H4.out q h
        · have hkl : ((m.kids.length : Int) == 0) = false := beq_eq_false_iff_ne.2 (by have := List.length_pos_iff.2 hk0; omega)
          rw [hi1] at c20
          clear hi0 hk0
          go_wp2_with fail
          go_end0
          exact ⟨T2, rfl, HT2.out, HTU.out, by rw [HE'.out]; rfl, H4.out, H5.out⟩
      · have hil : ((m.ids.length : Int) == 0) = false := beq_eq_false_iff_ne.2 (by have := List.length_pos_iff.2 hi0; omega)
        go_wp2_with fail
        go_end0
        exact ⟨T2, rfl, HT2.out, HTU.out, by rw [HE'.out]; rfl, H4.out, H5.out⟩
end Go.Proofs.YtpfljooceppcbaaDoor
