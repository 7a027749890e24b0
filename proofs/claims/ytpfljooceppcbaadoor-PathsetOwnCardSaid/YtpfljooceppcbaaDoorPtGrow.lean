/- What is put in: a branch's child, found or laid anew; a number more at the end of a way. -/
import Derived.Test.YtpfljooceppcbaaDoorPtAsk
import Derived.Test.YtpfljooceppcbaaDoorPsBase
namespace Go.Proofs.YtpfljooceppcbaaDoor
open Go.RowKit
open SE (Ent)
open PM (str)
open PT (blk ids set cut kidPairs lies Agrees segs)
set_option linter.unusedVariables false
set_option maxRecDepth 100000
/-- The blocks that somebody owns, as a list. -/
def Of (own : Owner) (F : List Nat) : Prop := ∀ b t, own b = some t → b ∈ F
/-- Who owns what, and what is new is owned too. -/
structure Longer (w : World) (own own' : Owner) : Prop where
  old : ∀ b t, own b = some t → own' b = some t
  new : ∀ b t, own' b = some t → own b = some t ∨ w.heap.size ≤ b
theorem Longer.refl (w : World) (own : Owner) : Longer w own own := ⟨fun _ _ h => h, fun _ _ h => .inl h⟩
theorem Longer.trans {w w1 : World} {a b c : Owner} (h : Longer w a b) (k : Longer w1 b c) (hw : w.heap.size ≤ w1.heap.size) : Longer w a c :=
  ⟨fun x t e => k.old x t (h.old x t e), fun x t e => by
    rcases k.new x t e with h1 | h1
    · exact h.new x t h1
    · exact .inr (Nat.le_trans hw h1)⟩
/-- A new block is given an owner. -/
def give (own : Owner) (b : Nat) (t : Way × Nat) : Owner := fun x => if x = b then some t else own x
theorem give_same (own : Owner) (b : Nat) (t : Way × Nat) : give own b t b = some t := if_pos rfl
theorem give_other {own : Owner} {b x : Nat} {t : Way × Nat} (h : x ≠ b) : give own b t x = own x := if_neg h
theorem give_longer {w : World} {own : Owner} {b : Nat} {t : Way × Nat} (hn : own b = none) (hb : w.heap.size ≤ b) : Longer w own (give own b t) :=
  ⟨fun x u h => by
    have : x ≠ b := fun e => by rw [e, hn] at h; cases h
    rw [give_other this]; exact h, fun x u h => by
    by_cases e : x = b
    · exact .inr (by omega)
    · rw [give_other e] at h
      exact .inl h⟩
/-- Blocks of one branch: what is turned in them leaves the other branches alone. -/
def Mine1 (own : Owner) (p : Way) (G : List Nat) : Prop := ∀ b ∈ G, ∀ t, own b = some t → t.1 = p
/-- What has come of a tree when a child was asked for. -/
def Grown (w : World) (T : Tr) (own : Owner) (p : Way) (s : List UInt8) (e : Ending) (w' : World) : Prop :=
  ∃ T' own' n', e = .returned (.pointer (some ⟨n'.b, 0, none⟩)) ∧ T' (p ++ [s]) = some n' ∧ TreeAt w' T' own' ∧ (∀ F, Of own F → Mod F w w') ∧ Longer w own own' ∧ (∀ q, ids T' q = ids T q) ∧ (∀ q, (T q).isSome = true → (T' q).isSome = true ∧ blk T' q = blk T q)
section
variable {w w' : World} {T : Tr} {own : Owner} {p : Way} {n : Nd}
theorem TreeAt.fresh (h : TreeAt w T own) {b : Nat} (hb : w.heap.size ≤ b) : own b = none := by
  cases e : own b with
  | none => rfl
  | some t => have := h.lt b t e; omega
end
/-- The tree with one branch more. -/
def planted (T : Tr) (p : Way) (n : Nd) (s : List UInt8) (mb nb : Nat) : Tr := set (set T p ⟨n.b, n.A, n.c, n.ids, some mb, n.kids ++ [s]⟩) (p ++ [s]) ⟨nb, none, 0, [], none, []⟩
section
variable {w w4 : World} {T : Tr} {own own1 : Owner} {p : Way} {n : Nd} {s : List UInt8} {mb nb : Nat}
theorem planted_new : planted T p n s mb nb (p ++ [s]) = some ⟨nb, none, 0, [], none, []⟩ := PT.set_same _ _ _
theorem planted_at : planted T p n s mb nb p = some ⟨n.b, n.A, n.c, n.ids, some mb, n.kids ++ [s]⟩ := by
  unfold planted
  rw [PT.set_other (PT.snoc_ne p s).symm]
  exact PT.set_same _ _ _
theorem planted_else {q : Way} (h1 : q ≠ p) (h2 : q ≠ p ++ [s]) : planted T p n s mb nb q = T q := by
  unfold planted
  rw [PT.set_other h2, PT.set_other h1]
theorem planted_blk (hn : T p = some n) {q : Way} (h : q ≠ p ++ [s]) : blk (planted T p n s mb nb) q = blk T q := by
  by_cases e : q = p
  · subst e
    rw [PT.blk_some planted_at, PT.blk_some hn]
  · unfold PT.blk
    rw [planted_else e h]
theorem planted_some (hn : T p = some n) {q : Way} (h : q ≠ p ++ [s]) : (planted T p n s mb nb q).isSome = (T q).isSome := by
  by_cases e : q = p
  · subst e
    rw [planted_at, hn]; rfl
  · rw [planted_else e h]
theorem planted_ids (hn : T p = some n) (hs : T (p ++ [s]) = none) (q : Way) : ids (planted T p n s mb nb) q = ids T q := by
  by_cases e2 : q = p ++ [s]
  · subst e2
    rw [PT.ids_some planted_new, PT.ids_none hs]
  · by_cases e : q = p
    · subst e
      rw [PT.ids_some planted_at, PT.ids_some hn]
    · unfold PT.ids
      rw [planted_else e e2]
theorem plant (hT : TreeAt w T own) (hn : T p = some n) (hs : T (p ++ [s]) = none) (hp : p.length < 4) (hL : Longer w own own1) (hlt1 : ∀ b t, own1 b = some t → b < w4.heap.size) (h2 : own1 mb = some (p, 2)) (hnb : own1 nb = none) (hnb3 : nb < w4.heap.size)
    (hM : Mod [n.b, mb] w w4) (hc : Whole w4 n.b 49 #[.slice n.A n.ids.length n.c, .map (some mb)]) (hk : MapAt w4 mb .string (kidPairs T p n.kids ++ [(str s, .pointer (some ⟨nb, 0, none⟩))])) (hw : Whole w4 nb 49 #[.slice none 0 0, .map none]) :
    TreeAt w4 (planted T p n s mb nb) (give own1 nb (p ++ [s], 0)) := by
  have hN := hT.node p n hn
  have hnk : s ∉ n.kids := fun hm => by
    have := (hN.kids s).1 hm
    rw [hs] at this; cases this
  have ho : ∀ b t, own b = some t → give own1 nb (p ++ [s], 0) b = some t := fun b t e => by
    have h1 := hL.old b t e
    have : b ≠ nb := fun e2 => by rw [e2, hnb] at h1; cases h1
    rw [give_other this]; exact h1
  have h2' : give own1 nb (p ++ [s], 0) mb = some (p, 2) := by
    have : mb ≠ nb := fun e2 => by rw [e2, hnb] at h2; cases h2
    rw [give_other this]; exact h2
  refine ⟨?_, fun q r h => ?_, fun q h => ?_, fun q m hq => ?_, fun b t e => ?_⟩
  · by_cases e : ([] : Way) = p ++ [s]
    · rw [e, planted_new]; rfl
    · rw [planted_some hn e]; exact hT.root
  · by_cases e : q ++ [r] = p ++ [s]
    · obtain ⟨rfl, rfl⟩ := PT.snoc_inj e
      rw [planted_at]; rfl
    · rw [planted_some hn e] at h
      by_cases e2 : q = p ++ [s]
      · rw [e2, planted_new]; rfl
      · rw [planted_some hn e2]
        exact hT.up q r h
  · by_cases e : q = p ++ [s]
    · rw [e, List.length_append, List.length_singleton]; omega
    · rw [planted_some hn e] at h
      exact hT.deep q h
  · by_cases e : q = p ++ [s]
    · subst e
      rw [planted_new] at hq
      cases hq
      have hkn : ∀ r, (planted T p n s mb nb (p ++ [s] ++ [r])).isSome = false := fun r => by
        rw [planted_some hn (PT.snoc_ne _ _)]
        cases hr : (T (p ++ [s] ++ [r])).isSome with
        | false => rfl
        | true =>
          have := hT.up _ _ hr
          rw [hs] at this; cases this
      exact ⟨hw, ⟨rfl, .inl ⟨rfl, rfl⟩⟩, fun _ => rfl, (fun mb e => by cases e), List.nodup_nil, (fun r => by rw [hkn r]; simp), give_same _ _ _, (fun ad e => by cases e), (fun mb e => by cases e)⟩
    · by_cases e2 : q = p
      · subst e2
        rw [planted_at] at hq
        cases hq
        refine ⟨hc, hM.own hN.row fun k e3 hk3 => ?_, (fun e3 => by cases e3), fun mb' e3 => ?_, ?_, fun r => ?_, ho _ _ hN.own0, (fun ad e3 => ho _ _ (hN.own1 ad e3)), fun mb' e3 => ?_⟩
        · cases hA : n.A with
          | none => rw [hA] at e3; cases e3
          | some ad =>
            rw [hA] at e3
            have e4 : ad.block = k := by simpa [Value.ownBlock] using e3
            have h1 := hN.own1 ad hA
            rw [e4] at h1
            rcases List.mem_cons.1 hk3 with e5 | e5
            · rw [e5, hN.own0] at h1; cases h1
            · rw [List.mem_singleton] at e5
              have h3 := hL.old _ _ h1
              rw [e5, h2] at h3; cases h3
        · cases e3
          have e4 : kidPairs (planted T q n s mb nb) q (n.kids ++ [s]) = kidPairs T q n.kids ++ [(str s, .pointer (some ⟨nb, 0, none⟩))] := by
            rw [PT.kidPairs_snoc, PT.blk_some planted_new, PT.kidPairs_congr fun r hr => planted_blk (s := s) (q := q ++ [r]) hn (fun e5 => hnk (by rw [← (PT.snoc_inj e5).2]; exact hr))]
          show MapAt w4 mb .string (kidPairs (planted T q n s mb nb) q (n.kids ++ [s]))
          rw [e4]
          exact hk
        · rw [List.nodup_append]
          refine ⟨hN.nodup, by simp, fun a ha b hb e5 => ?_⟩
          rw [List.mem_singleton] at hb
          exact hnk (hb ▸ e5 ▸ ha)
        · show r ∈ n.kids ++ [s] ↔ _
          rw [List.mem_append, List.mem_singleton]
          by_cases e5 : r = s
          · subst e5
            rw [planted_new]; simp
          · rw [planted_some hn (fun e6 => e5 (PT.snoc_inj e6).2), ← hN.kids r]
            simp [e5]
        · cases e3
          exact h2'
      · rw [planted_else e2 e] at hq
        refine (hT.node q m hq).keep hM (fun b hb k e3 => ?_) ho (fun r _ => planted_blk hn fun e5 => e2 (PT.snoc_inj e5).1) (fun r => planted_some hn fun e5 => e2 (PT.snoc_inj e5).1)
        rcases List.mem_cons.1 hb with e5 | e5
        · rw [e5, hN.own0] at e3; cases e3; exact e2 rfl
        · rw [List.mem_singleton] at e5
          have h3 := hL.old _ _ e3
          rw [e5, h2] at h3; cases h3; exact e2 rfl
  · by_cases e2 : b = nb
    · rw [e2]; exact hnb3
    · rw [give_other e2] at e
      exact hlt1 b t e
end
theorem grown_end {w w4 : World} {T : Tr} {own own1 : Owner} {p : Way} {n : Nd} {s : List UInt8} {mb nb : Nat} (hT : TreeAt w T own) (hn : T p = some n) (hs : T (p ++ [s]) = none) (hp : p.length < 4) (hL : Longer w own own1) (hlt1 : ∀ b t, own1 b = some t → b < w4.heap.size) (h2 : own1 mb = some (p, 2)) (hnb : own1 nb = none) (hnb2 : w.heap.size ≤ nb) (hnb3 : nb < w4.heap.size)
    (hM : Mod [n.b, mb] w w4) (hmb : own mb = some (p, 2) ∨ w.heap.size ≤ mb) (hc : Whole w4 n.b 49 #[.slice n.A n.ids.length n.c, .map (some mb)]) (hk : MapAt w4 mb .string (kidPairs T p n.kids ++ [(str s, .pointer (some ⟨nb, 0, none⟩))])) (hw : Whole w4 nb 49 #[.slice none 0 0, .map none]) :
    Grown w T own p s (.returned (.pointer (some ⟨nb, 0, none⟩))) w4 := by
  have hne : ∀ q, (T q).isSome = true → q ≠ p ++ [s] := fun q h e => by rw [e, hs] at h; cases h
  refine ⟨planted T p n s mb nb, give own1 nb (p ++ [s], 0), ⟨nb, none, 0, [], none, []⟩, rfl, planted_new, plant hT hn hs hp hL hlt1 h2 hnb hnb3 hM hc hk hw, fun F hF => hM.mono fun x hx => ?_, hL.trans (give_longer hnb hnb2) (Nat.le_refl _), planted_ids hn hs, fun q h => ⟨?_, planted_blk hn (hne q h)⟩⟩
  · rcases List.mem_cons.1 hx with e | e
    · exact .inl (hF x _ (by rw [e]; exact (hT.node p n hn).own0))
    · rw [List.mem_singleton] at e
      rcases hmb with h | h
      · exact .inl (hF x _ (by rw [e]; exact h))
      · exact .inr (by omega)
  · rw [planted_some hn (hne q h)]; exact h
theorem own_flat {w w' : World} {B : Nat} {b : Nat} {row : Option Nat} (hg : w.grownBy w' row) (hb : b < w.heap.size) (hne : some b ≠ row) : w'.heap[b]? = w.heap[b]? := hg.block b hb hne
set_option maxHeartbeats 4000000 in
theorem grow_any (w : World) (T : Tr) (own : Owner) (hT : TreeAt w T own) (p : Way) (n : Nd) (hn : T p = some n) (hp : p.length < 4) (s : List UInt8) :
    Calls Tryd.prog 38 #[.pointer (some ⟨n.b, 0, none⟩), str s] w (Grown w T own p s) := by
  have hN := hT.node p n hn
  have hmn := fun (r : Option Nat) (w : World) => run_eql_map_nil (P := Tryd.prog) w 47 9 46 r Tryd.underlying47
  cases hs : T (p ++ [s]) with
  | some n' =>
    have HLK := Lib.hid (hN.look s)
    rw [ptrTo_some hs] at HLK
    cases hm : n.m with
    | none =>
      have := (hN.kids s).2 (by rw [hs]; rfl)
      rw [hN.bare hm] at this
      cases this
    | some mb =>
      have c1 := hN.cell1
      rw [hm] at c1 HLK
      have HT := Lib.hid hT; have HS := Lib.hid hs
      clear hT hN hs hn
      unfold PM.str at HLK ⊢
      go_enter Tryd.func38, Tryd.ntmps38
      go_wp2_with (at_lookup; refine wp_look rfl _ _ _ _ rfl _ _ _ rfl rfl HLK.out ?_)
      go_ret
      exact ⟨T, own, n', rfl, HS.out, HT.out, fun F _ => Mod.refl F w, Longer.refl w own, fun _ => rfl, fun q h => ⟨h, rfl⟩⟩
  | none =>
    have hnk : s ∉ n.kids := fun hm => by
      have := (hN.kids s).1 hm
      rw [hs] at this; cases this
    have HT := Lib.hid hT; have HS := Lib.hid hs; have HN := Lib.hid hN; have HNN := Lib.hid hn; have HNK := Lib.hid hnk
    have c1 := hN.cell1
    have f1 : w.frozen? ⟨n.b, 1, none⟩ = false := hN.cells.frozen 1
    have hz := fun w : World => Tryd.zeroValue49 w
    cases hm : n.m with
    | some mb =>
      rw [hm] at c1
      have HL1 := Lib.hid (hN.look s)
      rw [ptrTo_none hs, hm] at HL1
      -- the child's block, then the store
      have hMA := (hN.kidsAt mb hm).below ((Below.refl w.heap.size w).alloc (Nat.le_refl _) (.cells #[.slice none 0 0, .map none] 49))
      obtain ⟨w2, hrun, hM2, hg2, hs2⟩ := hMA.store (P := Tryd.prog) Tryd.underlying47 Tryd.underlying9 (key_str s) (PT.kidPairs_no hnk) (.pointer (some ⟨w.heap.size, 0, none⟩))
      have HRUN := Lib.hid hrun
      have hkeys : ((kidPairs T p n.kids ++ [(str s, Value.pointer (some ⟨w.heap.size, 0, none⟩))]).map (·.1)).Nodup := by
        rw [List.map_append, List.nodup_append]
        refine ⟨PT.kidPairs_keys hN.nodup, by simp, fun a ha b hb e => ?_⟩
        obtain ⟨x, hx, rfl⟩ := List.mem_map.1 ha
        simp only [List.map_cons, List.map_nil, List.mem_singleton] at hb
        exact PT.kidPairs_no hnk x hx (e.trans hb)
      have HL2 := Lib.hid (hM2.look_yes (P := Tryd.prog) Tryd.underlying47 Tryd.underlying9 hkeys (List.mem_append_right _ (List.mem_singleton.2 rfl)) false)
      have hnm : n.b ≠ mb := fun e => by
        have h1 := hN.own0
        rw [e, hN.own2 mb hm] at h1
        cases h1
      have hblt : n.b < w.heap.size := hN.cells.lt
      have hw2 : Whole w2 n.b 49 #[.slice n.A n.ids.length n.c, .map (some mb)] := by
        have h1 := hN.cells.alloc (.cells #[.slice none 0 0, .map none] 49)
        rw [hm] at h1
        exact (hg2.block n.b h1.lt (fun e => hnm (by cases e; rfl))).trans h1
      have c2 : w2.cell? ⟨n.b, 1, none⟩ = some (.map (some mb)) := hw2.cell 1
      have HW2 := Lib.hid hw2; have HM2 := Lib.hid hM2; have HG2 := Lib.hid hg2; have HS2 := Lib.hid hs2
      clear hT hN hs hn hMA hrun hM2 hg2 hkeys hw2 hs2 hnk
      unfold PM.str at HL1 HRUN HL2 ⊢
      go_enter Tryd.func38, Tryd.ntmps38
      go_wp2_with (first
        | (at_mapUpdate; refine wp_store rfl _ _ _ _ rfl _ _ _ rfl rfl rfl HRUN.out ?_)
        | (at_lookup; first
            | refine wp_look rfl _ _ _ _ rfl _ _ _ rfl rfl HL1.out ?_
            | refine wp_look rfl _ _ _ _ rfl _ _ _ rfl rfl HL2.out ?_))
      go_ret
      have hG2 := HG2.out
      have hS2 := HS2.out
      rw [World.size_alloc] at hS2
      have hM : Mod [n.b, mb] w w2 := ((Mod.refl [n.b, mb] w).alloc _).grown hG2 (fun k hk => by cases hk; simp)
      have hfr := HT.out.fresh (Nat.le_refl w.heap.size)
      have hmbl : mb < w.heap.size := (HN.out.kidsAt mb hm).lt
      refine grown_end HT.out HNN.out HS.out hp (Longer.refl w own) (fun b t e => Nat.lt_of_lt_of_le (HT.out.lt b t e) (by omega)) (HN.out.own2 mb hm) hfr (Nat.le_refl _) (by omega) hM (.inl (HN.out.own2 mb hm)) HW2.out HM2.out ?_
      exact (hG2.block w.heap.size (by simp) (fun e => by cases e; omega)).trans (Whole.new w _ _)
    | none =>
      have hblt : n.b < w.heap.size := hN.cells.lt
      have hmm := @run_makeMap Tryd.prog
      rw [hm] at c1
      have hk0 : n.kids = [] := hN.bare hm
      have hes : (w.setCell ⟨n.b, 1, none⟩ (.map (some w.heap.size))).heap.size = w.heap.size := by simp
      have hM2 : MapAt ((w.setCell ⟨n.b, 1, none⟩ (.map (some w.heap.size))).alloc (.map #[] 0)) w.heap.size .string [] := by
        have := MapAt.new (w.setCell ⟨n.b, 1, none⟩ (.map (some w.heap.size))) .string
        rwa [hes] at this
      have hm2 : Mod [n.b] w ((w.setCell ⟨n.b, 1, none⟩ (.map (some w.heap.size))).alloc (.map #[] 0)) := ((Mod.refl [n.b] w).store (.inl (by simp)) _).alloc _
      have HL1 := Lib.hid (hM2.look_no (P := Tryd.prog) Tryd.underlying47 Tryd.underlying9 (key_str s) (by simp) (Tryd.zeroValue46 _) false)
      have hW2 : Whole ((w.setCell ⟨n.b, 1, none⟩ (.map (some w.heap.size))).alloc (.map #[] 0)) n.b 49 #[.slice n.A n.ids.length n.c, .map (some w.heap.size)] := by
        have h1 := (hN.cells.store 1 (.map (some w.heap.size))).alloc (.map #[] 0)
        rw [hm] at h1
        exact h1
      have hsz2 : ((w.setCell ⟨n.b, 1, none⟩ (.map (some w.heap.size))).alloc (.map #[] 0)).heap.size = w.heap.size + 1 := by simp
      have hMA := hM2.below ((Below.refl _ _).alloc (Nat.le_refl _) (.cells #[.slice none 0 0, .map none] 49))
      obtain ⟨w4, hrun, hM4, hg4, hs4⟩ := hMA.store (P := Tryd.prog) Tryd.underlying47 Tryd.underlying9 (key_str s) (by simp) (.pointer (some ⟨w.heap.size + 1, 0, none⟩))
      have HRUN := Lib.hid hrun
      have HL2 := Lib.hid (hM4.look_yes (P := Tryd.prog) Tryd.underlying47 Tryd.underlying9 (by simp) (List.mem_append_right _ (List.mem_singleton.2 rfl)) false)
      have hne : n.b ≠ w.heap.size := by omega
      have hW4 : Whole w4 n.b 49 #[.slice n.A n.ids.length n.c, .map (some w.heap.size)] := (hg4.block n.b (hW2.alloc _).lt (fun e => hne (Option.some.inj e))).trans (hW2.alloc _)
      have c2 := hW2.cell 1
      have c4 : w4.cell? ⟨n.b, 1, none⟩ = some (.map (some w.heap.size)) := hW4.cell 1
      have HW4 := Lib.hid hW4; have HM4 := Lib.hid hM4; have HG4 := Lib.hid hg4; have HS4 := Lib.hid hs4; have HMO := Lib.hid hm2; have HSZ := Lib.hid hsz2; have HK0 := Lib.hid hk0
      clear hT hN hs hn hMA hrun hM4 hg4 hW4 hs4 hnk hM2 hm2 hW2 hk0 hsz2 hes
      unfold PM.str at HL1 HRUN HL2 ⊢
      go_enter Tryd.func38, Tryd.ntmps38
      go_wp2_with (first
        | (at_mapUpdate; refine wp_store rfl _ _ _ _ rfl _ _ _ rfl rfl rfl HRUN.out ?_)
        | (at_lookup; first
            | refine wp_look rfl _ _ _ _ rfl _ _ _ rfl rfl HL1.out ?_
            | refine wp_look rfl _ _ _ _ rfl _ _ _ rfl rfl HL2.out ?_))
      go_ret
      have hs4 := HS4.out
      rw [World.size_alloc, HSZ.out] at hs4
      have hfr := fun b (hb : w.heap.size ≤ b) => HT.out.fresh hb
      have hM : Mod [n.b, w.heap.size] w w4 := (((HMO.out.mono (G := [n.b, w.heap.size]) (fun x hx => .inl (List.mem_cons.2 (.inl (List.mem_singleton.1 hx))))).alloc _).grown HG4.out (fun k hk => by cases hk; exact .inr (Nat.le_refl _)))
      refine grown_end HT.out HNN.out HS.out hp (own1 := give own w.heap.size (p, 2)) (mb := w.heap.size) (nb := w.heap.size + 1) (give_longer (hfr _ (Nat.le_refl _)) (Nat.le_refl _)) (fun b t e => ?_) (give_same _ _ _) ?_ (by omega) (by omega) hM (.inr (Nat.le_refl _)) HW4.out ?_ ?_
      · by_cases e2 : b = w.heap.size
        · omega
        · rw [give_other e2] at e
          exact Nat.lt_of_lt_of_le (HT.out.lt b t e) (by omega)
      · rw [give_other (by omega)]
        exact hfr _ (by omega)
      · rw [HK0.out]
        exact HM4.out
      · have h1 := Whole.new ((w.setCell ⟨n.b, 1, none⟩ (.map (some w.heap.size))).alloc (.map #[] 0)) 49 #[.slice none 0 0, .map none]
        rw [HSZ.out] at h1
        exact (HG4.out.block (w.heap.size + 1) h1.lt (fun e => by have := Option.some.inj e; omega)).trans h1
end Go.Proofs.YtpfljooceppcbaaDoor
