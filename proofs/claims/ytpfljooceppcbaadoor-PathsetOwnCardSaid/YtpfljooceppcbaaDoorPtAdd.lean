/- A number put at the end of a way. -/
import Derived.Test.YtpfljooceppcbaaDoorPtGrow
namespace Go.Proofs.YtpfljooceppcbaaDoor
open Go.RowKit
open SE (Ent)
open PM (str)
open PT (blk ids set cut kidPairs lies Agrees segs)
set_option linter.unusedVariables false
set_option maxRecDepth 100000
section
variable {w w' : World} {T : Tr} {own own' : Owner} {p : Way} {n : Nd}
theorem set_blk {n' : Nd} (hn : T p = some n) (hb : n'.b = n.b) (q : Way) : blk (set T p n') q = blk T q := by
  by_cases e : q = p
  · subst e
    rw [PT.blk_some (PT.set_same T q n'), PT.blk_some hn, hb]
  · unfold PT.blk
    rw [PT.set_other e]
theorem set_some {n' : Nd} (hn : T p = some n) (q : Way) : (set T p n' q).isSome = (T q).isSome := by
  by_cases e : q = p
  · subst e
    rw [PT.set_same, hn]; rfl
  · rw [PT.set_other e]
/-- A branch's numbers are others now. -/
theorem TreeAt.reids {G : List Nat} {A' : Option Addr} {c' : Nat} {ids' : List Int} (hT : TreeAt w T own) (hn : T p = some n) (hL : Longer w own own') (hlt : ∀ b t, own' b = some t → b < w'.heap.size) (hM : Mod G w w') (hG : ∀ b ∈ G, ∀ q k, own b = some (q, k) → q = p ∧ k ≠ 2)
    (hc : Whole w' n.b 49 #[.slice A' ids'.length c', .map n.m]) (hr : w'.ownsRow 0 3 1 (.slice A' ids'.length c') ids'.length (i64s ids')) (h1 : ∀ ad, A' = some ad → own' ad.block = some (p, 1)) :
    TreeAt w' (set T p ⟨n.b, A', c', ids', n.m, n.kids⟩) own' := by
  have hN := hT.node p n hn
  have hS := fun q => set_some (n' := ⟨n.b, A', c', ids', n.m, n.kids⟩) hn q
  have hB := fun q => set_blk (n' := ⟨n.b, A', c', ids', n.m, n.kids⟩) hn rfl q
  refine ⟨by rw [hS]; exact hT.root, fun q r h => ?_, fun q h => ?_, fun q m hq => ?_, hlt⟩
  · rw [hS] at h ⊢
    exact hT.up q r h
  · rw [hS] at h
    exact hT.deep q h
  · by_cases e : q = p
    · subst e
      rw [PT.set_same] at hq
      cases hq
      refine ⟨hc, hr, hN.bare, fun mb e => ?_, hN.nodup, fun s => ?_, hL.old _ _ hN.own0, h1, fun mb e => hL.old _ _ (hN.own2 mb e)⟩
      · show MapAt w' mb .string (kidPairs _ q n.kids)
        rw [PT.kidPairs_congr fun s _ => hB (q ++ [s])]
        refine (hN.kidsAt mb e).mod hM fun hg => ?_
        exact (hG mb hg q 2 (hN.own2 mb e)).2 rfl
      · rw [hS]
        exact hN.kids s
    · rw [PT.set_other e] at hq
      exact (hT.node q m hq).keep hM (fun b hb k e2 => e (hG b hb q k e2).1) hL.old (fun s _ => hB _) (fun s => hS _)
end
/-- The owned blocks. -/
def owned (w : World) (own : Owner) : List Nat := (List.range w.heap.size).filter fun b => (own b).isSome
theorem Of_owned {w : World} {T : Tr} {own : Owner} (hT : TreeAt w T own) : Of own (owned w own) := fun b t e => List.mem_filter.2 ⟨List.mem_range.2 (hT.lt b t e), by rw [e]; rfl⟩
theorem owned_mem {w : World} {own : Owner} {b : Nat} (h : b ∈ owned w own) : ∃ t, own b = some t := Option.isSome_iff_exists.1 (List.mem_filter.1 h).2
/-- What has been turned so far is owned. -/
def Turned (w : World) (own : Owner) (w' : World) : Prop := ∀ F, Of own F → Mod F w w'
theorem Turned.refl (w : World) (own : Owner) : Turned w own w := fun F _ => Mod.refl F w
theorem Turned.trans {w w1 w2 : World} {T1 : Tr} {own own1 : Owner} (h : Turned w own w1) (k : Turned w1 own1 w2) (hL : Longer w own own1) (h1 : TreeAt w1 T1 own1) : Turned w own w2 := fun F hF =>
  (h F hF).trans (k _ (Of_owned h1)) fun x hx => by
    obtain ⟨t, ht⟩ := owned_mem hx
    rcases hL.new x t ht with e | e
    · exact .inl (hF x t e)
    · exact .inr e
theorem Turned.size {w w' : World} {own : Owner} {T : Tr} (h : Turned w own w') (hT : TreeAt w T own) : w.heap.size ≤ w'.heap.size := (h _ (Of_owned hT)).size
theorem Turned.block {w w' : World} {own : Owner} {T : Tr} (h : Turned w own w') (hT : TreeAt w T own) {b : Nat} (hb : b < w.heap.size) (hn : own b = none) : w'.heap[b]? = w.heap[b]? :=
  (h _ (Of_owned hT)).block b hb fun hm => by
    obtain ⟨t, ht⟩ := owned_mem hm
    rw [hn] at ht; cases ht
/-- One number put behind a row. -/
theorem app_id {w : World} {ops : Array Oper} {rest : List Oper} {o : Oper} {a : Act} {Q : Exit → Act → World → Prop} (hgd : o.guard = none) (s x : Operand)
    (ho : o.op = .call { callee := .builtin .append, args := #[s, x], argTypes := #[36, 36] })
    (v : Value) (pre : List Int) (hR : RowI 0 w pre v) (hs : a.eval s = v) (k : Int) (hx : a.eval x = .slice (some ⟨w.heap.size, 0, none⟩) 1 1) (hl : (pre.length + 1) * 8 ≤ 140737488355328)
    (h : ∀ A' c' w2, RowI 0 w2 (pre ++ [k]) (.slice A' (pre ++ [k]).length c') → (w.alloc (.cells #[.int .i64 k] 3)).grownBy w2 v.ownBlock → (∀ ad, A' = some ad → v.ownBlock = some ad.block ∨ ad.block = w.heap.size + 1) → (∀ ad, A' = some ad → ad.block < w2.heap.size) →
      wpList Tryd.prog ops Q rest (a.put o.dst (.slice A' (pre ++ [k]).length c')) w2) : wpList Tryd.prog ops Q (o :: rest) a (w.alloc (.cells #[.int .i64 k] 3)) := by
  obtain ⟨i0, hi, hz0, hz1, hz2⟩ := info_parts info_int'
  refine wpList_append_own_at _ hgd s x 36 ho 0 3 i0 (.int .i64 0) 1 8 Tryd.underlying36 hi hz0 hz1 hz2 rfl (by decide) v pre.length (i64s pre) hs (hR.alloc _) ⟨w.heap.size, 0, none⟩ 1 1 [.int .i64 k] hx rfl
    (World.news_of_block (cs := #[.int .i64 k]) (t := 3) (fr := (0, 0)) (heap_alloc_new w _)) (one_i64 (l := [k])) (by unfold maxLen; omega) (by omega) (Nat.zero_le _) ?_
  intro v' w2 hown hgrow _ hob
  have hlen : (pre ++ [k]).length = pre.length + 1 := by simp
  have hr : RowI 0 w2 (pre ++ [k]) v' := by
    unfold RowI
    rw [hlen, i64s_append]
    exact hown
  obtain ⟨A', c', rfl, _, _⟩ := own_shape hr
  refine h A' c' w2 hr hgrow (fun ad e => ?_) (fun ad e => ?_)
  · subst e
    rcases hob with h1 | h1
    · exact .inl h1.symm
    · right
      rw [World.size_alloc] at h1
      simpa [Value.ownBlock] using h1
  · subst e
    exact (hr.lt ad.block rfl).2
theorem own_whole {w w2 : World} {T : Tr} {own : Owner} {p : Way} {n : Nd} {o : Obj} (hg : (w.alloc o).grownBy w2 (Value.slice n.A n.ids.length n.c).ownBlock) (hN : NodeAt w T own p n) : Whole w2 n.b 49 #[.slice n.A n.ids.length n.c, .map n.m] :=
  (hg.block n.b (hN.cells.alloc o).lt (fun e => by
    cases hA : n.A with
    | none => rw [hA] at e; cases e
    | some ad =>
      rw [hA] at e
      have e2 : n.b = ad.block := by simpa [Value.ownBlock] using e
      have h1 := hN.own1 ad hA
      rw [← e2, hN.own0] at h1
      cases h1)).trans (hN.cells.alloc o)
/-- What has come of a tree when a number was put in. -/
def Added (w : World) (T : Tr) (own : Owner) (ss : Way) (id : Int) (e : Ending) (w' : World) : Prop :=
  ∃ T' own', e = .returned (.tuple #[]) ∧ TreeAt w' T' own' ∧ Turned w own w' ∧ Longer w own own' ∧ blk T' [] = blk T [] ∧ ∀ q, ids T' q = if q = ss then ids T ss ++ [id] else ids T q
theorem add_end {w wr w2 : World} {T T1 : Tr} {own own1 : Owner} {ss : Way} {id : Int} {n : Nd} {A2 : Option Addr} {c2 : Nat} (hT : TreeAt w T own) (hT1 : TreeAt wr T1 own1) (hn : T1 ss = some n) (hN : NodeAt wr T1 own1 ss n) (hM : Turned w own wr) (hL : Longer w own own1) (hID : ∀ q, ids T1 q = ids T q) (hB : blk T1 [] = blk T [])
    (hW : Whole w2 n.b 49 #[.slice n.A n.ids.length n.c, .map n.m]) (hR : RowI 0 w2 (n.ids ++ [id]) (.slice A2 (n.ids.length + 1) c2)) (hG : (wr.alloc (.cells #[.int .i64 id] 3)).grownBy w2 (Value.slice n.A n.ids.length n.c).ownBlock)
    (hA : ∀ ad, A2 = some ad → (Value.slice n.A n.ids.length n.c).ownBlock = some ad.block ∨ ad.block = wr.heap.size + 1) (hlt2 : ∀ ad, A2 = some ad → ad.block < w2.heap.size) :
    Added w T own ss id (.returned (.tuple #[])) (w2.setCell ⟨n.b, 0, none⟩ (.slice A2 (n.ids.length + 1) c2)) := by
  have hidl : (n.ids ++ [id]).length = n.ids.length + 1 := by simp
  have hob : ∀ b, (Value.slice n.A n.ids.length n.c).ownBlock = some b → own1 b = some (ss, 1) := fun b e => by
    cases hA : n.A with
    | none => rw [hA] at e; cases e
    | some ad =>
      rw [hA] at e
      have e2 : ad.block = b := by simpa [Value.ownBlock] using e
      rw [← e2]
      exact hN.own1 ad hA
  have hsz := hG.size
  rw [World.size_alloc] at hsz
  obtain ⟨own2, hL2, hlt, h1⟩ : ∃ own2, Longer wr own1 own2 ∧ (∀ b t, own2 b = some t → b < (w2.setCell ⟨n.b, 0, none⟩ (.slice A2 (n.ids.length + 1) c2)).heap.size) ∧ ∀ ad, A2 = some ad → own2 ad.block = some (ss, 1) := by
    have hold : ∀ b t, own1 b = some t → b < (w2.setCell ⟨n.b, 0, none⟩ (.slice A2 (n.ids.length + 1) c2)).heap.size := fun b t e => by
      have := hT1.lt b t e
      rw [show (w2.setCell ⟨n.b, 0, none⟩ (.slice A2 (n.ids.length + 1) c2)).heap.size = w2.heap.size by simp]
      omega
    cases A2 with
    | none => exact ⟨own1, Longer.refl _ _, hold, fun ad e => by cases e⟩
    | some ad =>
      rcases hA ad rfl with h | h
      · exact ⟨own1, Longer.refl _ _, hold, fun ad' e => by cases e; exact hob _ h⟩
      · refine ⟨give own1 ad.block (ss, 1), give_longer (hT1.fresh (by omega)) (by omega), fun b t e => ?_, fun ad' e => by cases e; exact give_same _ _ _⟩
        by_cases e2 : b = ad.block
        · rw [show (w2.setCell ⟨n.b, 0, none⟩ (.slice (some ad) (n.ids.length + 1) c2)).heap.size = w2.heap.size by simp, e2]
          exact hlt2 ad rfl
        · rw [give_other e2] at e
          exact hold b t e
  have hne : (Value.slice A2 (n.ids.length + 1) c2).ownBlock ≠ some n.b := fun e => by
    cases A2 with
    | none => cases e
    | some ad =>
      have e2 : ad.block = n.b := by simpa [Value.ownBlock] using e
      have h3 := h1 ad rfl
      rw [e2, hL2.old _ _ hN.own0] at h3
      cases h3
  have hGM : Mod (n.b :: (Value.slice n.A n.ids.length n.c).ownBlock.toList) wr (w2.setCell ⟨n.b, 0, none⟩ (.slice A2 (n.ids.length + 1) c2)) :=
    (((Mod.refl _ wr).alloc _).grown hG (fun k hk => .inl (by rw [hk]; simp))).store (.inl (by simp)) _
  have hGt : ∀ b ∈ (n.b :: (Value.slice n.A n.ids.length n.c).ownBlock.toList), ∃ k, own1 b = some (ss, k) ∧ k ≠ 2 := fun b hb => by
    rcases List.mem_cons.1 hb with e | e
    · exact ⟨0, by rw [e]; exact hN.own0, by omega⟩
    · exact ⟨1, hob b (Option.mem_toList.1 e), by omega⟩
  have hT3 := hT1.reids (A' := A2) (c' := c2) (ids' := n.ids ++ [id]) hn hL2 hlt hGM (fun b hb q k e => by
    obtain ⟨k', e1, e2⟩ := hGt b hb
    rw [e1] at e
    cases e
    exact ⟨rfl, e2⟩) (by rw [hidl]; exact hW.store 0 _) (by
      have := own_far hR hne (q := ⟨n.b, 0, none⟩) (.slice A2 (n.ids.length + 1) c2)
      rw [hidl] at this ⊢
      exact this) h1
  refine ⟨_, own2, rfl, hT3, hM.trans (fun F hF => hGM.mono fun x hx => ?_) hL hT1, hL.trans hL2 (hM.size hT), ?_, fun q => ?_⟩
  · obtain ⟨k, e, _⟩ := hGt x hx
    exact .inl (hF x _ e)
  · exact (set_blk (n' := ⟨n.b, A2, c2, n.ids ++ [id], n.m, n.kids⟩) hn rfl []).trans hB
  · by_cases e : q = ss
    · subst e
      rw [if_pos rfl, PT.ids_some (PT.set_same _ _ _), ← hID, PT.ids_some hn]
    · rw [if_neg e, ← hID]
      unfold PT.ids
      rw [PT.set_other e]
set_option maxHeartbeats 4000000 in
theorem add_any (w : World) (T : Tr) (own : Owner) (hT : TreeAt w T own) (A : Option Addr) (c : Nat) (ss : Way) (id : Int) (hss : ss.length ≤ 4) (hst : StrsAt w A c ss) (hfree : ∀ ad, A = some ad → own ad.block = none) (hc : c ≤ 4) (hids : (ids T ss).length ≤ 64) :
    Calls Tryd.prog 20 #[.pointer (some ⟨blk T [], 0, none⟩), .slice A ss.length c, .int .i64 id] w (Added w T own ss id) := by
  have HT := Lib.hid hT; have HST := Lib.hid hst; have HF := Lib.hid hfree; have HI := Lib.hid hids
  have hsc := hst.1
  clear hT hst hfree hids
  go_enter Tryd.func20, Tryd.ntmps20
  go_wp2_with fail
  go_loopw [0, 7, 10] (fun v0 _ v10 wr => ∃ (k : Nat) (T1 : Tr) (own1 : Owner) (n : Nd), v10 = .int .i64 (k : Int) ∧ k ≤ ss.length ∧ v0 = .pointer (some ⟨n.b, 0, none⟩) ∧ Hid (T1 (ss.take k) = some n) ∧ Hid (TreeAt wr T1 own1) ∧ Hid (Turned w own wr) ∧ Hid (Longer w own own1) ∧ Hid (∀ q, ids T1 q = ids T q) ∧ Hid (blk T1 [] = blk T []))
    (fun _ _ v10 _ => ss.length - (intOf v10).toNat)
  case atStart =>
    obtain ⟨n, hn⟩ := Option.isSome_iff_exists.1 HT.out.root
    exact ⟨0, T, own, n, rfl, Nat.zero_le _, by rw [PT.blk_some hn], Lib.hid (by rw [List.take_zero]; exact hn), HT, Lib.hid (Turned.refl w own), Lib.hid (Longer.refl w own), Lib.hid (fun _ => rfl), Lib.hid rfl⟩
  case round =>
    obtain ⟨k, T1, own1, n, rfl, hk, rfl, HN, HT1, HM, HL, HID, HBL⟩ := hrel
    by_cases hlt : k < ss.length
    · obtain ⟨b, o, eA, hb, hca⟩ := HST.out.2 (by omega)
      subst eA
      have hcell : wr.cell? ⟨b, o + k, none⟩ = some (str ss[k]) := (World.cell?_of_block (w := w) (a := ⟨b, o + k, none⟩) (HM.out.block HT.out hb (HF.out ⟨b, o, none⟩ rfl))).trans (hca k ss[k] (List.getElem?_eq_getElem hlt))
      have HG := Lib.hid (grow_any wr T1 own1 HT1.out (ss.take k) n HN.out (by rw [List.length_take]; omega) ss[k])
      have HTK := Lib.hid (below_take hlt)
      have HID1 := Lib.hid (fun (T2 : Tr) (h : ∀ q, ids T2 q = ids T1 q) (q : Way) => (h q).trans (HID.out q))
      clear hca
      generalize ss[k] = s at hcell HG HTK
      unfold PM.str at hcell HG
      have HLT := Lib.hid hlt
      go_wp2_with fail
      refine HG.out.mono ?_
      rintro e w2 ⟨T2, own2, n2, rfl, k1, k2, k3, k4, k5, k6⟩
      have HT2 := Lib.hid k2
      have HN2 := Lib.hid k1
      have HM2 := Lib.hid (show Turned w own w2 from HM.out.trans k3 HL.out HT1.out)
      have HL2 := Lib.hid (show Longer w own own2 from HL.out.trans k4 (HM.out.size HT.out))
      have HID2 := Lib.hid (HID1.out T2 k5)
      have HB2 := Lib.hid (show blk T2 [] = blk T [] from ((k6 [] HT1.out.root).2).trans HBL.out)
      clear k1 k2 k3 k4 k5 k6
      go_wp2_with fail
      go_roundw
      case rel =>
        exact ⟨k + 1, T2, own2, n2, rfl, by have := HLT.out; omega, rfl, Lib.hid (by rw [HTK.out]; exact HN2.out), HT2, HM2, HL2, HID2, HB2⟩
      case measure => simp only [intOf]; omega
    · have hkl : k = ss.length := by omega
      subst hkl
      have hN := HT1.out.node _ n HN.out
      have c0 := hN.cell0
      have f0 : wr.frozen? ⟨n.b, 0, none⟩ = false := hN.cells.frozen 0
      have HR := Lib.hid (show RowI 0 wr n.ids (.slice n.A n.ids.length n.c) from hN.row)
      have hil : n.ids.length ≤ 64 := by
        have h1 := HI.out
        rw [← HID.out ss] at h1
        have h2 := HN.out
        rw [List.take_length] at h2
        rwa [PT.ids_some h2] at h1
      have HNA := Lib.hid hN
      have hblt := hN.cells.lt
      clear hN
      go_wp2_with (at_builtin; refine app_id rfl (.tmp 22) (.tmp 24) rfl _ _ HR.out rfl id rfl (by omega) ?_; intro A2 c2 w2 hr2 hg2 ha2 hlt2; have HR2 := Lib.hid hr2; have HG2 := Lib.hid hg2; have HA2 := Lib.hid ha2; have HLT2 := Lib.hid hlt2; clear hr2 hg2 ha2 hlt2; have hw2 : Whole w2 n.b 49 #[.slice n.A n.ids.length n.c, .map n.m] := own_whole HG2.out HNA.out; have c02 : w2.cell? ⟨n.b, 0, none⟩ = some (.slice n.A n.ids.length n.c) := hw2.cell 0; have f02 := hw2.frozen 0; have HW2 := Lib.hid hw2; clear hw2)
      go_end0
      have hn := HN.out
      rw [List.take_length] at hn
      have hN := HNA.out
      rw [List.take_length] at hN
      have hidl : (n.ids ++ [id]).length = n.ids.length + 1 := by simp
      refine add_end HT.out HT1.out hn hN HM.out HL.out HID.out HBL.out HW2.out ?_ HG2.out HA2.out HLT2.out
      have := HR2.out
      unfold RowI at this
      rw [hidl] at this
      unfold RowI
      rw [hidl]
      exact this
end Go.Proofs.YtpfljooceppcbaaDoor
