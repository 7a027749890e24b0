/- The numbers of all branches under one, gathered. -/
import Derived.Test.YtpfljooceppcbaaDoorPtTree
namespace Go.Proofs.YtpfljooceppcbaaDoor
open Go.RowKit
open SE (Ent)
open PM (str)
open PT (blk ids set cut kidPairs lies Agrees)
set_option linter.unusedVariables false
set_option maxRecDepth 100000
theorem info_int' : (Tryd.prog.info? 3).map (fun i => (i.zero, i.size, i.bytes)) = some (some (.int .i64 0), 1, 8) := by kernel_rfl
/-- All of a list put behind what the call itself has grown: the slice is the old one or a new one. -/
theorem run_app_more {w w1 : World} {xs ys : List Int} {v : Value} {A : Option Addr} {c : Nat} (ty : TypeId) (hG : Grew w xs v w1) (hB : IntsAt w1 A ys) (hl : (xs.length + ys.length) * 8 ≤ 140737488355328) :
    ∃ v' w2, (Builtin.append_ #[36, 36] ty #[v, .slice A ys.length c]).run Tryd.prog w1 = .ok v' w2 ∧ Grew w (xs ++ ys) v' w2 ∧ w1.grownBy w2 v.ownBlock ∧ (∀ k, v'.ownBlock = some k → v.ownBlock = some k ∨ w1.heap.size ≤ k) := by
  obtain ⟨i0, hi, hz0, hz1, hz2⟩ := info_parts info_int'
  have hsz := hG.2.size
  cases A with
  | some ad =>
    obtain ⟨v', w', hrun, h2, h3, _, h4⟩ := run_append_own_at (P := Tryd.prog) w1 w.heap.size 36 ty 3 i0 (.int .i64 0) 1 8 Tryd.underlying36 hi hz0 hz1 hz2 rfl (by decide) v xs.length (i64s xs) hG.1 ad ys.length c (i64s ys) (by rw [i64s_len, Nat.mul_one]) hB.cells one_i64 (by unfold maxLen; omega) (by omega) hsz
    refine ⟨v', w', hrun, ⟨by rw [List.length_append, i64s_append]; exact h2, hG.2.grown h3 hsz (fun k hk => (hG.1.lt k hk).1)⟩, h3, fun k hk => ?_⟩
    rcases h4 with h4 | h4
    · left; rw [← h4]; exact hk
    · right; rw [h4] at hk; cases hk; exact Nat.le_refl _
  | none =>
    have h0 : ys = [] := by
      cases ys with
      | nil => rfl
      | cons y r =>
        obtain ⟨b, o, e, _⟩ := hB (by simp)
        cases e
    subst h0
    obtain ⟨B, d, e, h1, h2⟩ := own_shape hG.1
    subst e
    refine ⟨.slice B xs.length d, w1, ?_, by rw [List.append_nil]; exact hG, ⟨rfl, rfl, rfl, Nat.le_refl _, fun _ _ _ => rfl⟩, fun k hk => .inl hk⟩
    cases B <;> simp [Builtin.append_, run_underlying Tryd.underlying36, sizeOf, typeInfo, hi, Builtin.lenOf, Builtin.firstCells, storeCells, h1]
theorem app_more {w w1 : World} {ops : Array Oper} {rest : List Oper} {o : Oper} {a : Act} {Q : Exit → Act → World → Prop} (hgd : o.guard = none) (s x : Operand)
    (ho : o.op = .call { callee := .builtin .append, args := #[s, x], argTypes := #[36, 36] })
    {xs ys : List Int} {v : Value} {A : Option Addr} {c n : Nat} (hn : n = ys.length) (hG : Grew w xs v w1) (hB : IntsAt w1 A ys) (hs : a.eval s = v) (hx : a.eval x = .slice A n c) (hl : (xs.length + ys.length) * 8 ≤ 140737488355328)
    (h : ∀ v' w2, Grew w (xs ++ ys) v' w2 → w1.grownBy w2 v.ownBlock → (∀ k, v'.ownBlock = some k → v.ownBlock = some k ∨ w1.heap.size ≤ k) → wpList Tryd.prog ops Q rest (a.put o.dst v') w2) : wpList Tryd.prog ops Q (o :: rest) a w1 := by
  subst hn
  refine wpList_plain hgd fun K hK => ?_
  obtain ⟨v', w2, hrun, h1, h2, h3⟩ := run_app_more (c := c) o.type hG hB hl
  unfold Oper.wp execOp
  simp only [ho, resolve, invoke, builtin, Sem.run_bind, Sem.run_pure, Result.andThen_ok, List.map_toArray, List.map_cons, List.map_nil, hs, hx, hrun]
  exact hK _ _ (h v' w2 h1 h2 h3)
theorem PT.kidPairs_perm {T : Tr} {p : Way} {a b : List (List UInt8)} (h : (kidPairs T p a).Perm (kidPairs T p b)) : a.Perm b := by
  have key : ∀ l : List (List UInt8), (kidPairs T p l).map (fun q => match q.1 with | .string x => x.data.toList | _ => []) = l := fun l => by
    unfold PT.kidPairs
    rw [List.map_map]
    conv => rhs; rw [← List.map_id l]
    exact List.map_congr_left fun s _ => by simp [PM.str]
  have := h.map (fun q => match q.1 with | .string x => x.data.toList | _ => ([] : List UInt8))
  rwa [key, key] at this
theorem PT.kids_rest {T : Tr} {p : Way} {ks kids : List (List UInt8)} {rest : List (Value × Value)} (h : (kidPairs T p ks ++ rest).Perm (kidPairs T p kids)) : ∃ r, (ks ++ r).Perm kids := by
  have key : ∀ l : List (List UInt8), (kidPairs T p l).map (fun q => match q.1 with | .string x => x.data.toList | _ => []) = l := fun l => by
    unfold PT.kidPairs
    rw [List.map_map]
    conv => rhs; rw [← List.map_id l]
    exact List.map_congr_left fun s _ => by simp [PM.str]
  have := h.map (fun q => match q.1 with | .string x => x.data.toList | _ => ([] : List UInt8))
  rw [List.map_append, key, key] at this
  exact ⟨_, this⟩
theorem PT.flat_less {β : Type} {f : β → List Int} {ks kids r : List β} {s : β} (h : (ks ++ [s] ++ r).Perm kids) : (ks.flatMap f).length + (f s).length ≤ (kids.flatMap f).length := by
  rw [← (h.flatMap_right f).length_eq]
  simp only [List.flatMap_append, List.length_append, List.flatMap_cons, List.flatMap_nil, List.append_nil]
  omega
theorem PT.kidPairs_snoc (T : Tr) (p : Way) (a : List (List UInt8)) (s : List UInt8) : kidPairs T p (a ++ [s]) = kidPairs T p a ++ [(str s, .pointer (some ⟨blk T (p ++ [s]), 0, none⟩))] := by
  unfold PT.kidPairs
  rw [List.map_append]; rfl
theorem Mod.grownBy {w w' : World} {v : Value} (h : Mod v.ownBlock.toList w w') : w.grownBy w' v.ownBlock :=
  ⟨h.os, h.tape, h.output, h.size, fun k hk hne => h.block k hk (fun hm => hne (Option.mem_toList.1 hm).symm)⟩
theorem StrollsO.ne_own {w : World} {m : Option Nat} {r : Nat} {d : TypeDesc} {l done : List (Value × Value)} (h : StrollsO w m r d l done) {B : Nat} {xs : List Int} {v : Value} (ho : w.ownsRow B 3 1 v xs.length (i64s xs)) : v.ownBlock ≠ some r := by
  obtain ⟨mb, s, seen, c, hr⟩ := h.iter
  rcases ho.2 with ⟨rfl, _⟩ | ⟨g, cap, cur, rfl, _, hh, _⟩
  · simp [Value.ownBlock]
  · intro e
    have e2 : g = r := by simpa [Value.ownBlock] using e
    rw [e2, hr] at hh
    cases hh
/-- What a call has put behind a slice. -/
def More (w0 w : World) (xs : List Int) (v : Value) (Y : List Int → Prop) (e : Ending) (w' : World) : Prop :=
  ∃ v' ys, e = .returned v' ∧ Y ys ∧ Grew w0 (xs ++ ys) v' w' ∧ w.grownBy w' v.ownBlock ∧ ∀ k, v'.ownBlock = some k → v.ownBlock = some k ∨ w.heap.size ≤ k
set_option maxHeartbeats 2000000 in
theorem gather_any (w0 : World) (T : Tr) (own : Owner) (L : List Ent) (hT : TreeAt w0 T own) (hA : Agrees T L) (hL : L.length ≤ 64) : ∀ (d : Nat) (p : Way) (n : Nd), 5 ≤ p.length + d → T p = some n → ∀ (xs : List Int) (v : Value) (w : World), Grew w0 xs v w → xs.length + (lies L p).length ≤ 64 →
    Calls Tryd.prog 35 #[.pointer (some ⟨n.b, 0, none⟩), v] w (More w0 w xs v (fun ys => ys.Perm (lies L p)))
  | 0, p, n, hd, hn, _, _, _, _, _ => by
    have := hT.deep p (by rw [hn]; rfl)
    omega
  | d + 1, p, n, hd, hn, xs, v, w, hG, hxs => by
    have IH := Lib.hid (fun s n' hn' => gather_any w0 T own L hT hA hL d (p ++ [s]) n' (by rw [List.length_append, List.length_singleton]; omega) hn')
    have HT := Lib.hid hT
    have HG := Lib.hid hG; clear hG
    have HN := Lib.hid (hT.node p n hn)
    have HS := Lib.hid (PT.lies_split hT hA hn)
    have hnl : n.ids.length ≤ 64 := by
      have h1 := HS.out.length_eq
      have h2 := PT.lies_len L p
      rw [List.length_append] at h1
      omega
    have c0 := (HN.out.below HG.out.2).cell0
    have HM := Lib.hid (fun W (hb : Below w0.heap.size w0 W) => (HN.out.below hb).mapO)
    have HC1 := Lib.hid (fun W (hb : Below w0.heap.size w0 W) => (HN.out.below hb).cell1)
    have HI := Lib.hid (HN.out.below HG.out.2).intsAt
    clear hT hA
    go_enter Tryd.func35, Tryd.ntmps35
    go_wp2_with (first
      | (at_builtin; refine app_more rfl (.tmp 10) (.tmp 14) rfl rfl HG.out HI.out rfl rfl (by omega) ?_; intro v2 w2 hg2 hgr2 hk2; have HG2 := Lib.hid hg2; have HGR2 := Lib.hid hgr2; have HK2 := Lib.hid hk2; clear hg2 hgr2 hk2; have c12 := HC1.out _ HG2.out.2; obtain ⟨w3, hrun, hst, hb3, hs3⟩ := (HM.out _ HG2.out.2).range (P := Tryd.prog) (t := 47) Tryd.underlying47; have HST := Lib.hid hst; have HB3 := Lib.hid hb3; have HRUN := Lib.hid hrun; clear hst hb3 hrun)
      | (at_range; refine wp_range rfl _ _ rfl _ _ rfl HRUN.out ?_; clear HRUN))
    go_frame
    go_loopw [1, 6] (fun u _ wr => ∃ ks ys, Hid (StrollsO wr n.m w2.heap.size .string (kidPairs T p n.kids) (kidPairs T p ks)) ∧ Hid (ys.Perm (n.ids ++ (ks.flatMap fun s => lies L (p ++ [s])))) ∧ Hid (Grew w0 (xs ++ ys) u wr) ∧ Hid (Mod v.ownBlock.toList w wr) ∧ Hid (∀ k, u.ownBlock = some k → v.ownBlock = some k ∨ w.heap.size ≤ k) ∧ Hid (w2.heap.size < wr.heap.size))
      (fun _ _ wr => leftO wr n.m w2.heap.size)
    case atStart =>
      refine ⟨[], n.ids, HST, Lib.hid (by rw [List.flatMap_nil, List.append_nil]), Lib.hid ⟨(Mod.of_below HB3.out []).own HG2.out.1 (by simp), below_on HG2.out.2 HB3.out⟩, Lib.hid ?_, HK2, Lib.hid (by omega)⟩
      exact ((Mod.refl _ w).grown HGR2.out (fun k hk => .inl (by rw [hk]; simp))).trans (G := []) (Mod.of_below HB3.out []) (by simp)
    case round =>
      obtain ⟨ks, ys, HSt, HP, HGr, HMo, HKo, HLt⟩ := hrel
      rcases HSt.out.next (P := Tryd.prog) 0 with ⟨hall, hrun⟩ | ⟨x, v3, w4, hmem, hrun, hst4, hlt, hgr4, hs4, hen⟩
      · have HRUN := Lib.hid hrun; clear hrun
        go_wp2_with (at_next; refine wp_next rfl _ rfl _ _ rfl HRUN.out ?_)
        go_ret
        refine ⟨u1, ys, rfl, ?_, HGr.out, Mod.grownBy HMo.out, HKo.out⟩
        refine HP.out.trans (List.Perm.trans (List.Perm.append_left _ ?_) HS.out.symm)
        exact (PT.kidPairs_perm hall).flatMap_right _
      · obtain ⟨s, hs, e1⟩ := List.mem_map.1 hmem
        injection e1 with e2 e3
        subst e2
        subst e3
        obtain ⟨n', hn'⟩ := Option.isSome_iff_exists.1 ((HN.out.kids s).1 hs)
        have hb : blk T (p ++ [s]) = n'.b := PT.blk_some hn'
        have HST4 := Lib.hid (show StrollsO w4 n.m w2.heap.size .string (kidPairs T p n.kids) (kidPairs T p (ks ++ [s])) by rw [PT.kidPairs_snoc]; exact hst4)
        rw [hb] at hrun hen
        have HRUN := Lib.hid hrun
        have hno : u1.ownBlock ≠ some w2.heap.size := HSt.out.ne_own HGr.out.1
        have hG4 : Grew w0 (xs ++ ys) u1 w4 := ⟨HGr.out.1.kept hgr4 (.inr hno), HGr.out.2.grown hgr4 HGr.out.2.size (fun k hk => by cases hk; exact Nat.le_trans HG2.out.2.size (Nat.le_refl _))⟩
        have HG4 := Lib.hid hG4
        have HM4 := Lib.hid (HMo.out.grown hgr4 (fun k hk => by cases hk; right; exact HGR2.out.size))
        clear hst4 hmem hb hrun hgr4 hG4 HST
        have HB := Lib.hid (show (xs ++ ys).length + (lies L (p ++ [s])).length ≤ 64 by
          obtain ⟨rest, hr⟩ := HST4.out.rest
          obtain ⟨r, hr⟩ := PT.kids_rest hr
          have h1 := PT.flat_less (f := fun s => lies L (p ++ [s])) hr
          have h2 := HP.out.length_eq
          have h3 := HS.out.length_eq
          rw [List.length_append] at h2 h3 ⊢
          omega)
        have HL4 := Lib.hid (show w2.heap.size < w4.heap.size by have := HLt.out; omega)
        clear hs4
        go_wp2_with (at_next; refine wp_next rfl _ rfl _ _ rfl HRUN.out ?_)
        refine (IH.out s n' hn' (xs ++ ys) u1 w4 HG4.out HB.out).mono ?_
        rintro e w5 ⟨v5, zs, rfl, hz, hg5, hgr5, hk5⟩
        have hno5 : u1.ownBlock ≠ some w2.heap.size := hno
        have hbk : ∀ b, n.m = some b → w5.heap[b]? = w4.heap[b]? := fun b hb => by
          have h1 := HN.out.mapO
          rw [hb] at h1
          have h2 := MapAt.lt h1
          have h3 := HG4.out.2.size
          refine hgr5.block b (by omega) (fun e => ?_)
          have h4 := (HG4.out.1.lt b e.symm).1
          omega
        have hrk : w5.heap[w2.heap.size]? = w4.heap[w2.heap.size]? := hgr5.block _ HL4.out (fun e => hno5 e.symm)
        have HSt5 := Lib.hid (HST4.out.keep hbk hrk)
        have HG5 := Lib.hid (show Grew w0 (xs ++ (ys ++ zs)) v5 w5 by rw [← List.append_assoc]; exact hg5)
        have HP5 := Lib.hid (show (ys ++ zs).Perm (n.ids ++ ((ks ++ [s]).flatMap fun s => lies L (p ++ [s]))) by
          rw [List.flatMap_append, ← List.append_assoc]
          exact HP.out.append (by simpa using hz))
        have HM5 := Lib.hid (show Mod v.ownBlock.toList w w5 from HM4.out.grown hgr5 (fun k hk => by
          rcases HKo.out k hk with h | h
          · left; rw [h]; simp
          · right; exact h))
        have HK5 := Lib.hid (show ∀ k, v5.ownBlock = some k → v.ownBlock = some k ∨ w.heap.size ≤ k from fun k hk => by
          rcases hk5 k hk with h | h
          · exact HKo.out k h
          · right; exact Nat.le_trans HM4.out.size h)
        have HL5 := Lib.hid (Nat.lt_of_lt_of_le HL4.out hgr5.size)
        have HLE := Lib.hid (show leftO w5 n.m w2.heap.size < leftO wr n.m w2.heap.size by
          rw [leftO_keep hbk hrk]
          exact hlt)
        clear hbk hrk
        clear hg5 hgr5 hk5 hz hno5 hno hen hlt
        go_wp2_with fail
        go_roundw
        case rel => exact ⟨ks ++ [s], ys ++ zs, HSt5, HP5, HG5, HM5, HK5, HL5⟩
        case measure => exact HLE.out
end Go.Proofs.YtpfljooceppcbaaDoor
