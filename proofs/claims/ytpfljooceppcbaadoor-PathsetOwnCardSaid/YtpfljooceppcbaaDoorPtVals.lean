/- The library's walk over a map's entries as the package's List uses it: the iterator over a map of entries, and what is collected from it. -/
import Derived.Test.YtpfljooceppcbaaDoorPtSet
import Derived.Shelf.SlIter.Collect
import Derived.RangeFuncNested
import Derived.RangeFuncBox
import Derived.RangeFuncBound
import Derived.Maps.OwnIn
namespace Go.Proofs.YtpfljooceppcbaaDoor
open Go.RowKit
open SE (Ent)
open Go.MapKept Go.ChangeMaps
set_option linter.unusedVariables false
set_option maxRecDepth 100000
theorem MapAt.walks {w w' : World} {b : Nat} {d : TypeDesc} {l : List (Value × Value)} (h : MapAt w b d l) (hk : KeepsWalks w w') : MapAt w' b d l := by
  have h0 := h
  obtain ⟨es, clock, hb, _⟩ := h
  exact h0.of_block ((hk.same b _ hb rfl).trans hb.symm)
theorem Strolls.walks {w w' : World} {b r : Nat} {d : TypeDesc} {l done : List (Value × Value)} (h : Strolls w b r d l done) (hk : KeepsWalks w w') : Strolls w' b r d l done := by
  have h0 := h
  obtain ⟨es, clock, since, c0, seen, hb, _, _, _, _, hr, _⟩ := h
  exact h0.keep ((hk.same b _ hb rfl).trans hb.symm) ((hk.same r _ hr rfl).trans hr.symm)
theorem Strolls.left_walks {w w' : World} {b r : Nat} {d : TypeDesc} {l done : List (Value × Value)} (h : Strolls w b r d l done) (hk : KeepsWalks w w') : w'.rangeLeft b r = w.rangeLeft b r := by
  obtain ⟨es, clock, since, c0, seen, hb, _, _, _, _, hr, _⟩ := h
  simp only [World.rangeLeft, hk.same b _ hb rfl, hk.same r _ hr rfl, hb, hr]
theorem Strolls.iter {w : World} {b r : Nat} {d : TypeDesc} {l done : List (Value × Value)} (h : Strolls w b r d l done) : ∃ o : Obj, w.heap[r]? = some o ∧ o.isWalk = true := by
  obtain ⟨es, clock, since, c0, seen, _, _, _, _, _, hr, _⟩ := h
  exact ⟨_, hr, rfl⟩
/-! ### The pairs of entries -/
def entOf : Value × Value → Ent
  | (_, .agg #[.int _ i, .string p, .int _ m, .int _ u]) => ⟨i, p, m, u⟩
  | _ => noEnt
theorem entOf_pairs (l : List Ent) : (entPairs l).map entOf = l := by
  unfold entPairs
  rw [List.map_map]
  exact (List.map_congr_left (fun e _ => rfl)).trans (List.map_id l)
theorem entPairs_perm {a b : List Ent} (h : (entPairs a).Perm (entPairs b)) : a.Perm b := by
  have := h.map entOf
  rwa [entOf_pairs, entOf_pairs] at this
theorem entPairs_snoc (a : List Ent) (e : Ent) : entPairs (a ++ [e]) = entPairs a ++ [(.int .i64 e.id, agg e)] := by unfold entPairs; rw [List.map_append]; rfl
theorem entPairs_len (a : List Ent) : (entPairs a).length = a.length := by unfold entPairs; rw [List.length_map]
/-! ### Operations on maps inside a fence -/
section
variable {F : Fence} {n : Nat} {P : Program} {w : World} {ops : Array Oper} {rest : List Oper} {o : Oper} {a : Act} {Q : Exit → Act → World → Prop}
theorem wpi_range (hg : o.guard = none) (m : Operand) (t : TypeId) (hop : o.op = Op.range t m) (mv v : Value) (hm : a.eval m = mv) {w' : World} (hrun : (Instr.range t mv).run P w = .ok v w')
    (hK : wpListIn F n P ops Q rest (a.put o.dst v) w') : wpListIn F n P ops Q (o :: rest) a w := by
  refine wpListIn_plain hg fun K' hK' => ?_
  unfold Oper.wpIn
  refine ⟨by simp [Oper.about, hop], ?_⟩
  rw [Oper.semAt_plain F _ _ (by rw [hop]; intro c hc'; cases hc')]
  simp [execOp, hop, hm, hrun, Result.andThen]
  exact hK' _ _ hK
theorem wpi_next (hg : o.guard = none) (it : Operand) (hop : o.op = Op.next it false) (mv v : Value) (hm : a.eval it = mv) {w' : World} (hrun : (Instr.next mv false o.type).run P w = .ok v w')
    (hK : wpListIn F n P ops Q rest (a.put o.dst v) w') : wpListIn F n P ops Q (o :: rest) a w := by
  refine wpListIn_plain hg fun K' hK' => ?_
  unfold Oper.wpIn
  refine ⟨by simp [Oper.about, hop], ?_⟩
  rw [Oper.semAt_plain F _ _ (by rw [hop]; intro c hc'; cases hc')]
  simp [execOp, hop, hm, hrun, Result.andThen]
  exact hK' _ _ hK
end
/-! ### The iterator -/
theorem MapAt.walk {P : Program} {w : World} {b : Nat} {d : TypeDesc} {l : List (Value × Value)} {t k e : TypeId} (h : MapAt w b d l) (ht : P.underlying t = some (.map k e)) :
    ∃ w', (Instr.range t (.map (some b))).run P w = .ok (.pointer (some ⟨w.heap.size, 0, none⟩)) w' ∧ Strolls w' b w.heap.size d l [] ∧ w.grownBy w' none ∧ w'.heap.size = w.heap.size + 1 := by
  have hlt := h.lt
  obtain ⟨es, clock, hb, he, h1, h2, h3⟩ := h
  refine ⟨_, run_range_map w t k e b es clock ht hb, ⟨es, clock, clock, clock, #[], ((MapKept.heap_alloc w _).2 b hlt).trans hb, he, h1, h2, h3, (MapKept.heap_alloc w _).1, h1, Nat.le_refl _, Nat.le_refl _, [], by simp, by simp, rfl, by simp⟩, World.grownBy_alloc _ _ none, by simp⟩
theorem ent_zero (w : World) : (zeroValue 25).run Tryd.prog w = .ok (agg noEnt) w := Tryd.zeroValue25 w
set_option maxHeartbeats 2000000 in
theorem vals1_in (n : Nat) (hn : 1 ≤ n) (l Bm b : Nat) (D : List Ent) (J Jx : List Ent → World → Prop)
    (hY : ∀ pre x W, J pre W → pre.length < D.length → YieldAt Fence.wide (n - 1) Tryd.prog l #[agg x] W fun e W' => (e = .returned (.bool true) ∧ J (pre ++ [x]) W' ∧ KeepsWalks W W') ∨ (e = .returned (.bool false) ∧ Jx (pre ++ [x]) W'))
    (W : World) (hJ : AbidesFrom W.heap.size J) (hm : W.cell? ⟨Bm, 0, none⟩ = some (.map (some b))) (hown : MapAt W b (.int .i64) (entPairs D)) (h0 : J [] W) :
    CallsIn Fence.wide n Tryd.prog 42 #[.func (.yield l) #[] #[], .pointer (some ⟨Bm, 0, none⟩)] W fun e W' => (∃ v, e = .returned v) ∧ ((∃ xs, xs.Perm D ∧ J xs W') ∨ (∃ pre, True ∧ Jx pre W')) := by
  obtain ⟨w0, hrun, hst, hb0, hs0⟩ := hown.walk (P := Tryd.prog) (t := 45) Tryd.underlying45
  have HRUN := Lib.hid hrun
  have HST := Lib.hid hst
  have HJ := Lib.hid hJ
  have HJ0 := Lib.hid (hJ [] W w0 none h0 hb0 (fun r e => by cases e))
  have HY := Lib.hid hY
  clear hrun hst hJ hb0 hY h0 hown
  have hz := fun w : World => Tryd.zeroValue25 w
  refine callsIn_of_wp Tryd.func42 rfl trivial ?_ rfl
  simp only [Tryd.ntmps42, List.size_toArray, List.length_cons, List.length_nil, Nat.reduceAdd, Nat.reduceSub, Array.replicate_succ, Array.replicate_zero, List.push_toArray, List.append_toArray, List.nil_append, List.cons_append]
  gi_wp2_with (first
    | (gi_at_range; refine wpi_range rfl _ _ rfl _ _ rfl HRUN.out ?_; clear HRUN)
    | gi_in)
  go_frame
  gi_loopw [4] (fun _ wr => ∃ pre : List Ent, Hid (Strolls wr b W.heap.size (.int .i64) (entPairs D) (entPairs pre)) ∧ Hid (J pre wr))
    (fun _ wr => wr.rangeLeft b W.heap.size)
  case atStart => exact ⟨[], HST, HJ0⟩
  case round =>
    obtain ⟨pre, HS, HJs⟩ := hrel
    rcases HS.out.next (P := Tryd.prog) 0 with ⟨hall, hrun⟩ | ⟨x, v3, w4, hmem, hrun, hst4, hlt, hgr4, hs4, hen⟩
    · have HRUN := Lib.hid hrun; clear hrun
      gi_wp2_with (first
        | (gi_at_next; refine wpi_next rfl _ rfl _ _ rfl HRUN.out ?_)
        | gi_in)
      go_end0
      exact ⟨⟨_, rfl⟩, .inl ⟨pre, entPairs_perm hall, HJs.out⟩⟩
    · have HRUN := Lib.hid hrun; clear hrun
      have hme : ∃ y ∈ D, x = .int .i64 y.id ∧ v3 = agg y := by
        obtain ⟨y, hy, e1⟩ := List.mem_map.1 hmem
        injection e1 with e2 e3
        exact ⟨y, hy, e2.symm, e3.symm⟩
      obtain ⟨y, hyD, rfl, rfl⟩ := hme
      have hJ2 : J pre w4 := HJ.out _ wr w4 (some W.heap.size) HJs.out hgr4 (fun r e => by cases e; exact ⟨Nat.le_refl _, HS.out.iter⟩)
      have hlen : pre.length < D.length := by
        obtain ⟨rs, hp⟩ := hst4.rest
        have := hp.length_eq
        rw [List.length_append, List.length_append, entPairs_len, entPairs_len, List.length_singleton] at this
        omega
      have hJ3 : J pre (w4.alloc (.cells (four y).toArray 25)) := HJ.out _ w4 _ none hJ2 (World.grownBy_alloc _ _ none) (fun r e => by cases e)
      obtain ⟨fn, tmps, assign, body, hy, hR⟩ := HY.out pre y _ hJ3 hlen
      have HR := Lib.hid hR
      have HK3 := Lib.hid (KeepsWalks.alloc w4 (.cells (four y).toArray 25))
      have HST4 := Lib.hid (show Strolls w4 b W.heap.size (.int .i64) (entPairs D) (entPairs (pre ++ [y])) by rw [entPairs_snoc]; exact hst4)
      clear hR hJ2 hJ3 hst4 hmem hgr4 hs4 hyD hlen
      unfold agg at hy hen
      unfold four at hy HR HK3
      gi_wp2_with (first
        | (gi_at_next; refine wpi_next rfl _ rfl _ _ rfl HRUN.out ?_)
        | gi_in)
      refine HR.out.mono ?_
      rintro e W3 (⟨rfl, hJ3, hk3⟩ | ⟨rfl, hJx3⟩)
      · have HK := Lib.hid (HK3.out.trans hk3)
        have HJ3 := Lib.hid hJ3
        clear hk3 hJ3
        gi_wp2
        go_roundw
        case rel => exact ⟨pre ++ [y], Lib.hid (HST4.out.walks HK.out), HJ3⟩
        case measure => rw [HST4.out.left_walks HK.out]; exact hlt
      · have HJx := Lib.hid hJx3
        clear hJx3
        gi_wp2
        refine bodyPost_ret (results_none rfl _ _ _) rfl ?_
        exact ⟨⟨_, rfl⟩, .inr ⟨_, trivial, HJx.out⟩⟩
/-- The package's walk over a set's entries: all of them, in some order. -/
theorem vals_stops (n : Nat) (hn : 1 ≤ n) (Bm b : Nat) (D : List Ent) (w : World) (hBm : Bm < w.heap.size) (hm : w.cell? ⟨Bm, 0, none⟩ = some (.map (some b))) (hown : MapAt w b (.int .i64) (entPairs D)) :
    SeqStopsK Fence.wide n Tryd.prog 42 #[.pointer (some ⟨Bm, 0, none⟩)] (fun e : Ent => #[agg e]) KeepsWalks (fun xs => xs.Perm D) (fun _ => True) D.length w := fun l J Jx W hW hJ _ hY h0 =>
  vals1_in n hn l Bm b D J Jx hY W hJ ((hW.cell (p := ⟨Bm, 0, none⟩) hBm).trans hm) (hown.below hW) h0
set_option maxHeartbeats 1000000 in
theorem Values_any (mb : Option Nat) (w : World) : Calls Tryd.prog 23 #[.map mb] w fun e w' => e = .returned (.func (.func 42) #[] #[.pointer (some ⟨w.heap.size, 0, none⟩)]) ∧ w' = w.alloc (.cells #[.map mb] 45) := by
  go_enter Tryd.func23, Tryd.ntmps23
  go_wp2_with fail
  go_ret
  exact ⟨rfl, rfl⟩
theorem info_entz : ∃ (i : TypeInfo) (z : Value), Tryd.prog.info? 25 = some i ∧ i.zero = some z ∧ i.size = 4 ∧ i.bytes = 40 ∧ z.cells.size = 4 := by
  obtain ⟨i0, hi, hp⟩ := Option.map_eq_some_iff.1 info_ent
  injection hp with hz1 hz2
  obtain ⟨z, hz0⟩ : ∃ z, i0.zero = some z := by
    have : (Tryd.prog.info? 25).map (fun i => i.zero.isSome) = some true := by kernel_rfl
    rw [hi] at this
    simp only [Option.map_some, Option.some.injEq] at this
    exact Option.isSome_iff_exists.1 this
  have hzc : z.cells.size = 4 := by
    have : (Tryd.prog.info? 25).map (fun i => i.zero.map (fun z => z.cells.size)) = some (some 4) := by kernel_rfl
    rw [hi] at this
    simp only [Option.map_some, hz0, Option.some.injEq] at this
    exact this
  exact ⟨i0, z, hi, hz0, hz1, hz2, hzc⟩
/-- A block holds an entry. -/
def EntBox (W : World) (B : Nat) (e : Ent) : Prop := W.heap[B]? = some (.cells (four e).toArray 25 (0, 0))
theorem EntBox.cells {W : World} {B : Nat} {e : Ent} (h : EntBox W B e) : W.cell? ⟨B, 0, none⟩ = some (.int .i64 e.id) ∧ W.cell? ⟨B, 1, none⟩ = some (.string e.path) ∧ W.cell? ⟨B, 2, none⟩ = some (.int .i64 e.mode) ∧ W.cell? ⟨B, 3, none⟩ = some (.int .i64 e.who) := by
  unfold EntBox at h
  refine ⟨?_, ?_, ?_, ?_⟩ <;> (unfold World.cell?; rw [h]; rfl)
set_option maxHeartbeats 4000000 in
/-- What is collected: all entries of the map, in some order. -/
theorem seq_in (n : Nat) (hn : 4 ≤ n) (Bm b : Nat) (D : List Ent) (hD : D.length ≤ 64) (w : World) (hBm : Bm < w.heap.size) (hm : w.cell? ⟨Bm, 0, none⟩ = some (.map (some b))) (hown : MapAt w b (.int .i64) (entPairs D)) :
    CallsIn Fence.wide n Tryd.prog 51 #[.slice none 0 0, .func (.func 42) #[] #[.pointer (some ⟨Bm, 0, none⟩)]] w
      fun e w' => ∃ v xs, e = .returned v ∧ xs.Perm D ∧ w'.ownsRow w.heap.size 25 4 v xs.length (ents xs) ∧ Below w.heap.size w w' := by
  have h1 : 1 ≤ n := by omega
  obtain ⟨i0, z, hi, hz0, hz1, hz2, hzc⟩ := info_entz
  refine callsIn_of_wp_marks Tryd.func51 rfl trivial ?_ rfl
  simp only [Tryd.ntmps51, List.size_toArray, List.length_cons, List.length_nil, Nat.reduceAdd, Nat.reduceSub, Array.replicate_succ, Array.replicate_zero, List.push_toArray, List.append_toArray, List.nil_append, List.cons_append]
  gi_wp2
  have bS := Boxed.new w 22 (.slice none 0 0)
  have hB0 : Below w.heap.size w (w.alloc (.cells #[.slice none 0 0] 22)) := (Below.refl _ w).alloc (Nat.le_refl _) _
  refine wpIn_rangeFunc_ownH rfl h1 (gf := 42) (lb := #[.pointer (some ⟨Bm, 0, none⟩)]) rfl trivial (enters_of Tryd.func42 (by kernel_rfl) rfl)
    (vals_stops (n - 1) (by omega) Bm b D _ (by simp; omega) ((hB0.cell (p := ⟨Bm, 0, none⟩) hBm).trans hm) (hown.below hB0)) walksK_t walksK_b (Below.refl _ _) (fun _ => rfl)
    (fun pre W => (∃ v, Boxed W w.heap.size 22 v ∧ W.ownsRow w.heap.size 25 4 v pre.length (ents pre) ∧ True) ∧ Below w.heap.size w W)
    (fun _ _ _ => False)
    (OwnFrom.and (Own.from (holdsRow_own w.heap.size w.heap.size 22 25 4 (fun pre : List Ent => pre.length) (fun pre => ents pre) (fun _ _ => True)) _) (ownFrom_below (Nat.le_refl _) (by simp)))
    (fun _ _ _ _ _ hs _ _ => hs)
    ⟨⟨_, bS, World.ownsRow_nil _ _ _ _, trivial⟩, hB0⟩
    (fun x a' W => ∃ Bx, EntBox W Bx x ∧ a' = { tmps := #[.slice none 0 0, .func (.func 42) #[] #[.pointer (some ⟨Bm, 0, none⟩)], .pointer (some ⟨w.heap.size, 0, none⟩), undef, .slice none 0 0, .pointer (some ⟨Bx, 0, none⟩), .func (.func 42) #[] #[.pointer (some ⟨Bm, 0, none⟩)], agg x, undef, undef, undef, undef, undef], defers := [] })
    (fun x a' _ X Y row hs hg hr => by obtain ⟨Bx, h2, h3⟩ := hs; exact ⟨Bx, (grownBy_keeps_cells hg (fun r e => (hr r e).2) h2 rfl).trans h2, h3⟩)
    ?assign ?body ?done ?stop
  case assign =>
    rintro l pre x W K ⟨⟨v, hv, hrow, _⟩, hB⟩ hK
    have hz := fun w : World => Tryd.zeroValue25 w
    have HK := Lib.hid hK; have HV := Lib.hid hv; have HR := Lib.hid hrow; have HB := Lib.hid hB
    clear hK hv hrow hB
    unfold agg at *
    gi_wp2_with (first | gi_in | (rw [Oper.semAt_eq _ _ _ (fun c h => by cases h)]; go_simp; try go_bits))
    exact HK.out _ _ ((KeepsOthers.alloc _ _).from _) (KeepsWalks.alloc _ _) ⟨⟨v, HV.out.alloc _, HR.out.alloc _, trivial⟩, HB.out.alloc HB.out.size _⟩ ⟨W.heap.size, heap_alloc_new W _, rfl⟩
  case body =>
    rintro l pre x a' W hl hr ⟨⟨v, hv, hrow, _⟩, hB⟩ ⟨Bx, hx, rfl⟩ hlt
    have hc := hv.cell
    obtain ⟨c0, c1, c2, c3⟩ := hx.cells
    have HX := Lib.hid hx; have HV := Lib.hid hv; have HR := Lib.hid hrow; have HB := Lib.hid hB
    clear hx hv hrow hB hr
    unfold agg
    gi_wp2_with (first
      | (gi_at_builtin; refine wpListIn_append_own_at _ rfl (.tmp 8) (.tmp 10) 22 rfl w.heap.size 25 i0 z 4 40 Tryd.underlying22 hi hz0 hz1 hz2 hzc (by decide) _ _ _ rfl (HR.out.alloc _) ⟨W.heap.size, 0, none⟩ 1 1 (four x) rfl rfl (World.news_of_block (cs := (four x).toArray) (t := 25) (fr := (0, 0)) (heap_alloc_new W _)) (fun u hu => one_ent (l := [x]) u (by unfold ents; simpa using hu)) (by unfold maxLen; omega) (by omega) (by have := HB.out.size; rw [World.size_alloc]; omega) ?_; intro v' w1 hown' hgrow _ _; obtain ⟨g', cap', rfl⟩ := ownsRow_succ hown'; obtain ⟨hv1, hv2, hr2, hk2, hb2⟩ := HV.out.appended (by decide) HR.out HB.out.size (Nat.le_refl _) hown' hgrow; have hc1 := hv1.cell; have hf1 := hv1.frozen; have HV2 := Lib.hid hv2; have HR2 := Lib.hid hr2; have HK2 := Lib.hid hk2; have HB2 := Lib.hid hb2; clear hv1 hv2 hr2 hk2 hb2 hown' hgrow)
      | gi_in
      | (rw [Oper.semAt_eq _ _ _ (fun c h => by cases h)]; go_simp; try go_bits))
    exact ⟨HK2.out.from _, HK2.out.walks, ⟨⟨_, HV2.out, by rw [List.length_append, ents_append, show ents [x] = four x from List.append_nil _]; exact HR2.out, trivial⟩, HB.out.trans HB2.out⟩⟩
  case done =>
    rintro D2 ys W hD2 hp ⟨⟨v, hv, hrow, _⟩, hB⟩ hK
    have hc := hv.cell
    gi_wp2
    refine ⟨by simp, .inl ⟨_, _, rfl, run_takeDeferred hK, ?_⟩⟩
    exact ⟨_, results_tmp rfl _ _ _, v, ys, rfl, hp, ownsRow_putObj hrow _ hK rfl, hB.trans (belowK_b (w := w) (Nat.le_refl _) W D2 _ _ (by simp at hD2; omega) hK rfl rfl)⟩
  case stop =>
    rintro D2 c pre W _ _ h _
    exact h.elim
end Go.Proofs.YtpfljooceppcbaaDoor
