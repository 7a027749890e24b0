/- Texts that belong together: CaVals, CaList. -/
import Derived.Test.YtnacchldecjcaaaCaLow
import Derived.Shelf.SlIter.Collect
import Derived.RangeFuncNested
import Derived.RangeFuncBox
import Derived.RangeFuncBound
import Derived.Maps.OwnIn
import Derived.Test.YtnacchldecjcaaaShelf2
import Derived.StillTailTactics
import Derived.Sort.OwnSorted
namespace Go.Proofs.Ytnacchldecjcaaa
open Go.RowKit
open CA (Cl St)
open Go.MapKept Go.ChangeMaps
set_option linter.unusedVariables false
set_option maxRecDepth 100000
theorem MapAt.walks {w w' : World} {b : Nat} {d : TypeDesc} {l : List (Value × Value)} (h : MapAt w b d l) (hk : KeepsWalks w w') : MapAt w' b d l := by
  have h0 := h
  obtain ⟨es, clock, hb, _⟩ := h
  exact h0.of_block ((hk.same b _ hb rfl).trans hb.symm)
theorem Strolls.walks {w w' : World} {b r : Nat} {d : TypeDesc} {l done : List (Value × Value)} (h : Strolls w b r d l done) (hk : KeepsWalks w w') : Strolls w' b r d l done := by
  have h0 := h
  obtain ⟨es, clock, since, c0, seen, hb, _, _, _, _, hr, _⟩ := h
  exact h0.keep ((hk.same b _ hb rfl).trans hb.symm) ((hk.same r _ hr rfl).trans hr.symm)
theorem Strolls.left_walks {w w' : World} {b r : Nat} {d : TypeDesc} {l done : List (Value × Value)} (h : Strolls w b r d l done) (hk : KeepsWalks w w') : w'.rangeLeft b r = w.rangeLeft b r := by
  obtain ⟨es, clock, since, c0, seen, hb, _, _, _, _, hr, _⟩ := h
  simp only [World.rangeLeft, hk.same b _ hb rfl, hk.same r _ hr rfl, hb, hr]
theorem Strolls.iter {w : World} {b r : Nat} {d : TypeDesc} {l done : List (Value × Value)} (h : Strolls w b r d l done) : ∃ o : Obj, w.heap[r]? = some o ∧ o.isWalk = true := by
  obtain ⟨es, clock, since, c0, seen, _, _, _, _, _, hr, _⟩ := h
  exact ⟨_, hr, rfl⟩
/-! ### Calls as a row -/
def flatC (l : List Cl) : List Value := l.flatMap c10
theorem flatC_len (l : List Cl) : (flatC l).length = l.length * 10 := by
  unfold flatC
  induction l with
  | nil => rfl
  | cons e r ih =>
    rw [List.flatMap_cons, List.length_append, ih, List.length_cons]
    show 10 + _ = _
    omega
theorem flatC_append (a b : List Cl) : flatC (a ++ b) = flatC a ++ flatC b := by unfold flatC; rw [List.flatMap_append]
theorem one_c10 {l : List Cl} : ∀ u ∈ flatC l, u.oneCell' = true := by
  intro u hu
  obtain ⟨e, _, h⟩ := List.mem_flatMap.1 hu
  unfold c10 at h
  simp only [List.mem_cons, List.not_mem_nil, or_false] at h
  rcases h with rfl | rfl | rfl | rfl | rfl | rfl | rfl | rfl | rfl | rfl <;> rfl
theorem flatC_at : ∀ {l : List Cl} {j : Nat} {e : Cl}, l[j]? = some e → ∀ k, k < 10 → (flatC l)[j * 10 + k]? = (c10 e)[k]?
  | [], j, e, h, _, _ => by simp at h
  | x :: r, 0, e, h, k, hk => by
    simp only [List.getElem?_cons_zero, Option.some.injEq] at h
    subst h
    have e1 : flatC (x :: r) = c10 x ++ flatC r := by unfold flatC; rw [List.flatMap_cons]
    rw [e1, Nat.zero_mul, Nat.zero_add, List.getElem?_append_left (show k < (c10 x).length from hk)]
  | x :: r, j + 1, e, h, k, hk => by
    rw [List.getElem?_cons_succ] at h
    have ih := flatC_at h k hk
    have e1 : flatC (x :: r) = c10 x ++ flatC r := by unfold flatC; rw [List.flatMap_cons]
    rw [e1, List.getElem?_append_right (show (c10 x).length ≤ (j + 1) * 10 + k by show 10 ≤ _; omega), show (j + 1) * 10 + k - (c10 x).length = j * 10 + k by show _ - 10 = _; omega]
    exact ih
theorem info_cl : (Try.prog.info? 32).map (fun i => (i.size, i.bytes)) = some (10, 88) := by kernel_rfl
/-! ### Operations on maps inside a fence -/
section
variable {F : Fence} {n : Nat} {P : Program} {w : World} {ops : Array Oper} {rest : List Oper} {o : Oper} {a : Act} {Q : Exit → Act → World → Prop}
theorem wpi_range (hg : o.guard = none) (m : Operand) (t : TypeId) (hop : o.op = Op.range t m) (mv v : Value) (hm : a.eval m = mv) {w' : World} (hrun : (Instr.range t mv).run P w = .ok v w')
    (hK : wpListIn F n P ops Q rest (a.put o.dst v) w') : wpListIn F n P ops Q (o :: rest) a w := by
  refine wpListIn_plain hg fun K' hK' => ?_
  unfold Oper.wpIn
  refine ⟨by simp [Oper.about, hop], ?_⟩
  rw [Oper.semAt_plain F _ _ (by rw [hop]; intro c hc'; cases hc')]
  simp [execOp, hop, hm, hrun, Result.andThen]
  exact hK' _ _ hK
theorem wpi_next (hg : o.guard = none) (it : Operand) (hop : o.op = Op.next it false) (mv v : Value) (hm : a.eval it = mv) {w' : World} (hrun : (Instr.next mv false o.type).run P w = .ok v w')
    (hK : wpListIn F n P ops Q rest (a.put o.dst v) w') : wpListIn F n P ops Q (o :: rest) a w := by
  refine wpListIn_plain hg fun K' hK' => ?_
  unfold Oper.wpIn
  refine ⟨by simp [Oper.about, hop], ?_⟩
  rw [Oper.semAt_plain F _ _ (by rw [hop]; intro c hc'; cases hc')]
  simp [execOp, hop, hm, hrun, Result.andThen]
  exact hK' _ _ hK
end
/-! ### The iterator -/
theorem MapAt.walk {P : Program} {w : World} {b : Nat} {d : TypeDesc} {l : List (Value × Value)} {t k e : TypeId} (h : MapAt w b d l) (ht : P.underlying t = some (.map k e)) :
    ∃ w', (Instr.range t (.map (some b))).run P w = .ok (.pointer (some ⟨w.heap.size, 0, none⟩)) w' ∧ Strolls w' b w.heap.size d l [] ∧ w.grownBy w' none ∧ w'.heap.size = w.heap.size + 1 := by
  have hlt := h.lt
  obtain ⟨es, clock, hb, he, h1, h2, h3⟩ := h
  refine ⟨_, run_range_map w t k e b es clock ht hb, ⟨es, clock, clock, clock, #[], ((MapKept.heap_alloc w _).2 b hlt).trans hb, he, h1, h2, h3, (MapKept.heap_alloc w _).1, h1, Nat.le_refl _, Nat.le_refl _, [], by simp, by simp, rfl, by simp⟩, World.grownBy_alloc _ _ none, by simp⟩
theorem cl_zero (w : World) : (zeroValue 32).run Try.prog w = .ok (aggC CA.zero) w := Try.zeroValue32 w
set_option maxHeartbeats 2000000 in
theorem vals1_in (n : Nat) (hn : 1 ≤ n) (l Bm b : Nat) (D : List Cl) (J Jx : List Cl → World → Prop)
    (hY : ∀ pre x W, J pre W → pre.length < D.length → YieldAt Fence.wide (n - 1) Try.prog l #[aggC x] W fun e W' => (e = .returned (.bool true) ∧ J (pre ++ [x]) W' ∧ KeepsWalks W W') ∨ (e = .returned (.bool false) ∧ Jx (pre ++ [x]) W'))
    (W : World) (hJ : AbidesFrom W.heap.size J) (hm : W.cell? ⟨Bm, 0, none⟩ = some (.map (some b))) (hown : MapAt W b (.int .i64) (pairsC D)) (h0 : J [] W) :
    CallsIn Fence.wide n Try.prog 31 #[.func (.yield l) #[] #[], .pointer (some ⟨Bm, 0, none⟩)] W fun e W' => (∃ v, e = .returned v) ∧ ((∃ xs, xs.Perm D ∧ J xs W') ∨ (∃ pre, True ∧ Jx pre W')) := by
  obtain ⟨w0, hrun, hst, hb0, hs0⟩ := hown.walk (P := Try.prog) (t := 52) Try.underlying52
  have HRUN := Lib.hid hrun
  have HST := Lib.hid hst
  have HJ := Lib.hid hJ
  have HJ0 := Lib.hid (hJ [] W w0 none h0 hb0 (fun r e => by cases e))
  have HY := Lib.hid hY
  clear hrun hst hJ hb0 hY h0 hown
  have hz := fun w : World => Try.zeroValue32 w
  refine callsIn_of_wp Try.func31 rfl trivial ?_ rfl
  simp only [Try.ntmps31, List.size_toArray, List.length_cons, List.length_nil, Nat.reduceAdd, Nat.reduceSub, Array.replicate_succ, Array.replicate_zero, List.push_toArray, List.append_toArray, List.nil_append, List.cons_append]
  gi_wp2_with (first
    | (gi_at_range; refine wpi_range rfl _ _ rfl _ _ rfl HRUN.out ?_; clear HRUN)
    | gi_in)
  go_frame
  gi_loopw [4] (fun _ wr => ∃ pre : List Cl, Hid (Strolls wr b W.heap.size (.int .i64) (pairsC D) (pairsC pre)) ∧ Hid (J pre wr))
    (fun _ wr => wr.rangeLeft b W.heap.size)
  case atStart => exact ⟨[], HST, HJ0⟩
  case round =>
    obtain ⟨pre, HS, HJs⟩ := hrel
    rcases HS.out.next (P := Try.prog) 0 with ⟨hall, hrun⟩ | ⟨x, v3, w4, hmem, hrun, hst4, hlt, hgr4, hs4, hen⟩
    · have HRUN := Lib.hid hrun; clear hrun
      gi_wp2_with (first
        | (gi_at_next; refine wpi_next rfl _ rfl _ _ rfl HRUN.out ?_)
        | gi_in)
      go_end0
      exact ⟨⟨_, rfl⟩, .inl ⟨pre, pairsC_perm hall, HJs.out⟩⟩
    · have HRUN := Lib.hid hrun; clear hrun
      have hme : ∃ y ∈ D, x = .int .i64 y.seq ∧ v3 = aggC y := by
        obtain ⟨y, hy, e1⟩ := List.mem_map.1 hmem
        injection e1 with e2 e3
        exact ⟨y, hy, e2.symm, e3.symm⟩
      obtain ⟨y, hyD, rfl, rfl⟩ := hme
      have hJ2 : J pre w4 := HJ.out _ wr w4 (some W.heap.size) HJs.out hgr4 (fun r e => by cases e; exact ⟨Nat.le_refl _, HS.out.iter⟩)
      have hlen : pre.length < D.length := by
        obtain ⟨rs, hp⟩ := hst4.rest
        have := hp.length_eq
        rw [List.length_append, List.length_append, pairsC_len, pairsC_len, List.length_singleton] at this
        omega
      have hJ3 : J pre (w4.alloc (.cells (c10 y).toArray 32)) := HJ.out _ w4 _ none hJ2 (World.grownBy_alloc _ _ none) (fun r e => by cases e)
      obtain ⟨fn, tmps, assign, body, hy, hR⟩ := HY.out pre y _ hJ3 hlen
      have HR := Lib.hid hR
      have HK3 := Lib.hid (KeepsWalks.alloc w4 (.cells (c10 y).toArray 32))
      have HST4 := Lib.hid (show Strolls w4 b W.heap.size (.int .i64) (pairsC D) (pairsC (pre ++ [y])) by rw [pairsC_snoc]; exact hst4)
      clear hR hJ2 hJ3 hst4 hmem hgr4 hs4 hyD hlen
      unfold aggC ten at hy hen
      unfold c10 at hy HR HK3
      gi_wp2_with (first
        | (gi_at_next; refine wpi_next rfl _ rfl _ _ rfl HRUN.out ?_)
        | gi_in)
      refine HR.out.mono ?_
      rintro e W3 (⟨rfl, hJ3, hk3⟩ | ⟨rfl, hJx3⟩)
      · have HK := Lib.hid (HK3.out.trans hk3)
        have HJ3 := Lib.hid hJ3
        clear hk3 hJ3
        gi_wp2
        go_roundw
        case rel => exact ⟨pre ++ [y], Lib.hid (HST4.out.walks HK.out), HJ3⟩
        case measure => rw [HST4.out.left_walks HK.out]; exact hlt
      · have HJx := Lib.hid hJx3
        clear hJx3
        gi_wp2
        refine bodyPost_ret (results_none rfl _ _ _) rfl ?_
        exact ⟨⟨_, rfl⟩, .inr ⟨_, trivial, HJx.out⟩⟩
/-- The package's walk over a set's entries: all of them, in some order. -/
theorem vals_stops (n : Nat) (hn : 1 ≤ n) (Bm b : Nat) (D : List Cl) (w : World) (hBm : Bm < w.heap.size) (hm : w.cell? ⟨Bm, 0, none⟩ = some (.map (some b))) (hown : MapAt w b (.int .i64) (pairsC D)) :
    SeqStopsK Fence.wide n Try.prog 31 #[.pointer (some ⟨Bm, 0, none⟩)] (fun e : Cl => #[aggC e]) KeepsWalks (fun xs => xs.Perm D) (fun _ => True) D.length w := fun l J Jx W hW hJ _ hY h0 =>
  vals1_in n hn l Bm b D J Jx hY W hJ ((hW.cell (p := ⟨Bm, 0, none⟩) hBm).trans hm) (hown.below hW) h0
set_option maxHeartbeats 1000000 in
theorem Values_any (mb : Option Nat) (w : World) : Calls Try.prog 21 #[.map mb] w fun e w' => e = .returned (.func (.func 31) #[] #[.pointer (some ⟨w.heap.size, 0, none⟩)]) ∧ w' = w.alloc (.cells #[.map mb] 52) := by
  go_enter Try.func21, Try.ntmps21
  go_wp2_with fail
  go_ret
  exact ⟨rfl, rfl⟩
theorem info_clz : ∃ (i : TypeInfo) (z : Value), Try.prog.info? 32 = some i ∧ i.zero = some z ∧ i.size = 10 ∧ i.bytes = 88 ∧ z.cells.size = 10 := by
  obtain ⟨i0, hi, hp⟩ := Option.map_eq_some_iff.1 info_cl
  injection hp with hz1 hz2
  obtain ⟨z, hz0⟩ : ∃ z, i0.zero = some z := by
    have : (Try.prog.info? 32).map (fun i => i.zero.isSome) = some true := by kernel_rfl
    rw [hi] at this
    simp only [Option.map_some, Option.some.injEq] at this
    exact Option.isSome_iff_exists.1 this
  have hzc : z.cells.size = 10 := by
    have : (Try.prog.info? 32).map (fun i => i.zero.map (fun z => z.cells.size)) = some (some 10) := by kernel_rfl
    rw [hi] at this
    simp only [Option.map_some, hz0, Option.some.injEq] at this
    exact this
  exact ⟨i0, z, hi, hz0, hz1, hz2, hzc⟩
/-- A block holds an entry. -/
def ClBox (W : World) (B : Nat) (e : Cl) : Prop := W.heap[B]? = some (.cells (c10 e).toArray 32 (0, 0))
theorem ClBox.blk {W : World} {B : Nat} {e : Cl} (h : ClBox W B e) : ClBlk W B e := h
set_option maxHeartbeats 4000000 in
/-- What is collected: all entries of the map, in some order. -/
theorem seq_in (n : Nat) (hn : 4 ≤ n) (Bm b : Nat) (D : List Cl) (hD : D.length ≤ 64) (w : World) (hBm : Bm < w.heap.size) (hm : w.cell? ⟨Bm, 0, none⟩ = some (.map (some b))) (hown : MapAt w b (.int .i64) (pairsC D)) :
    CallsIn Fence.wide n Try.prog 55 #[.slice none 0 0, .func (.func 31) #[] #[.pointer (some ⟨Bm, 0, none⟩)]] w
      fun e w' => ∃ v xs, e = .returned v ∧ xs.Perm D ∧ w'.ownsRow w.heap.size 32 10 v xs.length (flatC xs) ∧ Below w.heap.size w w' := by
  have h1 : 1 ≤ n := by omega
  obtain ⟨i0, z, hi, hz0, hz1, hz2, hzc⟩ := info_clz
  refine callsIn_of_wp_marks Try.func55 rfl trivial ?_ rfl
  simp only [Try.ntmps55, List.size_toArray, List.length_cons, List.length_nil, Nat.reduceAdd, Nat.reduceSub, Array.replicate_succ, Array.replicate_zero, List.push_toArray, List.append_toArray, List.nil_append, List.cons_append]
  gi_wp2
  have bS := Boxed.new w 40 (.slice none 0 0)
  have hB0 : Below w.heap.size w (w.alloc (.cells #[.slice none 0 0] 40)) := (Below.refl _ w).alloc (Nat.le_refl _) _
  refine wpIn_rangeFunc_ownH rfl h1 (gf := 31) (lb := #[.pointer (some ⟨Bm, 0, none⟩)]) rfl trivial (enters_of Try.func31 (by kernel_rfl) rfl)
    (vals_stops (n - 1) (by omega) Bm b D _ (by simp; omega) ((hB0.cell (p := ⟨Bm, 0, none⟩) hBm).trans hm) (hown.below hB0)) walksK_t walksK_b (Below.refl _ _) (fun _ => rfl)
    (fun pre W => (∃ v, Boxed W w.heap.size 40 v ∧ W.ownsRow w.heap.size 32 10 v pre.length (flatC pre) ∧ True) ∧ Below w.heap.size w W)
    (fun _ _ _ => False)
    (OwnFrom.and (Own.from (holdsRow_own w.heap.size w.heap.size 40 32 10 (fun pre : List Cl => pre.length) (fun pre => flatC pre) (fun _ _ => True)) _) (ownFrom_below (Nat.le_refl _) (by simp)))
    (fun _ _ _ _ _ hs _ _ => hs)
    ⟨⟨_, bS, World.ownsRow_nil _ _ _ _, trivial⟩, hB0⟩
    (fun x a' W => ∃ Bx, ClBox W Bx x ∧ a' = { tmps := #[.slice none 0 0, .func (.func 31) #[] #[.pointer (some ⟨Bm, 0, none⟩)], .pointer (some ⟨w.heap.size, 0, none⟩), undef, .slice none 0 0, .pointer (some ⟨Bx, 0, none⟩), .func (.func 31) #[] #[.pointer (some ⟨Bm, 0, none⟩)], aggC x, undef, undef, undef, undef, undef], defers := [] })
    (fun x a' _ X Y row hs hg hr => by obtain ⟨Bx, h2, h3⟩ := hs; exact ⟨Bx, (grownBy_keeps_cells hg (fun r e => (hr r e).2) h2 rfl).trans h2, h3⟩)
    ?assign ?body ?done ?stop
  case assign =>
    rintro l pre x W K ⟨⟨v, hv, hrow, _⟩, hB⟩ hK
    have hz := fun w : World => Try.zeroValue32 w
    have HK := Lib.hid hK; have HV := Lib.hid hv; have HR := Lib.hid hrow; have HB := Lib.hid hB
    clear hK hv hrow hB
    unfold aggC ten at *
    gi_wp2_with (first | gi_in | (rw [Oper.semAt_eq _ _ _ (fun c h => by cases h)]; go_simp; try go_bits))
    exact HK.out _ _ ((KeepsOthers.alloc _ _).from _) (KeepsWalks.alloc _ _) ⟨⟨v, HV.out.alloc _, HR.out.alloc _, trivial⟩, HB.out.alloc HB.out.size _⟩ ⟨W.heap.size, heap_alloc_new W _, rfl⟩
  case body =>
    rintro l pre x a' W hl hr ⟨⟨v, hv, hrow, _⟩, hB⟩ ⟨Bx, hx, rfl⟩ hlt
    have hc := hv.cell
    obtain ⟨c0, c1, c2, c3, c4, c5, c6, c7, c8, c9⟩ := cl_cells hx.blk
    have HX := Lib.hid hx; have HV := Lib.hid hv; have HR := Lib.hid hrow; have HB := Lib.hid hB
    clear hx hv hrow hB hr
    unfold aggC ten
    gi_wp2_with (first
      | (gi_at_builtin; refine wpListIn_append_own_at _ rfl (.tmp 8) (.tmp 10) 40 rfl w.heap.size 32 i0 z 10 88 Try.underlying40 hi hz0 hz1 hz2 hzc (by decide) _ _ _ rfl (HR.out.alloc _) ⟨W.heap.size, 0, none⟩ 1 1 (c10 x) rfl rfl (World.news_of_block (cs := (c10 x).toArray) (t := 32) (fr := (0, 0)) (heap_alloc_new W _)) (fun u hu => one_c10 (l := [x]) u (by unfold flatC; simpa using hu)) (by unfold maxLen; omega) (by omega) (by have := HB.out.size; rw [World.size_alloc]; omega) ?_; intro v' w1 hown' hgrow _ _; obtain ⟨g', cap', rfl⟩ := ownsRow_succ hown'; obtain ⟨hv1, hv2, hr2, hk2, hb2⟩ := HV.out.appended (by decide) HR.out HB.out.size (Nat.le_refl _) hown' hgrow; have hc1 := hv1.cell; have hf1 := hv1.frozen; have HV2 := Lib.hid hv2; have HR2 := Lib.hid hr2; have HK2 := Lib.hid hk2; have HB2 := Lib.hid hb2; clear hv1 hv2 hr2 hk2 hb2 hown' hgrow)
      | gi_in
      | (rw [Oper.semAt_eq _ _ _ (fun c h => by cases h)]; go_simp; try go_bits))
    exact ⟨HK2.out.from _, HK2.out.walks, ⟨⟨_, HV2.out, by rw [List.length_append, flatC_append, show flatC [x] = c10 x from List.append_nil _]; exact HR2.out, trivial⟩, HB.out.trans HB2.out⟩⟩
  case done =>
    rintro D2 ys W hD2 hp ⟨⟨v, hv, hrow, _⟩, hB⟩ hK
    have hc := hv.cell
    gi_wp2
    refine ⟨by simp, .inl ⟨_, _, rfl, run_takeDeferred hK, ?_⟩⟩
    exact ⟨_, results_tmp rfl _ _ _, v, ys, rfl, hp, ownsRow_putObj hrow _ hK rfl, hB.trans (belowK_b (w := w) (Nat.le_refl _) W D2 _ _ (by simp at hD2; omega) hK rfl rfl)⟩
  case stop =>
    rintro D2 c pre W _ _ h _
    exact h.elim
end Go.Proofs.Ytnacchldecjcaaa
namespace Go.Proofs.Ytnacchldecjcaaa
open Go.RowKit
open CA (Cl St)
open Go.MapKept Go.ChangeMaps
open Go.Sort Go.Shelf
set_option linter.unusedVariables false
set_option linter.unusedSimpArgs false
set_option maxRecDepth 100000
/-! ### The order -/
def c1 (x y : Int) : Int := if x < y then -1 else if y < x then 1 else 0
def cfC (a b : Cl) : Int := c1 a.seq b.seq
def Rises (l : List Cl) : Prop := l.Pairwise (fun a b => a.seq < b.seq)
theorem Rises.ids {l : List Cl} (h : Rises l) : (l.map (·.seq)).Nodup := by
  rw [List.nodup_iff_pairwise_ne, List.pairwise_map]
  exact h.imp fun hab e => by omega
theorem lt_before (a b : Cl) : ltOf cfC a b = decide (a.seq < b.seq) := by
  unfold ltOf cfC c1
  apply decide_eq_decide.2
  split
  · simp [*]
  · split
    · simp; omega
    · simp; omega
theorem swo_before : SWO (ltOf cfC) where
  irrefl a := by rw [lt_before]; simp
  trans a b c h k := by rw [lt_before] at *; simp at *; omega
  ntrans a b c h k := by rw [lt_before] at *; simp at *; omega
theorem rises_of {d' : Array Cl} (hi : (d'.toList.map (·.seq)).Nodup) (hs : SortedIn (ltOf cfC) 0 d'.size d') : Rises d'.toList := by
  unfold Rises
  rw [List.pairwise_iff_getElem]
  intro i j hi' hj hij
  have hi2 : i < d'.size := by simpa using hi'
  have hj2 : j < d'.size := by simpa using hj
  have h := hs i j (Nat.zero_le _) hij hj2
  rw [lt_before, getElem!_pos d' j hj2, getElem!_pos d' i hi2] at h
  have hne : d'[i].seq ≠ d'[j].seq := fun e => by
    have h1 : (d'.toList.map (·.seq))[i]'(by simpa using hi2) = (d'.toList.map (·.seq))[j]'(by simpa using hj2) := by
      rw [List.getElem_map, List.getElem_map]
      simpa using e
    have := (List.getElem_inj hi).1 h1
    omega
  rw [Array.getElem_toList, Array.getElem_toList]
  simp at h
  omega
theorem same_list {a b : List Cl} (ha : Rises a) (hb : Rises b) (hp : a.Perm b) : a = b :=
  hp.eq_of_pairwise (fun x y _ _ (h1 : x.seq < y.seq) (h2 : y.seq < x.seq) => by omega) (show a.Pairwise (fun x y => x.seq < y.seq) from ha) (show b.Pairwise (fun x y => x.seq < y.seq) from hb)
/-! ### Calls in order -/
theorem flat_k (xs : List Cl) : (flatK c10 10 xs.toArray).toList = flatC xs := by
  apply List.ext_getElem?
  intro t
  by_cases ht : t < xs.length * 10
  · have hj : t / 10 < xs.length := by omega
    have h0 := flatC_at (List.getElem?_eq_getElem hj) (t % 10) (Nat.mod_lt _ (by decide))
    rw [show t / 10 * 10 + t % 10 = t by omega] at h0
    rw [h0]
    have hs : t < (flatK c10 10 xs.toArray).size := by rw [size_flatK]; simpa using ht
    have := get_flatK c10 10 xs.toArray t (by simpa using ht)
    rw [getElem!_pos _ t hs] at this
    rw [Array.getElem?_toList, Array.getElem?_eq_getElem hs, this]
    rw [getElem!_pos xs.toArray (t / 10) (by simpa using hj)]
    have hl : t % 10 < (c10 xs[t / 10]).length := Nat.mod_lt _ (by decide)
    rw [getElem!_pos _ _ (by simpa using hl), List.getElem?_eq_getElem hl]
    simp
  · rw [List.getElem?_eq_none (by rw [Array.length_toList, size_flatK]; simpa using ht), List.getElem?_eq_none (by rw [flatC_len]; omega)]
theorem holds_flat {w : World} {g : Nat} {cur : Array Value} {e : TypeId} {xs : List Cl} (hb : w.heap[g]? = some (.cells cur e (0, 0))) (ht : cur.toList.take (xs.length * 10) = flatC xs) : HoldsK c10 10 w g 0 xs.toArray := by
  intro j hj
  have hj' : j < xs.length * 10 := by simpa using hj
  have hjs : j < (flatK c10 10 xs.toArray).size := hj
  refine ⟨?_, by simp [World.frozen?, hb]⟩
  have h1 : (cur.toList.take (xs.length * 10))[j]? = (flatK c10 10 xs.toArray).toList[j]? := by rw [ht, flat_k]
  rw [List.getElem?_take_of_lt hj', Array.getElem?_toList, Array.getElem?_toList, Array.getElem?_eq_getElem hjs] at h1
  rw [cell_of_row w g (0 + j) cur _ (0, 0) hb, Nat.zero_add, h1, getElem!_pos _ j hjs]
  rfl
theorem row_sorted {w : World} {g n : Nat} {os : Array Obj} (F : Array Value) : w.grownBy (grow (putRow id (Sort.ahead w n) g 0 F) os) (some g) := by
  refine ⟨rfl, rfl, rfl, by simp, fun k hk hne => ?_⟩
  rw [heap_grow_old _ _ (by simpa using hk)]
  have : g ≠ k := fun e => hne (by rw [e])
  simp [putRow, mapBlock, Sort.ahead, Array.getElem?_modify, this]
theorem own_sorted {w : World} {base g cap n : Nat} {e : TypeId} {os : Array Obj} {cur : Array Value} {xs ys : List Cl} (hl : ys.length = xs.length) (hbase : base ≤ g) (hb : w.heap[g]? = some (.cells cur e (0, 0)))
    (h1 : xs.length ≤ cap) (h2 : cap ≤ maxLen) (h3 : cur.size = cap * 10) :
    (sortWorldK c10 10 w g 0 n ys.toArray os).ownsRow base e 10 (.slice (some ⟨g, 0, none⟩) xs.length cap) xs.length (flatC ys) := by
  have hg : g < w.heap.size := (Array.getElem?_eq_some_iff.1 hb).1
  refine ⟨by rw [flatC_len, hl], .inr ⟨g, cap, putCells id 0 (flatK c10 10 ys.toArray) cur, rfl, hbase, ?_, h1, h2, by simp [putCells, h3], ?_⟩⟩
  · unfold sortWorldK putRowK
    rw [heap_grow_old _ _ (by simpa using hg)]
    simp [putRow, mapBlock, Sort.ahead, Array.getElem?_modify, hb, onCells]
  · rw [← hl, ← flat_k ys]
    apply List.ext_getElem?
    intro j
    have hsz : (flatK c10 10 ys.toArray).size = ys.length * 10 := by rw [size_flatK]; simp
    by_cases hj : j < ys.length * 10
    · rw [List.getElem?_take_of_lt hj, Array.getElem?_toList, Array.getElem?_toList]
      have hc : j < cur.size := by rw [h3]; omega
      simp [putCells, hsz, hj, hc]
    · rw [List.getElem?_take_eq_none (by omega), List.getElem?_eq_none (by rw [Array.length_toList, hsz]; omega)]
set_option maxHeartbeats 1000000 in
theorem nan_int (x : Int) (w : World) : Calls Try.prog 58 #[.int .i64 x] w fun e w' => e = .returned (.bool false) ∧ w' = w := by
  go_enter Try.func58, Try.ntmps58
  go_wp2_with fail
  go_ret
  exact ⟨rfl, rfl⟩
set_option maxHeartbeats 1000000 in
theorem Compare_int (x y : Int) (w : World) : Calls Try.prog 32 #[.int .i64 x, .int .i64 y] w fun e w' => e = .returned (.int .i64 (c1 x y)) ∧ w' = w := by
  unfold c1
  by_cases h : x < y
  · rw [if_pos h]
    go_enter Try.func32, Try.ntmps32
    go_wp2_with fail
    refine (nan_int _ _).mono ?_
    rintro e w1 ⟨rfl, rfl⟩
    go_wp2_with fail
    refine (nan_int _ _).mono ?_
    rintro e w1 ⟨rfl, rfl⟩
    go_wp2_with fail
    go_ret
    exact ⟨rfl, rfl⟩
  · rw [if_neg h]
    by_cases k : y < x
    · rw [if_pos k]
      go_enter Try.func32, Try.ntmps32
      go_wp2_with fail
      refine (nan_int _ _).mono ?_
      rintro e w1 ⟨rfl, rfl⟩
      go_wp2_with fail
      refine (nan_int _ _).mono ?_
      rintro e w1 ⟨rfl, rfl⟩
      go_wp2_with fail
      go_ret
      exact ⟨rfl, rfl⟩
    · rw [if_neg k]
      go_enter Try.func32, Try.ntmps32
      go_wp2_with fail
      refine (nan_int _ _).mono ?_
      rintro e w1 ⟨rfl, rfl⟩
      go_wp2_with fail
      refine (nan_int _ _).mono ?_
      rintro e w1 ⟨rfl, rfl⟩
      go_wp2_with fail
      go_ret
      exact ⟨rfl, rfl⟩
set_option maxHeartbeats 1000000 in
theorem bySeq_any (a b : Cl) (w : World) : Calls Try.prog 22 #[aggC a, aggC b] w fun e w' => e = .returned (.int .i64 (cfC a b)) ∧ ∃ q os', w' = grow (w.drewN q) os' := by
  unfold aggC
  have HD := Lib.hid (show ∃ q os', (w.alloc (.cells (ten a) 32)).alloc (.cells (ten b) 32) = grow (w.drewN q) os' by
    refine ⟨0, #[.cells (ten a) 32] ++ #[.cells (ten b) 32], ?_⟩
    rw [alloc_eq_grow, alloc_eq_grow, ← grow_grow]
    rfl)
  unfold ten at *
  go_enter Try.func22, Try.ntmps22
  go_wp2_with fail
  refine (Compare_int _ _ _).mono ?_
  rintro e w1 ⟨rfl, rfl⟩
  go_wp2_with fail
  go_ret
  exact ⟨rfl, HD.out⟩
/-! ### The calls -/
theorem less_lays (g off n : Nat) (w : World) : CmpLays Try.prog 22 #[] c10 10 cfC g off n w := fun m os dk _ x y => bySeq_any x y _
theorem perm_in {d d' : Array Cl} (h : PermIn 0 d.size d d') : d'.toList.Perm d.toList := by
  obtain ⟨h1, _, h3⟩ := h
  have e1 : d'.extract 0 d.size = d' := by rw [← h1]; simp
  have e2 : d.extract 0 d.size = d := by simp
  rw [e1, e2] at h3
  exact h3
theorem SortFunc_row {B cap g : Nat} {w : World} {xs L : List Cl} (hL : Rises L) (h64 : xs.length ≤ 64) (hp : xs.Perm L) (hv : w.ownsRow B 32 10 (.slice (some ⟨g, 0, none⟩) xs.length cap) xs.length (flatC xs)) :
    Calls Try.prog 30 #[.slice (some ⟨g, 0, none⟩) xs.length cap, .func (.func 22) #[] #[]] w fun e w' => e = .returned (.tuple #[]) ∧
      w'.ownsRow B 32 10 (.slice (some ⟨g, 0, none⟩) xs.length cap) xs.length (flatC L) ∧ w.grownBy w' (some g) := by
  obtain ⟨_, cap', cur, e, h1, h2, h3, h4, h5, h6⟩ := (hv.2.resolve_left (by simp))
  injection e with e1 _ e3
  injection e1 with e1
  injection e1 with e1
  subst e1
  subst e3
  have hH : HoldsK c10 10 w g 0 xs.toArray := holds_flat h2 h6
  have hg : g < w.heap.size := (Array.getElem?_eq_some_iff.1 h2).1
  have hcon := AnyQ.slices_SortFunc Try.sortfunc 10 Try.isAgg32 Try.sizeOf32 c10 (fun _ => rfl) (fun x v hv => one_c10 (l := [x]) v (by unfold flatC; simpa using hv)) cfC swo_before 22 #[] g 0 cap xs.toArray w (enters_of Try.func22 (by kernel_rfl) rfl) (less_lays g 0 _ w) hH hg (by simp; omega)
  change Calls Try.prog 30 _ _ _ at hcon
  refine hcon.mono ?_
  rintro e w' ⟨rfl, d', n, os, hpm, hso, rfl⟩
  have hp2 : d'.toList.Perm L := (perm_in hpm).trans hp
  have hs2 : d'.size = xs.length := by have := (perm_in hpm).length_eq; simpa using this
  have hids : (d'.toList.map (·.seq)).Nodup := ((hp2.map (·.seq)).nodup_iff).2 hL.ids
  have hsz : xs.toArray.size = d'.size := by simp [hs2]
  rw [hsz] at hso
  have hd : d'.toList = L := same_list (rises_of hids hso) hL hp2
  refine ⟨rfl, ?_, row_sorted _⟩
  have := own_sorted (n := n) (os := os) (ys := d'.toList) (xs := xs) (by simpa using hs2) h1 h2 h3 h4 h5
  rw [hd] at this
  rw [show d' = L.toArray by rw [← hd]]
  exact this
def seqOf (b : Nat) : Value := .func (.func 31) #[] #[.pointer (some ⟨b, 0, none⟩)]
def ListPost (w : World) (L : List Cl) (e : Ending) (w' : World) : Prop := ∃ v, e = .returned v ∧ w'.ownsRow w.heap.size 32 10 v L.length (flatC L) ∧ Below w.heap.size w w'
def Gathered (w : World) (D : List Cl) (e : Ending) (w' : World) : Prop := ∃ v xs, e = .returned v ∧ Hid (xs.Perm D) ∧ Hid (w'.ownsRow w.heap.size 32 10 v xs.length (flatC xs)) ∧ Hid (Below w.heap.size w w')
set_option maxHeartbeats 1000000 in
theorem Collect_any (Bm b : Nat) (D : List Cl) (hD : D.length ≤ 64) (w : World) (hBm : Bm < w.heap.size) (hm : w.cell? ⟨Bm, 0, none⟩ = some (.map (some b))) (hown : MapAt w b (.int .i64) (pairsC D)) :
    Calls Try.prog 29 #[seqOf Bm] w (Gathered w D) := by
  have HC := Lib.hid (callsIn_wide.1 (seq_in 4 (Nat.le_refl _) Bm b D hD w hBm hm hown))
  clear hm hown
  unfold seqOf
  go_enter Try.func29, Try.ntmps29
  go_wp2_with fail
  refine HC.out.mono ?_
  rintro e w' ⟨v, xs, rfl, hp, hown, hb⟩
  have HP := Lib.hid hp; have HO := Lib.hid hown; have HB := Lib.hid hb
  clear hp hown hb
  go_wp2_with fail
  go_ret
  exact ⟨v, xs, rfl, HP, HO, HB⟩
set_option maxHeartbeats 1000000 in
theorem SortedFunc_any (Bm b : Nat) (D L : List Cl) (hL : Rises L) (h4 : D.length ≤ 64) (hp : D.Perm L) (w : World) (hBm : Bm < w.heap.size) (hm : w.cell? ⟨Bm, 0, none⟩ = some (.map (some b))) (hown : MapAt w b (.int .i64) (pairsC D)) :
    Calls Try.prog 20 #[seqOf Bm, .func (.func 22) #[] #[]] w (ListPost w L) := by
  have HC := Lib.hid (Collect_any Bm b D h4 w hBm hm hown)
  have HL := Lib.hid hL
  have HPm := Lib.hid hp
  clear hm hown hL hp
  unfold seqOf at *
  go_enter Try.func20, Try.ntmps20
  go_wp2_with fail
  refine HC.out.mono ?_
  rintro e w1 ⟨v, xs, rfl, HP, HO, HB⟩
  have HXL := Lib.hid (HP.out.trans HPm.out)
  have h0 := HO.out.2
  rcases h0 with ⟨rfl, h1⟩ | ⟨g, cap, cur, rfl, hg, _, hc, hc2, _⟩
  · have hx : xs = [] := List.eq_nil_of_length_eq_zero h1
    have hl : L = [] := by
      have := HXL.out.length_eq
      rw [hx] at this
      exact List.eq_nil_of_length_eq_zero this.symm
    subst hx
    subst hl
    clear h1
    have HN := Lib.hid (AnyF.slices_SortFunc_none (P := Try.prog) (ρ := Try.sortfunc_ren) Try.sortfunc none 0 (.func (.func 22) #[] #[]) w1)
    go_wp2_with fail
    refine HN.out.mono ?_
    rintro e w2 ⟨rfl, rfl⟩
    go_wp2_with fail
    go_ret
    exact ⟨_, rfl, HO.out, HB.out⟩
  · have HR := Lib.hid (SortFunc_row HL.out (by rw [HXL.out.length_eq, ← HPm.out.length_eq]; exact h4) HXL.out HO.out)
    have hlen : xs.length = L.length := HXL.out.length_eq
    have HG := Lib.hid hg
    have hc3 : cap ≤ 9223372036854775807 := by unfold maxLen at hc2; omega
    clear hc2 hg
    rw [hlen] at hc HR ⊢
    clear hlen
    go_wp2_with fail
    refine HR.out.mono ?_
    rintro e w2 ⟨rfl, hown2, hgr⟩
    have HO2 := Lib.hid hown2
    have HB2 := Lib.hid (HB.out.grown hgr HB.out.size (fun k hk => by cases hk; exact HG.out))
    clear hown2 hgr
    go_wp2_with fail
    go_ret
    exact ⟨_, rfl, HO2.out, HB2.out⟩
theorem ListPost.from {w w1 w' : World} {L : List Cl} {e : Ending} (h : ListPost w1 L e w') (hb : Below w.heap.size w w1) : ListPost w L e w' := by
  obtain ⟨v, rfl, h3, h4⟩ := h
  refine ⟨v, rfl, ⟨h3.1, ?_⟩, below_on hb h4⟩
  rcases h3.2 with h0 | ⟨g, cap, cur, e1, k1, hr⟩
  · exact .inl h0
  · exact .inr ⟨g, cap, cur, e1, Nat.le_trans hb.size k1, hr⟩
set_option maxHeartbeats 1000000 in
theorem Values_all (mb : Option Nat) (w : World) : Calls Try.prog 21 #[.map mb] w fun e w' => e = .returned (.func (.func 31) #[] #[.pointer (some ⟨w.heap.size, 0, none⟩)]) ∧ w' = w.alloc (.cells #[.map mb] 52) := Values_any mb w
set_option maxHeartbeats 1000000 in
theorem List_any {w : World} {g M : Nat} {s : St} (H : CallsAt w g M s) : Calls Try.prog 13 #[.pointer (some ⟨g, 0, none⟩)] w (ListPost w s.on) := by
  have c2 := H.c2
  have HM := Lib.hid H.map
  have HI := Lib.hid H.inv
  clear H
  go_enter Try.func13, Try.ntmps13
  go_wp2_with fail
  refine (Values_all _ w).mono ?_
  rintro e w2 ⟨rfl, e2⟩
  have hb2 : Below w.heap.size w w2 := by rw [e2]; exact (Below.refl _ w).alloc (Nat.le_refl _) _
  have hc2 : w2.cell? ⟨w.heap.size, 0, none⟩ = some (.map (some M)) := by rw [e2]; go_simp
  have hl2 : w.heap.size < w2.heap.size := by rw [e2]; simp
  clear e2
  have HS := Lib.hid (SortedFunc_any w.heap.size M s.on s.on HI.out.rise (by have := HI.out.len; omega) (List.Perm.refl _) w2 hl2 hc2 (HM.out.below hb2))
  have HB2 := Lib.hid hb2
  unfold seqOf at HS
  clear hb2 hc2 hl2
  go_wp2_with fail
  refine HS.out.mono ?_
  rintro e w3 hp
  obtain ⟨v, rfl, h1, h2⟩ := hp.from HB2.out
  have HO := Lib.hid h1
  have HB3 := Lib.hid h2
  clear h1 h2
  go_wp2_with fail
  go_ret
  exact ⟨v, rfl, HO.out, HB3.out⟩
set_option maxHeartbeats 1000000 in
theorem List_nil (w : World) : Calls Try.prog 13 #[.pointer none] w fun e w' => e = .returned (.slice none 0 0) ∧ w' = w := by
  go_enter Try.func13, Try.ntmps13
  go_wp2_with fail
  go_ret
  exact ⟨rfl, rfl⟩
end Go.Proofs.Ytnacchldecjcaaa
