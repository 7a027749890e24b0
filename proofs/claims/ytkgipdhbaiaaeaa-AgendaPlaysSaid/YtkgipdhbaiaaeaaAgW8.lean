/- The package's List: the items as they stand are gathered, then laid in order by the library's sort. -/
import Derived.Test.YtkgipdhbaiaaeaaAgW7
import Derived.Test.YtkgipdhbaiaaeaaShelf2
import Derived.Shelf.SlIter.Collect
import Derived.RangeFuncNested
import Derived.RangeFuncBox
import Derived.RangeFuncBound
import Derived.Maps.OwnIn
import Derived.Sort.OwnSorted
namespace Go.Proofs.Ytkgipdhbaiaaeaa
open Go.RowKit
open AM (It HS g sw)
open Go.MapKept Go.ChangeMaps
open Go.Sort Go.Shelf
set_option linter.unusedVariables false
set_option linter.unusedSimpArgs false
set_option maxRecDepth 100000
theorem one_c3 {l : List It} : ∀ u ∈ flat l, u.oneCell' = true := by
  intro u hu
  obtain ⟨e, _, h⟩ := List.mem_flatMap.1 hu
  unfold c3 at h
  simp only [List.mem_cons, List.not_mem_nil, or_false] at h
  rcases h with rfl | rfl | rfl <;> rfl
theorem take_more {h : List It} {k : Nat} (hk : k < h.length) : h.take (k + 1) = h.take k ++ [g h k] := by
  rw [List.take_add_one, AM.g_get hk]
  rfl
/-! ### The iterator over the items -/
set_option maxHeartbeats 2000000 in
theorem vals1_in (n : Nat) (hn : 1 ≤ n) (l Bs b m n0 : Nat) (h : List It) (hb : b < n0) (J Jx : List It → World → Prop)
    (hY : ∀ pre x W, J pre W → pre.length < m → YieldAt Fence.wide (n - 1) Try.prog l #[agg x] W fun e W' => (e = .returned (.bool true) ∧ J (pre ++ [x]) W' ∧ Below n0 W W') ∨ (e = .returned (.bool false) ∧ Jx (pre ++ [x]) W'))
    (W : World) (hn0 : n0 ≤ W.heap.size) (hJ : AbidesFrom W.heap.size J) (hBs : W.cell? ⟨Bs, 0, none⟩ = some (.slice (some ⟨b, 0, none⟩) m 32)) (hA : AgH W b h m) (h0 : J [] W) :
    CallsIn Fence.wide n Try.prog 39 #[.func (.yield l) #[] #[], .pointer (some ⟨Bs, 0, none⟩)] W fun e W' => (∃ v, e = .returned v) ∧ ((∃ xs, xs = h.take m ∧ J xs W') ∨ (∃ pre, True ∧ Jx pre W')) := by
  have HJ := Lib.hid hJ
  have HJ0 := Lib.hid h0
  have HY := Lib.hid hY
  have HA := Lib.hid hA
  have hm := hA.n32
  clear hJ h0 hY hA
  have hz := fun w : World => Try.zeroValue29 w
  refine callsIn_of_wp Try.func39 rfl trivial ?_ rfl
  simp only [Try.ntmps39, List.size_toArray, List.length_cons, List.length_nil, Nat.reduceAdd, Nat.reduceSub, Array.replicate_succ, Array.replicate_zero, List.push_toArray, List.append_toArray, List.nil_append, List.cons_append]
  gi_wp2
  gi_loopw [7] (fun i wr => ∃ k : Nat, k ≤ m ∧ i = .int .i64 (k : Int) ∧ Hid (J (h.take k) wr) ∧ Hid (Below n0 W wr) ∧ Hid (W.heap.size ≤ wr.heap.size)) (fun i _ => m - (intOf i).toNat)
  case atStart => exact ⟨0, Nat.zero_le _, rfl, HJ0, Lib.hid (Below.refl _ _), Lib.hid (Nat.le_refl _)⟩
  case round =>
    obtain ⟨k, hk, rfl, HJs, HB, HSZ⟩ := hrel
    by_cases hlt : k < m
    · have hA2 : AgH wr b h m := ⟨(HB.out.block b hb).trans HA.out.whole, HA.out.len, HA.out.n32⟩
      have HL := Lib.hid HA.out.len
      obtain ⟨i0, i1, i2⟩ := hA2.item (i := k) (by omega)
      have j0 : (0 : Int) ≤ (k : Int) := by omega
      have j1 : (k : Int) < (m : Int) := by omega
      have hJ3 : J (h.take k) (wr.alloc (.cells (three (g h k)) 29)) := HJ.out _ wr _ none HJs.out (World.grownBy_alloc _ _ none) (fun r e => by cases e)
      obtain ⟨fn, tmps, assign, body, hy, hR⟩ := HY.out _ (g h k) _ hJ3 (by rw [List.length_take, HL.out]; omega)
      have HR := Lib.hid hR
      have HB3 := Lib.hid (HB.out.alloc (Nat.le_trans hn0 HSZ.out) (.cells (three (g h k)) 29))
      have HS3 := Lib.hid (show wr.heap.size ≤ (wr.alloc (.cells (three (g h k)) 29)).heap.size by simp)
      have HT := Lib.hid (take_more (h := h) (k := k) (by rw [HL.out]; omega))
      clear hJ3 hR hA2
      unfold agg at hy
      unfold three at hy HR HB3 HS3
      gi_wp2
      refine HR.out.mono ?_
      rintro e W3 (⟨rfl, hJ3, hk3⟩ | ⟨rfl, hJx3⟩)
      · have HJ3 := Lib.hid hJ3
        have HB4 := Lib.hid (HB3.out.trans hk3)
        have HS4 := Lib.hid (Nat.le_trans HSZ.out (Nat.le_trans HS3.out hk3.size))
        rw [← HT.out] at HJ3
        clear hJ3 hk3
        gi_wp2
        go_roundw
        case rel => exact ⟨k + 1, by omega, by simp, HJ3, HB4, HS4⟩
        case measure => simp [intOf]; omega
      · have HJx := Lib.hid hJx3
        clear hJx3
        gi_wp2
        refine bodyPost_ret (results_none rfl _ _ _) rfl ?_
        exact ⟨⟨_, rfl⟩, .inr ⟨_, trivial, HJx.out⟩⟩
    · obtain rfl : k = m := by omega
      gi_wp2
      go_end0
      exact ⟨⟨_, rfl⟩, .inl ⟨_, rfl, HJs.out⟩⟩
set_option maxHeartbeats 1000000 in
theorem vals1_nil_in (n : Nat) (l Bs : Nat) (J : List It → World → Prop) (W : World) (hBs : W.cell? ⟨Bs, 0, none⟩ = some (.slice none 0 0)) (h0 : J [] W) :
    CallsIn Fence.wide n Try.prog 39 #[.func (.yield l) #[] #[], .pointer (some ⟨Bs, 0, none⟩)] W fun e W' => (∃ v, e = .returned v) ∧ J [] W' := by
  refine callsIn_of_wp Try.func39 rfl trivial ?_ rfl
  simp only [Try.ntmps39, List.size_toArray, List.length_cons, List.length_nil, Nat.reduceAdd, Nat.reduceSub, Array.replicate_succ, Array.replicate_zero, List.push_toArray, List.append_toArray, List.nil_append, List.cons_append]
  have H0 := Lib.hid h0
  clear h0
  gi_wp2
  gi_loopw [7] (fun i wr => i = .int .i64 0 ∧ Hid (J [] wr)) (fun _ _ => 0)
  case atStart => exact ⟨rfl, H0⟩
  case round =>
    obtain ⟨rfl, HJs⟩ := hrel
    gi_wp2
    go_end0
    exact ⟨⟨_, rfl⟩, HJs.out⟩
/-- A slice that holds these items: an agenda's own, or none. -/
def Src (w : World) (sv : Value) (xs : List It) : Prop := (sv = .slice none 0 0 ∧ xs = []) ∨ ∃ b h m, sv = .slice (some ⟨b, 0, none⟩) m 32 ∧ AgH w b h m ∧ xs = h.take m
theorem Src.len {w : World} {sv : Value} {xs : List It} (h : Src w sv xs) : xs.length ≤ 32 := by
  rcases h with ⟨_, rfl⟩ | ⟨b, h, m, _, hA, rfl⟩
  · simp
  · rw [List.length_take]; have := hA.n32; omega
theorem Src.below {w w' : World} {sv : Value} {xs : List It} (h : Src w sv xs) (hb : Below w.heap.size w w') : Src w' sv xs := by
  rcases h with h | ⟨b, h, m, e, hA, e2⟩
  · exact .inl h
  · exact .inr ⟨b, h, m, e, hA.below hb, e2⟩
theorem vals_stops (n : Nat) (hn : 1 ≤ n) (Bs n0 : Nat) (sv : Value) (xs : List It) (w : World) (hBs : Bs < w.heap.size) (hn0 : n0 ≤ w.heap.size) (hc : w.cell? ⟨Bs, 0, none⟩ = some sv) {w0 : World} (hw0 : Src w0 sv xs) (h00 : w0.heap.size = n0) (hb0 : Below n0 w0 w) :
    SeqStopsK Fence.wide n Try.prog 39 #[.pointer (some ⟨Bs, 0, none⟩)] (fun x : It => #[agg x]) (Below n0) (fun ys => ys = xs) (fun _ => True) xs.length w := fun l J Jx W hW hJ _ hY h0 => by
  have hc' := (hW.cell (p := ⟨Bs, 0, none⟩) hBs).trans hc
  rcases hw0 with ⟨rfl, rfl⟩ | ⟨b, h, m, rfl, hA, rfl⟩
  · exact (vals1_nil_in n l Bs J W hc' h0).mono fun e W' ⟨he, hj⟩ => ⟨he, .inl ⟨_, rfl, hj⟩⟩
  · subst h00
    have hml : (h.take m).length = m := by rw [List.length_take, hA.len]; have := hA.n32; omega
    rw [hml] at hY
    exact vals1_in n hn l Bs b m _ h hA.lt J Jx hY W (Nat.le_trans hn0 hW.size) hJ hc' ((hA.below hb0).below hW) h0
set_option maxHeartbeats 1000000 in
theorem Values_any (A : Option Addr) (m c : Nat) (w : World) : Calls Try.prog 31 #[.slice A m c] w fun e w' => e = .returned (.func (.func 39) #[] #[.pointer (some ⟨w.heap.size, 0, none⟩)]) ∧ w' = w.alloc (.cells #[.slice A m c] 32) := by
  go_enter Try.func31, Try.ntmps31
  go_wp2_with fail
  go_ret
  exact ⟨rfl, rfl⟩
theorem info_it : (Try.prog.info? 29).map (fun i => (i.size, i.bytes)) = some (3, 24) := by kernel_rfl
theorem info_itz : ∃ (i : TypeInfo) (z : Value), Try.prog.info? 29 = some i ∧ i.zero = some z ∧ i.size = 3 ∧ i.bytes = 24 ∧ z.cells.size = 3 := by
  obtain ⟨i0, hi, hp⟩ := Option.map_eq_some_iff.1 info_it
  injection hp with hz1 hz2
  obtain ⟨z, hz0⟩ : ∃ z, i0.zero = some z := by
    have : (Try.prog.info? 29).map (fun i => i.zero.isSome) = some true := by kernel_rfl
    rw [hi] at this
    simp only [Option.map_some, Option.some.injEq] at this
    exact Option.isSome_iff_exists.1 this
  have hzc : z.cells.size = 3 := by
    have : (Try.prog.info? 29).map (fun i => i.zero.map (fun z => z.cells.size)) = some (some 3) := by kernel_rfl
    rw [hi] at this
    simp only [Option.map_some, hz0, Option.some.injEq] at this
    exact this
  exact ⟨i0, z, hi, hz0, hz1, hz2, hzc⟩
/-- A block holds an item. -/
def ItBox (W : World) (B : Nat) (e : It) : Prop := W.heap[B]? = some (.cells (c3 e).toArray 29 (0, 0))
theorem ItBox.cells {W : World} {B : Nat} {e : It} (h : ItBox W B e) : W.cell? ⟨B, 0, none⟩ = some (.int .i64 e.due) ∧ W.cell? ⟨B, 1, none⟩ = some (.int .i64 e.kind) ∧ W.cell? ⟨B, 2, none⟩ = some (.int .i64 e.key) := by
  unfold ItBox at h
  refine ⟨?_, ?_, ?_⟩ <;> (unfold World.cell?; rw [h]; rfl)
set_option maxHeartbeats 4000000 in
theorem seq_in (n : Nat) (hn : 4 ≤ n) (Bs : Nat) (sv : Value) (D : List It) (w : World) (hBs : Bs < w.heap.size) (hc0 : w.cell? ⟨Bs, 0, none⟩ = some sv) (hS : Src w sv D) :
    CallsIn Fence.wide n Try.prog 43 #[.slice none 0 0, .func (.func 39) #[] #[.pointer (some ⟨Bs, 0, none⟩)]] w
      fun e w' => ∃ v, e = .returned v ∧ w'.ownsRow w.heap.size 29 3 v D.length (flat D) ∧ Below w.heap.size w w' := by
  have h1 : 1 ≤ n := by omega
  have hD := hS.len
  obtain ⟨i0, z, hi, hz0, hz1, hz2, hzc⟩ := info_itz
  refine callsIn_of_wp_marks Try.func43 rfl trivial ?_ rfl
  simp only [Try.ntmps43, List.size_toArray, List.length_cons, List.length_nil, Nat.reduceAdd, Nat.reduceSub, Array.replicate_succ, Array.replicate_zero, List.push_toArray, List.append_toArray, List.nil_append, List.cons_append]
  gi_wp2
  have bS := Boxed.new w 32 (.slice none 0 0)
  have hB0 : Below w.heap.size w (w.alloc (.cells #[.slice none 0 0] 32)) := (Below.refl _ w).alloc (Nat.le_refl _) _
  refine wpIn_rangeFunc_ownH rfl h1 (gf := 39) (lb := #[.pointer (some ⟨Bs, 0, none⟩)]) rfl trivial (enters_of Try.func39 (by kernel_rfl) rfl)
    (vals_stops (n - 1) (by omega) Bs w.heap.size sv D (w.alloc (.cells #[.slice none 0 0] 32)) (by simp; omega) hB0.size ((hB0.cell (p := ⟨Bs, 0, none⟩) hBs).trans hc0) hS rfl hB0) belowK_t (belowK_b (by simp)) (Below.refl _ _) (fun _ => rfl)
    (fun pre W => (∃ v, Boxed W w.heap.size 32 v ∧ W.ownsRow w.heap.size 29 3 v pre.length (flat pre) ∧ True) ∧ Below w.heap.size w W)
    (fun _ _ _ => False)
    (OwnFrom.and (Own.from (holdsRow_own w.heap.size w.heap.size 32 29 3 (fun pre : List It => pre.length) (fun pre => flat pre) (fun _ _ => True)) _) (ownFrom_below (Nat.le_refl _) (by simp)))
    (fun _ _ _ _ _ hs _ _ => hs)
    ⟨⟨_, bS, World.ownsRow_nil _ _ _ _, trivial⟩, hB0⟩
    (fun x a' W => ∃ Bx, ItBox W Bx x ∧ a' = { tmps := #[.slice none 0 0, .func (.func 39) #[] #[.pointer (some ⟨Bs, 0, none⟩)], .pointer (some ⟨w.heap.size, 0, none⟩), undef, .slice none 0 0, .pointer (some ⟨Bx, 0, none⟩), .func (.func 39) #[] #[.pointer (some ⟨Bs, 0, none⟩)], agg x, undef, undef, undef, undef, undef], defers := [] })
    (fun x a' _ X Y row hs hg hr => by obtain ⟨Bx, h2, h3⟩ := hs; exact ⟨Bx, (grownBy_keeps_cells hg (fun r e => (hr r e).2) h2 rfl).trans h2, h3⟩)
    ?assign ?body ?done ?stop
  case assign =>
    rintro l pre x W K ⟨⟨v, hv, hrow, _⟩, hB⟩ hK
    have hz := fun w : World => Try.zeroValue29 w
    have HK := Lib.hid hK; have HV := Lib.hid hv; have HR := Lib.hid hrow; have HB := Lib.hid hB
    clear hK hv hrow hB
    unfold agg at *
    gi_wp2_with (first | gi_in | (rw [Oper.semAt_eq _ _ _ (fun c h => by cases h)]; go_simp; try go_bits))
    exact HK.out _ _ ((KeepsOthers.alloc _ _).from _) ((Below.refl _ _).alloc HB.out.size _) ⟨⟨v, HV.out.alloc _, HR.out.alloc _, trivial⟩, HB.out.alloc HB.out.size _⟩ ⟨W.heap.size, heap_alloc_new W _, rfl⟩
  case body =>
    rintro l pre x a' W hl hr ⟨⟨v, hv, hrow, _⟩, hB⟩ ⟨Bx, hx, rfl⟩ hlt
    have hc := hv.cell
    obtain ⟨c0, c1, c2⟩ := hx.cells
    have HX := Lib.hid hx; have HV := Lib.hid hv; have HR := Lib.hid hrow; have HB := Lib.hid hB
    clear hx hv hrow hB hr
    unfold agg
    gi_wp2_with (first
      | (gi_at_builtin; refine wpListIn_append_own_at _ rfl (.tmp 8) (.tmp 10) 32 rfl w.heap.size 29 i0 z 3 24 Try.underlying32 hi hz0 hz1 hz2 hzc (by decide) _ _ _ rfl (HR.out.alloc _) ⟨W.heap.size, 0, none⟩ 1 1 (c3 x) rfl rfl (World.news_of_block (cs := (c3 x).toArray) (t := 29) (fr := (0, 0)) (heap_alloc_new W _)) (fun u hu => one_c3 (l := [x]) u (by unfold flat; simpa using hu)) (by unfold maxLen; omega) (by omega) (by have := HB.out.size; rw [World.size_alloc]; omega) ?_; intro v' w1 hown' hgrow _ _; obtain ⟨g', cap', rfl⟩ := ownsRow_succ hown'; obtain ⟨hv1, hv2, hr2, hk2, hb2⟩ := HV.out.appended (by decide) HR.out HB.out.size (Nat.le_refl _) hown' hgrow; have hc1 := hv1.cell; have hf1 := hv1.frozen; have HV2 := Lib.hid hv2; have HR2 := Lib.hid hr2; have HK2 := Lib.hid hk2; have HB2 := Lib.hid hb2; clear hv1 hv2 hr2 hk2 hb2 hown' hgrow)
      | gi_in
      | (rw [Oper.semAt_eq _ _ _ (fun c h => by cases h)]; go_simp; try go_bits))
    exact ⟨HK2.out.from _, HB2.out, ⟨⟨_, HV2.out, by rw [List.length_append, flat_append, show flat [x] = c3 x from List.append_nil _]; exact HR2.out, trivial⟩, HB.out.trans HB2.out⟩⟩
  case done =>
    rintro D2 ys W hD2 rfl ⟨⟨v, hv, hrow, _⟩, hB⟩ hK
    have hc := hv.cell
    gi_wp2
    refine ⟨by simp, .inl ⟨_, _, rfl, run_takeDeferred hK, ?_⟩⟩
    exact ⟨_, results_tmp rfl _ _ _, v, rfl, ownsRow_putObj hrow _ hK rfl, hB.trans (belowK_b (w := w) (Nat.le_refl _) W D2 _ _ (by simp at hD2; omega) hK rfl rfl)⟩
  case stop =>
    rintro D2 c pre W _ _ h _
    exact h.elim
/-! ### The order -/
theorem lt_before (a b : It) : ltOf AM.cf a b = AM.before a b := by
  unfold ltOf AM.before
  exact decide_eq_decide.2 (AM.cf_neg a b)
theorem before_no {a b : It} : AM.before a b = false ↔ ¬ AM.lt a b := by unfold AM.before; rw [decide_eq_false_iff_not]
theorem swo_before : SWO (ltOf AM.cf) where
  irrefl a := by rw [lt_before, before_no]; exact AM.lt_irrefl a
  trans a b c h k := by
    rw [lt_before] at *
    exact decide_eq_true (AM.lt_trans (of_decide_eq_true h) (of_decide_eq_true k))
  ntrans a b c h k := by
    rw [lt_before, before_no] at *
    exact AM.le_trans k h
theorem rises_of {d' : Array It} (hi : d'.toList.Nodup) (hs : SortedIn (ltOf AM.cf) 0 d'.size d') : d'.toList.Pairwise AM.lt := by
  rw [List.pairwise_iff_getElem]
  intro i j hi' hj hij
  have hi2 : i < d'.size := by simpa using hi'
  have hj2 : j < d'.size := by simpa using hj
  have h := hs i j (Nat.zero_le _) hij hj2
  rw [lt_before, getElem!_pos d' j hj2, getElem!_pos d' i hi2, before_no] at h
  rw [Array.getElem_toList, Array.getElem_toList]
  refine AM.lt_of h (fun e => ?_)
  have h1 : (d'.toList)[i]'hi' = (d'.toList)[j]'hj := by rw [Array.getElem_toList, Array.getElem_toList]; exact e
  have := (List.getElem_inj hi).1 h1
  omega
/-! ### Items as a row -/
theorem flat_k (xs : List It) : (flatK c3 3 xs.toArray).toList = flat xs := by
  apply List.ext_getElem?
  intro t
  by_cases ht : t < xs.length * 3
  · have hj : t / 3 < xs.length := by omega
    obtain ⟨h0, h1, h2⟩ := flat_at (List.getElem?_eq_getElem hj)
    have e1 : (flatK c3 3 xs.toArray).toList[t]? = some ((c3 xs[t / 3])[t % 3]!) := by
      have hs : t < (flatK c3 3 xs.toArray).size := by rw [size_flatK]; simpa using ht
      have := get_flatK c3 3 xs.toArray t (by simpa using ht)
      rw [getElem!_pos _ t hs] at this
      rw [Array.getElem?_toList, Array.getElem?_eq_getElem hs, this]
      rw [getElem!_pos xs.toArray (t / 3) (by simpa using hj)]
      simp
    rw [e1]
    have hm : t % 3 = 0 ∨ t % 3 = 1 ∨ t % 3 = 2 := by omega
    rcases hm with h | h | h
    · rw [h]; rw [show t / 3 * 3 = t by omega] at h0; rw [h0]; rfl
    · rw [h]; rw [show t / 3 * 3 + 1 = t by omega] at h1; rw [h1]; rfl
    · rw [h]; rw [show t / 3 * 3 + 2 = t by omega] at h2; rw [h2]; rfl
  · rw [List.getElem?_eq_none (by rw [Array.length_toList, size_flatK]; simpa using ht), List.getElem?_eq_none (by rw [flat_len]; omega)]
theorem holds_flat {w : World} {g : Nat} {cur : Array Value} {e : TypeId} {xs : List It} (hb : w.heap[g]? = some (.cells cur e (0, 0))) (ht : cur.toList.take (xs.length * 3) = flat xs) : HoldsK c3 3 w g 0 xs.toArray := by
  intro j hj
  have hj' : j < xs.length * 3 := by simpa using hj
  have hjs : j < (flatK c3 3 xs.toArray).size := hj
  refine ⟨?_, by simp [World.frozen?, hb]⟩
  have h1 : (cur.toList.take (xs.length * 3))[j]? = (flatK c3 3 xs.toArray).toList[j]? := by rw [ht, flat_k]
  rw [List.getElem?_take_of_lt hj', Array.getElem?_toList, Array.getElem?_toList, Array.getElem?_eq_getElem hjs] at h1
  rw [cell_of_row w g (0 + j) cur _ (0, 0) hb, Nat.zero_add, h1, getElem!_pos _ j hjs]
  rfl
theorem row_sorted {w : World} {g n : Nat} {os : Array Obj} (F : Array Value) : w.grownBy (grow (putRow id (Sort.ahead w n) g 0 F) os) (some g) := by
  refine ⟨rfl, rfl, rfl, by simp, fun k hk hne => ?_⟩
  rw [heap_grow_old _ _ (by simpa using hk)]
  have : g ≠ k := fun e => hne (by rw [e])
  simp [putRow, mapBlock, Sort.ahead, Array.getElem?_modify, this]
theorem own_sorted {w : World} {base g cap n : Nat} {e : TypeId} {os : Array Obj} {cur : Array Value} {xs ys : List It} (hl : ys.length = xs.length) (hbase : base ≤ g) (hb : w.heap[g]? = some (.cells cur e (0, 0)))
    (h1 : xs.length ≤ cap) (h2 : cap ≤ maxLen) (h3 : cur.size = cap * 3) :
    (sortWorldK c3 3 w g 0 n ys.toArray os).ownsRow base e 3 (.slice (some ⟨g, 0, none⟩) xs.length cap) xs.length (flat ys) := by
  have hg : g < w.heap.size := (Array.getElem?_eq_some_iff.1 hb).1
  refine ⟨by rw [flat_len, hl], .inr ⟨g, cap, putCells id 0 (flatK c3 3 ys.toArray) cur, rfl, hbase, ?_, h1, h2, by simp [putCells, h3], ?_⟩⟩
  · unfold sortWorldK putRowK
    rw [heap_grow_old _ _ (by simpa using hg)]
    simp [putRow, mapBlock, Sort.ahead, Array.getElem?_modify, hb, onCells]
  · rw [← hl, ← flat_k ys]
    apply List.ext_getElem?
    intro j
    have hsz : (flatK c3 3 ys.toArray).size = ys.length * 3 := by rw [size_flatK]; simp
    by_cases hj : j < ys.length * 3
    · rw [List.getElem?_take_of_lt hj, Array.getElem?_toList, Array.getElem?_toList]
      have hc : j < cur.size := by rw [h3]; omega
      simp [putCells, hsz, hj, hc]
    · rw [List.getElem?_take_eq_none (by omega), List.getElem?_eq_none (by rw [Array.length_toList, hsz]; omega)]
/-! ### The calls -/
theorem less_lays (g off n : Nat) (w : World) : CmpLays Try.prog 32 #[] c3 3 AM.cf g off n w := fun m os dk _ x y => compare_any x y _
theorem perm_in {d d' : Array It} (h : PermIn 0 d.size d d') : d'.toList.Perm d.toList := by
  obtain ⟨h1, _, h3⟩ := h
  have e1 : d'.extract 0 d.size = d' := by rw [← h1]; simp
  have e2 : d.extract 0 d.size = d := by simp
  rw [e1, e2] at h3
  exact h3
theorem good_nodup {L : List It} (h : AM.Good L) : L.Nodup := h.sorted.imp (fun hab e => by subst e; exact AM.lt_irrefl _ hab)
theorem SortFunc_row {B cap g : Nat} {w : World} {xs L : List It} (hL : AM.Good L) (hp : xs.Perm L) (hv : w.ownsRow B 29 3 (.slice (some ⟨g, 0, none⟩) xs.length cap) xs.length (flat xs)) :
    Calls Try.prog 38 #[.slice (some ⟨g, 0, none⟩) xs.length cap, .func (.func 32) #[] #[]] w fun e w' => e = .returned (.tuple #[]) ∧
      w'.ownsRow B 29 3 (.slice (some ⟨g, 0, none⟩) xs.length cap) xs.length (flat L) ∧ w.grownBy w' (some g) := by
  obtain ⟨_, cap', cur, e, h1, h2, h3, h4, h5, h6⟩ := (hv.2.resolve_left (by simp))
  injection e with e1 _ e3
  injection e1 with e1
  injection e1 with e1
  subst e1
  subst e3
  have hlen : xs.length ≤ 32 := by rw [hp.length_eq]; exact hL.le
  have hH : HoldsK c3 3 w g 0 xs.toArray := holds_flat h2 h6
  have hg : g < w.heap.size := (Array.getElem?_eq_some_iff.1 h2).1
  have hcon := AnyQ.slices_SortFunc Try.sortfunc 3 Try.isAgg29 Try.sizeOf29 c3 (fun _ => rfl) (fun x v hv => one_c3 (l := [x]) v (by unfold flat; simpa using hv)) AM.cf swo_before 32 #[] g 0 cap xs.toArray w (enters_of Try.func32 (by kernel_rfl) rfl) (less_lays g 0 _ w) hH hg (by simp; omega)
  change Calls Try.prog 38 _ _ _ at hcon
  refine hcon.mono ?_
  rintro e w' ⟨rfl, d', n, os, hpm, hso, rfl⟩
  have hp2 : d'.toList.Perm L := (perm_in hpm).trans hp
  have hs2 : d'.size = xs.length := by have := (perm_in hpm).length_eq; simpa using this
  have hids : d'.toList.Nodup := (hp2.nodup_iff).2 (good_nodup hL)
  have hsz : xs.toArray.size = d'.size := by simp [hs2]
  rw [hsz] at hso
  have hd : d'.toList = L := AM.same_list (rises_of hids hso) hL.sorted hp2
  refine ⟨rfl, ?_, row_sorted _⟩
  have := own_sorted (n := n) (os := os) (ys := d'.toList) (xs := xs) (by simpa using hs2) h1 h2 h3 h4 h5
  rw [hd] at this
  rw [show d' = L.toArray by rw [← hd]]
  exact this
def seqOf (b : Nat) : Value := .func (.func 39) #[] #[.pointer (some ⟨b, 0, none⟩)]
def ListPost (w : World) (L : List It) (e : Ending) (w' : World) : Prop := ∃ v, e = .returned v ∧ w'.ownsRow w.heap.size 29 3 v L.length (flat L) ∧ Below w.heap.size w w'
set_option maxHeartbeats 1000000 in
theorem Collect_any (Bs : Nat) (sv : Value) (D : List It) (w : World) (hBs : Bs < w.heap.size) (hm : w.cell? ⟨Bs, 0, none⟩ = some sv) (hS : Src w sv D) :
    Calls Try.prog 37 #[seqOf Bs] w (ListPost w D) := by
  have HC := Lib.hid (callsIn_wide.1 (seq_in 4 (Nat.le_refl _) Bs sv D w hBs hm hS))
  clear hm hS
  unfold seqOf
  go_enter Try.func37, Try.ntmps37
  go_wp2_with fail
  refine HC.out.mono ?_
  rintro e w' ⟨v, rfl, hown, hb⟩
  have HO := Lib.hid hown; have HB := Lib.hid hb
  clear hown hb
  go_wp2_with fail
  go_ret
  exact ⟨v, rfl, HO.out, HB.out⟩
set_option maxHeartbeats 1000000 in
theorem SortedFunc_any (Bs : Nat) (sv : Value) (D L : List It) (hL : AM.Good L) (hp : D.Perm L) (w : World) (hBs : Bs < w.heap.size) (hm : w.cell? ⟨Bs, 0, none⟩ = some sv) (hS : Src w sv D) :
    Calls Try.prog 30 #[seqOf Bs, .func (.func 32) #[] #[]] w (ListPost w L) := by
  have HC := Lib.hid (Collect_any Bs sv D w hBs hm hS)
  have HL := Lib.hid hL
  have HPm := Lib.hid hp
  clear hm hS hL hp
  unfold seqOf at *
  go_enter Try.func30, Try.ntmps30
  go_wp2_with fail
  refine HC.out.mono ?_
  rintro e w1 ⟨v, rfl, ho, hb⟩
  have HO := Lib.hid ho
  have HB := Lib.hid hb
  clear ho hb
  have h0 := HO.out.2
  rcases h0 with ⟨rfl, h1⟩ | ⟨g, cap, cur, rfl, hg, _, hc, hc2, _⟩
  · have hx : D = [] := List.eq_nil_of_length_eq_zero h1
    have hl : L = [] := by
      have := HPm.out.length_eq
      rw [hx] at this
      exact List.eq_nil_of_length_eq_zero this.symm
    subst hx
    subst hl
    clear h1
    have HN := Lib.hid (AnyF.slices_SortFunc_none (P := Try.prog) (ρ := Try.sortfunc_ren) Try.sortfunc none 0 (.func (.func 32) #[] #[]) w1)
    go_wp2_with fail
    refine HN.out.mono ?_
    rintro e w2 ⟨rfl, rfl⟩
    go_wp2_with fail
    go_ret
    exact ⟨_, rfl, HO.out, HB.out⟩
  · have HR := Lib.hid (SortFunc_row HL.out HPm.out HO.out)
    have hlen : D.length = L.length := HPm.out.length_eq
    have HG := Lib.hid hg
    clear hc hc2 hg
    rw [hlen] at HR ⊢
    clear hlen
    go_wp2_with fail
    refine HR.out.mono ?_
    rintro e w2 ⟨rfl, hown2, hgr⟩
    have HO2 := Lib.hid hown2
    have HB2 := Lib.hid (HB.out.grown hgr HB.out.size (fun k hk => by cases hk; exact HG.out))
    clear hown2 hgr
    go_wp2_with fail
    go_ret
    exact ⟨_, rfl, HO2.out, HB2.out⟩
theorem ListPost.from {w w1 w' : World} {L : List It} {e : Ending} (h : ListPost w1 L e w') (hb : Below w.heap.size w w1) : ListPost w L e w' := by
  obtain ⟨v, rfl, h3, h4⟩ := h
  refine ⟨v, rfl, ⟨h3.1, ?_⟩, below_on hb h4⟩
  rcases h3.2 with h0 | ⟨g, cap, cur, e1, k1, hr⟩
  · exact .inl h0
  · exact .inr ⟨g, cap, cur, e1, Nat.le_trans hb.size k1, hr⟩
set_option maxHeartbeats 1000000 in
theorem List_any {w : World} {b : Nat} {L : List It} (H : AgAt w b L) : Calls Try.prog 20 #[.pointer (some ⟨b, 0, none⟩)] w (ListPost w L) := by
  obtain ⟨h, hA, hS⟩ := H
  have HS0 := Lib.hid hS
  have HA := Lib.hid hA
  obtain ⟨n, hn⟩ : ∃ n, L.length = n := ⟨_, rfl⟩
  rw [hn] at HA HS0
  clear hA hS hn
  go_enter Try.func20, Try.ntmps20
  go_wp2_with fail
  refine (in_any HA.out).mono ?_
  rintro e w1 ⟨rfl, q, e1⟩
  have hb1 : Below w.heap.size w w1 := by rw [e1]; exact drewN_below w q
  clear e1
  have HA1 := Lib.hid (HA.out.below hb1)
  have HB := Lib.hid hb1
  clear hb1 HA
  go_wp2_with fail
  refine (Values_any _ _ _ w1).mono ?_
  rintro e w2 ⟨rfl, e2⟩
  have hb2 : Below w1.heap.size w1 w2 := by rw [e2]; exact (Below.refl _ w1).alloc (Nat.le_refl _) _
  have hc2 : w2.cell? ⟨w1.heap.size, 0, none⟩ = some (.slice (some ⟨b, 0, none⟩) n 32) := by rw [e2]; go_simp
  have hl2 : w1.heap.size < w2.heap.size := by rw [e2]; simp
  clear e2
  have HS := Lib.hid (SortedFunc_any w1.heap.size (.slice (some ⟨b, 0, none⟩) n 32) (h.take n) L HS0.out.good HS0.out.perm w2 hl2 hc2 ((show Src w1 (.slice (some ⟨b, 0, none⟩) n 32) (h.take n) from .inr ⟨b, h, n, rfl, HA1.out, rfl⟩).below hb2))
  have HB2 := Lib.hid (below_on HB.out hb2)
  unfold seqOf at HS
  clear hb2 hc2 hl2 HB
  go_wp2_with fail
  refine HS.out.mono ?_
  rintro e w3 hp
  obtain ⟨v, rfl, h1, h2⟩ := hp.from HB2.out
  have HO := Lib.hid h1
  have HB3 := Lib.hid h2
  clear h1 h2
  go_wp2_with fail
  go_ret
  exact ⟨v, rfl, HO.out, HB3.out⟩
set_option maxHeartbeats 1000000 in
theorem List_nil (w : World) : Calls Try.prog 20 #[.pointer none] w (ListPost w []) := by
  go_enter Try.func20, Try.ntmps20
  go_wp2_with fail
  refine (in_nil w).mono ?_
  rintro e w1 ⟨rfl, e0⟩
  obtain rfl := e0.symm
  have HB := Lib.hid (Below.refl w.heap.size w)
  clear e0
  go_wp2_with fail
  refine (Values_any _ _ _ w).mono ?_
  rintro e w2 ⟨rfl, e2⟩
  have hb2 : Below w.heap.size w w2 := by rw [e2]; exact (Below.refl _ w).alloc (Nat.le_refl _) _
  have hc2 : w2.cell? ⟨w.heap.size, 0, none⟩ = some (.slice none 0 0) := by rw [e2]; go_simp
  have hl2 : w.heap.size < w2.heap.size := by rw [e2]; simp
  clear e2
  have HS := Lib.hid (SortedFunc_any w.heap.size (.slice none 0 0) [] [] AM.good_nil (List.Perm.refl _) w2 hl2 hc2 ((show Src w (.slice none 0 0) [] from .inl ⟨rfl, rfl⟩).below hb2))
  have HB2 := Lib.hid (below_on HB.out hb2)
  unfold seqOf at HS
  clear hb2 hc2 hl2 HB
  go_wp2_with fail
  refine HS.out.mono ?_
  rintro e w3 hp
  obtain ⟨v, rfl, h1, h2⟩ := hp.from HB2.out
  have HO := Lib.hid h1
  have HB3 := Lib.hid h2
  clear h1 h2
  go_wp2_with fail
  go_ret
  exact ⟨v, rfl, HO.out, HB3.out⟩
end Go.Proofs.Ytkgipdhbaiaaeaa
