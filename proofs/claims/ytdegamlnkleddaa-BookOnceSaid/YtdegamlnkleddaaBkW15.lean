/- Where a grant stands among a book's grants: the package's search and the document's. -/
import Derived.Test.YtdegamlnkleddaaBkW14
namespace Go.Proofs.Ytdegamlnkleddaa
open Go.RowKit
open BM (Gr Rc Bk g0 r0 b0)
set_option linter.unusedVariables false
set_option linter.unusedSimpArgs false
set_option maxRecDepth 100000
def cmpI (a b : Int) : Int := if a < b then -1 else if b < a then 1 else 0
theorem isNaN_any (a : Int) (w : World) : Calls Try.prog 114 #[.int .i64 a] w fun e w' => e = .returned (.bool false) ∧ w = w' := by
  go_enter Try.func114, Try.ntmps114
  go_wp2
  go_ret
  exact ⟨ret_bool (by rfl), rfl⟩
theorem cmp_any (a b : Int) (w : World) : Calls Try.prog 99 #[.int .i64 a, .int .i64 b] w fun e w' => e = .returned (.int .i64 (cmpI a b)) ∧ w = w' := by
  have HE := Lib.hid (show cmpI a b = if a < b then -1 else if b < a then 1 else 0 from rfl)
  go_enter Try.func99, Try.ntmps99
  go_wp2_with (go_at_call 114; refine (isNaN_any _ _).mono ?_; rintro x w9 ⟨rfl, rfl⟩)
  all_goals
    go_ret
    exact ⟨ret_int (by rw [HE.out]; split <;> (try split) <;> first | rfl | omega), rfl⟩
theorem place1_any (v : Value) (g : Gr) (id : Int) (w : World) :
    Calls Try.prog 98 #[.agg (six g v), .int .i64 id] w fun e w' => e = .returned (.int .i64 (cmpI g.id id)) ∧ Below w.heap.size w w' := by
  have HX := Lib.hid ((Below.refl _ w).alloc (Nat.le_refl _) (.cells (six g v) 30))
  have c0 : (w.alloc (.cells (six g v) 30)).cell? ⟨w.heap.size, 0, none⟩ = some (.int .i64 g.id) := (Whole.new w 30 (six g v)).cell 0
  go_enter Try.func98, Try.ntmps98
  go_wp2_with (go_at_call 99; refine (cmp_any _ _ _).mono ?_; rintro x w9 ⟨rfl, rfl⟩)
  go_ret
  exact ⟨rfl, HX.out⟩
/-- Ids rise. -/
def Rise (l : List Gr) : Prop := ∀ (i j : Nat) (a b : Gr), l[i]? = some a → l[j]? = some b → i < j → a.id < b.id
/-- How many come ahead of an Id. -/
def ahead (l : List Gr) (id : Int) : Nat := (l.takeWhile (BM.less id)).length
theorem ahead_le (l : List Gr) (id : Int) : ahead l id ≤ l.length := by
  unfold ahead
  exact (List.takeWhile_prefix _).length_le
theorem ahead_lt {l : List Gr} {id : Int} : ∀ {j : Nat} {a : Gr}, j < ahead l id → l[j]? = some a → a.id < id := by
  intro j a hj ha
  have h1 : (l.takeWhile (BM.less id))[j]? = some a := by
    have hp := List.takeWhile_prefix (p := BM.less id) (l := l)
    obtain ⟨t, ht⟩ := hp
    rw [← ht, List.getElem?_append_left hj] at ha
    exact ha
  have := List.all_takeWhile (p := BM.less id) (l := l)
  rw [List.all_eq_true] at this
  have := this a (List.mem_of_getElem? h1)
  unfold BM.less at this
  simpa using this
theorem ahead_at {l : List Gr} {id : Int} : ∀ {a : Gr}, l[ahead l id]? = some a → ¬ a.id < id := by
  induction l with
  | nil => intro a h; simp [ahead] at h
  | cons x l ih =>
    intro a h
    unfold ahead at h
    rw [List.takeWhile_cons] at h
    split at h
    · simp only [List.length_cons, List.getElem?_cons_succ] at h
      exact ih h
    · rename_i hx
      simp at h
      subst h
      unfold BM.less at hx
      simpa using hx
theorem rise_ge {l : List Gr} {id : Int} (hr : Rise l) {j : Nat} {a : Gr} (hj : ahead l id ≤ j) (ha : l[j]? = some a) : ¬ a.id < id := by
  have hlt := (List.getElem?_eq_some_iff.1 ha).1
  have h0 : l[ahead l id]? = some l[ahead l id] := List.getElem?_eq_getElem (by omega)
  have h1 := ahead_at h0
  by_cases e : ahead l id = j
  · subst e
    rw [h0] at ha
    injection ha with ha
    rw [← ha]; exact h1
  · have := hr _ _ _ _ h0 ha (by omega)
    omega
theorem there_at {l : List Gr} {id : Int} (hr : Rise l) : BM.there id l = match l[ahead l id]? with | some a => decide (a.id = id) | none => false := by
  unfold BM.there
  cases h : l[ahead l id]? with
  | none =>
    simp only
    rw [List.any_eq_false]
    intro x hx
    obtain ⟨i, hi, e⟩ := List.getElem_of_mem hx
    have h2 : l.length ≤ ahead l id := List.getElem?_eq_none_iff.1 h
    have := ahead_lt (l := l) (id := id) (j := i) (a := x) (by omega) (by rw [List.getElem?_eq_getElem hi, e])
    simp; omega
  | some a =>
    simp only
    by_cases ha : a.id = id
    · rw [decide_eq_true ha, List.any_eq_true]
      exact ⟨a, List.mem_of_getElem? h, by simp [ha]⟩
    · rw [decide_eq_false ha, List.any_eq_false]
      intro x hx
      obtain ⟨i, hi, e⟩ := List.getElem_of_mem hx
      have hxi : l[i]? = some x := by rw [List.getElem?_eq_getElem hi, e]
      simp only [decide_eq_true_eq]
      by_cases h1 : i < ahead l id
      · have := ahead_lt h1 hxi; omega
      · by_cases h2 : i = ahead l id
        · subst h2; rw [h] at hxi; injection hxi with hxi; rw [← hxi]; exact ha
        · have h3 := hr _ _ _ _ h hxi (by omega)
          have h4 := ahead_at h
          omega
def PlacePost (w : World) (l : List Gr) (id : Int) (e : Ending) (w' : World) : Prop := e = .returned (.tuple #[.int .i64 (ahead l id : Int), .bool (BM.there id l)]) ∧ Below w.heap.size w w'
set_option maxHeartbeats 8000000 in
theorem Search_any (v : Value) (l : List Gr) (id : Int) (w : World) (h : HdG w v l) (hr : Rise l) (hid : In64 id) (h6 : l.length ≤ 1000) :
    Calls Try.prog 97 #[v, .int .i64 id, fnV 98] w (PlacePost w l id) := by
  obtain ⟨A, c, rfl, hA, ha, hc, hca⟩ := h
  have HA := Lib.hid hA; clear hA
  have HR := Lib.hid hr; clear hr
  unfold fnV
  go_enter Try.func97, Try.ntmps97
  go_wp2_with fail
  go_loopw [9, 10, 11] (fun i j _ wx => ∃ (p q : Nat), i = .int .i64 (p : Int) ∧ j = .int .i64 (q : Int) ∧ p ≤ ahead l id ∧ ahead l id ≤ q ∧ q ≤ l.length ∧ Hid (Below w.heap.size w wx)) (fun i j _ _ => (intOf j).toNat - (intOf i).toNat)
  case atStart => exact ⟨0, l.length, rfl, rfl, by omega, ahead_le l id, Nat.le_refl _, Lib.hid (Below.refl _ _)⟩
  case round =>
    obtain ⟨p, q, rfl, rfl, hp, hq, hql, HW⟩ := hrel
    by_cases hlt : p < q
    · have hm1 : (p + q) / 2 < l.length := by omega
      have hm2 : p ≤ (p + q) / 2 ∧ (p + q) / 2 < q := by omega
      obtain ⟨m, hm⟩ : ∃ m, m = (p + q) / 2 := ⟨_, rfl⟩
      have HE := Lib.hid (show ((p : Int) + (q : Int)) / 2 = (m : Int) by omega)
      have hml : m < l.length := by omega
      have hmp : p ≤ m := by omega
      have hmq : m < q := by omega
      clear hm1 hm2 hm
      obtain ⟨ba, oa, eA, hza, hca'⟩ := (HA.out.below HW.out) (by omega)
      subst eA
      obtain ⟨Ax, cx, ⟨a0, a1, a2, a3, a4, a5⟩, hfa⟩ := (hca' m l[m] (List.getElem?_eq_getElem hml)).open_
      clear hca' hfa
      have HLM := Lib.hid (List.getElem?_eq_getElem hml)
      generalize l[m] = x at a0 a1 a2 a3 a4 a5 HLM
      go_upto_region 5 with (fail)
      rw [HE.out]
      go_wp2_with fail
      refine (place1_any (.slice Ax x.stamp.length cx) x id _).mono ?_
      rintro e w5 ⟨rfl, hb5⟩
      have HX5 := Lib.hid (below_on HW.out hb5)
      clear hb5 a0 a1 a2 a3 a4 a5
      by_cases hx : x.id < id
      · have HZ := Lib.hid (show cmpI x.id id = -1 by unfold cmpI; rw [if_pos hx])
        have HP := Lib.hid (show m + 1 ≤ ahead l id by
          apply Nat.lt_of_not_le
          intro hle
          exact rise_ge HR.out (by omega) HLM.out hx)
        rw [HZ.out]
        clear hx
        go_wp2_with fail
        go_roundw
        case rel => exact ⟨m + 1, q, rfl, rfl, HP.out, hq, hql, HX5⟩
        case measure => simp only [intOf]; omega
      · obtain ⟨z, hz0, hz⟩ : ∃ z, 0 ≤ z ∧ cmpI x.id id = z := ⟨_, by unfold cmpI; rw [if_neg hx]; split <;> omega, rfl⟩
        have HP := Lib.hid (show ahead l id ≤ m by
          apply Nat.le_of_not_lt
          intro hle
          exact hx (ahead_lt hle HLM.out))
        rw [hz]
        clear hx hz
        go_wp2_with fail
        go_roundw
        case rel => exact ⟨p, m, rfl, rfl, hp, HP.out, by omega, HX5⟩
        case measure => simp only [intOf]; omega
    · have HPE := Lib.hid (show ahead l id = p by omega)
      have HTH := Lib.hid (there_at (l := l) (id := id) HR.out)
      by_cases hpl : p < l.length
      · obtain ⟨ba, oa, eA, hza, hca'⟩ := (HA.out.below HW.out) (by omega)
        subst eA
        obtain ⟨Ax, cx, ⟨a0, a1, a2, a3, a4, a5⟩, hfa⟩ := (hca' p l[p] (List.getElem?_eq_getElem hpl)).open_
        clear hca' hfa
        have HLM := Lib.hid (List.getElem?_eq_getElem hpl)
        generalize l[p] = x at a0 a1 a2 a3 a4 a5 HLM
        have HT2 := Lib.hid (show BM.there id l = decide (x.id = id) by rw [HTH.out, HPE.out, HLM.out])
        go_wp2_with fail
        refine (place1_any (.slice Ax x.stamp.length cx) x id _).mono ?_
        rintro e w5 ⟨rfl, hb5⟩
        have HX5 := Lib.hid (below_on HW.out hb5)
        clear hb5 a0 a1 a2 a3 a4 a5
        have HZ := Lib.hid (show (cmpI x.id id == 0) = decide (x.id = id) by
          rw [Bool.eq_iff_iff]
          unfold cmpI
          simp only [beq_iff_eq, decide_eq_true_eq]
          split
          · omega
          · split <;> omega)
        go_wp2_with fail
        go_ret2
        unfold PlacePost
        rw [HPE.out, HT2.out]
        exact ⟨by rw [HZ.out]; rfl, HX5.out⟩
      · have HT2 := Lib.hid (show BM.there id l = false by rw [HTH.out, HPE.out, List.getElem?_eq_none (by omega)])
        go_wp2_with fail
        go_ret2
        unfold PlacePost
        rw [HPE.out, HT2.out]
        exact ⟨rfl, HW.out⟩
theorem stand_rise {n : Int} : ∀ {l : List Gr} {a : Int}, BM.stand a n l = true → Rise l
  | [], _, _ => by intro i j a b h; simp at h
  | x :: l, a, h => by
    have h' := BM.stand_cons.1 h
    have ih := stand_rise h'.2.2.2
    intro i j p q hi hj hij
    match i, j with
    | i, 0 => omega
    | 0, j + 1 =>
      simp at hi
      rw [List.getElem?_cons_succ] at hj
      subst hi
      exact (BM.stand_ok h'.2.2.2 q (List.mem_of_getElem? hj)).2.1
    | i + 1, j + 1 =>
      rw [List.getElem?_cons_succ] at hi hj
      exact ih i j p q hi hj (by omega)
set_option maxHeartbeats 2000000 in
theorem b_place (v : Value) (b : Bk) (id : Int) (w : World) (h : FitB w v b) (hr : Rise b.gs) (hid : In64 id) (h6 : b.gs.length ≤ 1000) :
    Calls Try.prog 69 #[.agg (four b v), .int .i64 id] w (PlacePost w b.gs id) := by
  have HX := Lib.hid ((Below.refl _ w).alloc (Nat.le_refl _) (.cells (four b v) 25))
  have HB := Lib.hid (h.below HX.out)
  have c3 : (w.alloc (.cells (four b v) 25)).cell? ⟨w.heap.size, 3, none⟩ = some v := (Whole.new w 25 (four b v)).cell 3
  have HQ := Lib.hid (Search_any v b.gs id (w.alloc (.cells (four b v) 25)) HB.out.gs hr hid h6)
  clear h
  unfold fnV at HQ
  go_enter Try.func69, Try.ntmps69
  go_wp2_with fail
  refine HQ.out.mono ?_
  rintro e w5 ⟨rfl, hb⟩
  have HX5 := Lib.hid (below_on HX.out hb)
  clear hb c3
  go_wp2_with fail
  go_ret2
  exact ⟨rfl, HX5.out⟩
set_option maxHeartbeats 2000000 in
theorem b_stands (v : Value) (b : Bk) (id : Int) (w : World) (h : FitB w v b) (hr : Rise b.gs) (hid : In64 id) (h6 : b.gs.length ≤ 1000) :
    Calls Try.prog 96 #[.agg (four b v), .int .i64 id] w fun e w' => e = .returned (.bool (BM.there id b.gs)) ∧ Below w.heap.size w w' := by
  have HX := Lib.hid ((Below.refl _ w).alloc (Nat.le_refl _) (.cells (four b v) 25))
  have HB := Lib.hid (h.below HX.out)
  have HK := Whole.new w 25 (four b v)
  have c0 : (w.alloc (.cells (four b v) 25)).cell? ⟨w.heap.size, 0, none⟩ = some (.int .i64 b.next) := HK.cell 0
  have c1 : (w.alloc (.cells (four b v) 25)).cell? ⟨w.heap.size, 1, none⟩ = some (.int .i64 b.boots) := HK.cell 1
  have c2 : (w.alloc (.cells (four b v) 25)).cell? ⟨w.heap.size, 2, none⟩ = some (.int .i64 b.longest) := HK.cell 2
  have c3 : (w.alloc (.cells (four b v) 25)).cell? ⟨w.heap.size, 3, none⟩ = some v := HK.cell 3
  have HQ := Lib.hid (b_place v b id (w.alloc (.cells (four b v) 25)) HB.out hr hid h6)
  clear h HK
  go_enter Try.func96, Try.ntmps96
  go_wp2_with fail
  refine HQ.out.mono ?_
  rintro e w5 ⟨rfl, hb⟩
  have HX5 := Lib.hid (below_on HX.out hb)
  clear hb c0 c1 c2 c3
  go_wp2_with fail
  go_ret
  exact ⟨rfl, HX5.out⟩
end Go.Proofs.Ytdegamlnkleddaa
