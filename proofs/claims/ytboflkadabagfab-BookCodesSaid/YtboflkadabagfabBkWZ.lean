/- Texts that belong together: BkW15, BkW16, BkW17, BkW18. -/
import Derived.Test.YtboflkadabagfabBkW14
import Derived.Test.YtboflkadabagfabBkW13
import Derived.Test.YtboflkadabagfabBkTM
import Derived.OrdersHeld
namespace Go.Proofs.Ytboflkadabagfab
open Go.RowKit
open BM (Gr Rc Bk g0 r0 b0)
set_option linter.unusedVariables false
set_option linter.unusedSimpArgs false
set_option maxRecDepth 100000
def cmpI (a b : Int) : Int := if a < b then -1 else if b < a then 1 else 0
theorem isNaN_any (a : Int) (w : World) : Calls Try.prog 95 #[.int .i64 a] w fun e w' => e = .returned (.bool false) ∧ w = w' := by
  go_enter Try.func95, Try.ntmps95
  go_wp2
  go_ret
  exact ⟨ret_bool (by rfl), rfl⟩
theorem cmp_any (a b : Int) (w : World) : Calls Try.prog 86 #[.int .i64 a, .int .i64 b] w fun e w' => e = .returned (.int .i64 (cmpI a b)) ∧ w = w' := by
  have HE := Lib.hid (show cmpI a b = if a < b then -1 else if b < a then 1 else 0 from rfl)
  go_enter Try.func86, Try.ntmps86
  go_wp2_with (go_at_call 95; refine (isNaN_any _ _).mono ?_; rintro x w9 ⟨rfl, rfl⟩)
  all_goals
    go_ret
    exact ⟨ret_int (by rw [HE.out]; split <;> (try split) <;> first | rfl | omega), rfl⟩
theorem place1_any (v : Value) (g : Gr) (id : Int) (w : World) :
    Calls Try.prog 85 #[.agg (six g v), .int .i64 id] w fun e w' => e = .returned (.int .i64 (cmpI g.id id)) ∧ Below w.heap.size w w' := by
  have HX := Lib.hid ((Below.refl _ w).alloc (Nat.le_refl _) (.cells (six g v) 26))
  have c0 : (w.alloc (.cells (six g v) 26)).cell? ⟨w.heap.size, 0, none⟩ = some (.int .i64 g.id) := (Whole.new w 26 (six g v)).cell 0
  go_enter Try.func85, Try.ntmps85
  go_wp2_with (go_at_call 86; refine (cmp_any _ _ _).mono ?_; rintro x w9 ⟨rfl, rfl⟩)
  go_ret
  exact ⟨rfl, HX.out⟩
/-- Ids rise. -/
def Rise (l : List Gr) : Prop := ∀ (i j : Nat) (a b : Gr), l[i]? = some a → l[j]? = some b → i < j → a.id < b.id
/-- How many come ahead of an Id. -/
def ahead (l : List Gr) (id : Int) : Nat := (l.takeWhile (BM.less id)).length
theorem ahead_le (l : List Gr) (id : Int) : ahead l id ≤ l.length := by
  unfold ahead
  exact (List.takeWhile_prefix _).length_le
theorem ahead_lt {l : List Gr} {id : Int} : ∀ {j : Nat} {a : Gr}, j < ahead l id → l[j]? = some a → a.id < id := by
  intro j a hj ha
  have h1 : (l.takeWhile (BM.less id))[j]? = some a := by
    have hp := List.takeWhile_prefix (p := BM.less id) (l := l)
    obtain ⟨t, ht⟩ := hp
    rw [← ht, List.getElem?_append_left hj] at ha
    exact ha
  have := List.all_takeWhile (p := BM.less id) (l := l)
  rw [List.all_eq_true] at this
  have := this a (List.mem_of_getElem? h1)
  unfold BM.less at this
  simpa using this
theorem ahead_at {l : List Gr} {id : Int} : ∀ {a : Gr}, l[ahead l id]? = some a → ¬ a.id < id := by
  induction l with
  | nil => intro a h; simp [ahead] at h
  | cons x l ih =>
    intro a h
    unfold ahead at h
    rw [List.takeWhile_cons] at h
    split at h
    · simp only [List.length_cons, List.getElem?_cons_succ] at h
      exact ih h
    · rename_i hx
      simp at h
      subst h
      unfold BM.less at hx
      simpa using hx
theorem rise_ge {l : List Gr} {id : Int} (hr : Rise l) {j : Nat} {a : Gr} (hj : ahead l id ≤ j) (ha : l[j]? = some a) : ¬ a.id < id := by
  have hlt := (List.getElem?_eq_some_iff.1 ha).1
  have h0 : l[ahead l id]? = some l[ahead l id] := List.getElem?_eq_getElem (by omega)
  have h1 := ahead_at h0
  by_cases e : ahead l id = j
  · subst e
    rw [h0] at ha
    injection ha with ha
    rw [← ha]; exact h1
  · have := hr _ _ _ _ h0 ha (by omega)
    omega
theorem there_at {l : List Gr} {id : Int} (hr : Rise l) : BM.there id l = match l[ahead l id]? with | some a => decide (a.id = id) | none => false := by
  unfold BM.there
  cases h : l[ahead l id]? with
  | none =>
    simp only
    rw [List.any_eq_false]
    intro x hx
    obtain ⟨i, hi, e⟩ := List.getElem_of_mem hx
    have h2 : l.length ≤ ahead l id := List.getElem?_eq_none_iff.1 h
    have := ahead_lt (l := l) (id := id) (j := i) (a := x) (by omega) (by rw [List.getElem?_eq_getElem hi, e])
    simp; omega
  | some a =>
    simp only
    by_cases ha : a.id = id
    · rw [decide_eq_true ha, List.any_eq_true]
      exact ⟨a, List.mem_of_getElem? h, by simp [ha]⟩
    · rw [decide_eq_false ha, List.any_eq_false]
      intro x hx
      obtain ⟨i, hi, e⟩ := List.getElem_of_mem hx
      have hxi : l[i]? = some x := by rw [List.getElem?_eq_getElem hi, e]
      simp only [decide_eq_true_eq]
      by_cases h1 : i < ahead l id
      · have := ahead_lt h1 hxi; omega
      · by_cases h2 : i = ahead l id
        · subst h2; rw [h] at hxi; injection hxi with hxi; rw [← hxi]; exact ha
        · have h3 := hr _ _ _ _ h hxi (by omega)
          have h4 := ahead_at h
          omega
def PlacePost (w : World) (l : List Gr) (id : Int) (e : Ending) (w' : World) : Prop := e = .returned (.tuple #[.int .i64 (ahead l id : Int), .bool (BM.there id l)]) ∧ Below w.heap.size w w'
set_option maxHeartbeats 8000000 in
theorem Search_any (v : Value) (l : List Gr) (id : Int) (w : World) (h : HdG w v l) (hr : Rise l) (hid : In64 id) (h6 : l.length ≤ 1000) :
    Calls Try.prog 84 #[v, .int .i64 id, fnV 85] w (PlacePost w l id) := by
  obtain ⟨A, c, rfl, hA, ha, hc, hca⟩ := h
  have HA := Lib.hid hA; clear hA
  have HR := Lib.hid hr; clear hr
  unfold fnV
  go_enter Try.func84, Try.ntmps84
  go_wp2_with fail
  go_loopw [9, 10, 11] (fun i j _ wx => ∃ (p q : Nat), i = .int .i64 (p : Int) ∧ j = .int .i64 (q : Int) ∧ p ≤ ahead l id ∧ ahead l id ≤ q ∧ q ≤ l.length ∧ Hid (Below w.heap.size w wx)) (fun i j _ _ => (intOf j).toNat - (intOf i).toNat)
  case atStart => exact ⟨0, l.length, rfl, rfl, by omega, ahead_le l id, Nat.le_refl _, Lib.hid (Below.refl _ _)⟩
  case round =>
    obtain ⟨p, q, rfl, rfl, hp, hq, hql, HW⟩ := hrel
    by_cases hlt : p < q
    · have hm1 : (p + q) / 2 < l.length := by omega
      have hm2 : p ≤ (p + q) / 2 ∧ (p + q) / 2 < q := by omega
      obtain ⟨m, hm⟩ : ∃ m, m = (p + q) / 2 := ⟨_, rfl⟩
      have HE := Lib.hid (show ((p : Int) + (q : Int)) / 2 = (m : Int) by omega)
      have hml : m < l.length := by omega
      have hmp : p ≤ m := by omega
      have hmq : m < q := by omega
      clear hm1 hm2 hm
      obtain ⟨ba, oa, eA, hza, hca'⟩ := (HA.out.below HW.out) (by omega)
      subst eA
      obtain ⟨Ax, cx, ⟨a0, a1, a2, a3, a4, a5⟩, hfa⟩ := (hca' m l[m] (List.getElem?_eq_getElem hml)).open_
      clear hca' hfa
      have HLM := Lib.hid (List.getElem?_eq_getElem hml)
      generalize l[m] = x at a0 a1 a2 a3 a4 a5 HLM
      go_upto_region 5 with (fail)
      rw [HE.out]
      go_wp2_with fail
      refine (place1_any (.slice Ax x.stamp.length cx) x id _).mono ?_
      rintro e w5 ⟨rfl, hb5⟩
      have HX5 := Lib.hid (below_on HW.out hb5)
      clear hb5 a0 a1 a2 a3 a4 a5
      by_cases hx : x.id < id
      · have HZ := Lib.hid (show cmpI x.id id = -1 by unfold cmpI; rw [if_pos hx])
        have HP := Lib.hid (show m + 1 ≤ ahead l id by
          apply Nat.lt_of_not_le
          intro hle
          exact rise_ge HR.out (by omega) HLM.out hx)
        rw [HZ.out]
        clear hx
        go_wp2_with fail
        go_roundw
        case rel => exact ⟨m + 1, q, rfl, rfl, HP.out, hq, hql, HX5⟩
        case measure => simp only [intOf]; omega
      · obtain ⟨z, hz0, hz⟩ : ∃ z, 0 ≤ z ∧ cmpI x.id id = z := ⟨_, by unfold cmpI; rw [if_neg hx]; split <;> omega, rfl⟩
        have HP := Lib.hid (show ahead l id ≤ m by
          apply Nat.le_of_not_lt
          intro hle
          exact hx (ahead_lt hle HLM.out))
        rw [hz]
        clear hx hz
        go_wp2_with fail
        go_roundw
        case rel => exact ⟨p, m, rfl, rfl, hp, HP.out, by omega, HX5⟩
        case measure => simp only [intOf]; omega
    · have HPE := Lib.hid (show ahead l id = p by omega)
      have HTH := Lib.hid (there_at (l := l) (id := id) HR.out)
      by_cases hpl : p < l.length
      · obtain ⟨ba, oa, eA, hza, hca'⟩ := (HA.out.below HW.out) (by omega)
        subst eA
        obtain ⟨Ax, cx, ⟨a0, a1, a2, a3, a4, a5⟩, hfa⟩ := (hca' p l[p] (List.getElem?_eq_getElem hpl)).open_
        clear hca' hfa
        have HLM := Lib.hid (List.getElem?_eq_getElem hpl)
        generalize l[p] = x at a0 a1 a2 a3 a4 a5 HLM
        have HT2 := Lib.hid (show BM.there id l = decide (x.id = id) by rw [HTH.out, HPE.out, HLM.out])
        go_wp2_with fail
        refine (place1_any (.slice Ax x.stamp.length cx) x id _).mono ?_
        rintro e w5 ⟨rfl, hb5⟩
        have HX5 := Lib.hid (below_on HW.out hb5)
        clear hb5 a0 a1 a2 a3 a4 a5
        have HZ := Lib.hid (show (cmpI x.id id == 0) = decide (x.id = id) by
          rw [Bool.eq_iff_iff]
          unfold cmpI
          simp only [beq_iff_eq, decide_eq_true_eq]
          split
          · omega
          · split <;> omega)
        go_wp2_with fail
        go_ret2
        unfold PlacePost
        rw [HPE.out, HT2.out]
        exact ⟨by rw [HZ.out]; rfl, HX5.out⟩
      · have HT2 := Lib.hid (show BM.there id l = false by rw [HTH.out, HPE.out, List.getElem?_eq_none (by omega)])
        go_wp2_with fail
        go_ret2
        unfold PlacePost
        rw [HPE.out, HT2.out]
        exact ⟨rfl, HW.out⟩
theorem stand_rise {n : Int} : ∀ {l : List Gr} {a : Int}, BM.stand a n l = true → Rise l
  | [], _, _ => by intro i j a b h; simp at h
  | x :: l, a, h => by
    have h' := BM.stand_cons.1 h
    have ih := stand_rise h'.2.2.2
    intro i j p q hi hj hij
    match i, j with
    | i, 0 => omega
    | 0, j + 1 =>
      simp at hi
      rw [List.getElem?_cons_succ] at hj
      subst hi
      exact (BM.stand_ok h'.2.2.2 q (List.mem_of_getElem? hj)).2.1
    | i + 1, j + 1 =>
      rw [List.getElem?_cons_succ] at hi hj
      exact ih i j p q hi hj (by omega)
set_option maxHeartbeats 2000000 in
theorem b_place (v : Value) (b : Bk) (id : Int) (w : World) (h : FitB w v b) (hr : Rise b.gs) (hid : In64 id) (h6 : b.gs.length ≤ 1000) :
    Calls Try.prog 64 #[.agg (four b v), .int .i64 id] w (PlacePost w b.gs id) := by
  have HX := Lib.hid ((Below.refl _ w).alloc (Nat.le_refl _) (.cells (four b v) 45))
  have HB := Lib.hid (h.below HX.out)
  have c3 : (w.alloc (.cells (four b v) 45)).cell? ⟨w.heap.size, 3, none⟩ = some v := (Whole.new w 45 (four b v)).cell 3
  have HQ := Lib.hid (Search_any v b.gs id (w.alloc (.cells (four b v) 45)) HB.out.gs hr hid h6)
  clear h
  unfold fnV at HQ
  go_enter Try.func64, Try.ntmps64
  go_wp2_with fail
  refine HQ.out.mono ?_
  rintro e w5 ⟨rfl, hb⟩
  have HX5 := Lib.hid (below_on HX.out hb)
  clear hb c3
  go_wp2_with fail
  go_ret2
  exact ⟨rfl, HX5.out⟩
set_option maxHeartbeats 2000000 in
theorem b_stands (v : Value) (b : Bk) (id : Int) (w : World) (h : FitB w v b) (hr : Rise b.gs) (hid : In64 id) (h6 : b.gs.length ≤ 1000) :
    Calls Try.prog 83 #[.agg (four b v), .int .i64 id] w fun e w' => e = .returned (.bool (BM.there id b.gs)) ∧ Below w.heap.size w w' := by
  have HX := Lib.hid ((Below.refl _ w).alloc (Nat.le_refl _) (.cells (four b v) 45))
  have HB := Lib.hid (h.below HX.out)
  have HK := Whole.new w 45 (four b v)
  have c0 : (w.alloc (.cells (four b v) 45)).cell? ⟨w.heap.size, 0, none⟩ = some (.int .i64 b.next) := HK.cell 0
  have c1 : (w.alloc (.cells (four b v) 45)).cell? ⟨w.heap.size, 1, none⟩ = some (.int .i64 b.boots) := HK.cell 1
  have c2 : (w.alloc (.cells (four b v) 45)).cell? ⟨w.heap.size, 2, none⟩ = some (.int .i64 b.longest) := HK.cell 2
  have c3 : (w.alloc (.cells (four b v) 45)).cell? ⟨w.heap.size, 3, none⟩ = some v := HK.cell 3
  have HQ := Lib.hid (b_place v b id (w.alloc (.cells (four b v) 45)) HB.out hr hid h6)
  clear h HK
  go_enter Try.func83, Try.ntmps83
  go_wp2_with fail
  refine HQ.out.mono ?_
  rintro e w5 ⟨rfl, hb⟩
  have HX5 := Lib.hid (below_on HX.out hb)
  clear hb c0 c1 c2 c3
  go_wp2_with fail
  go_ret
  exact ⟨rfl, HX5.out⟩
end Go.Proofs.Ytboflkadabagfab
namespace Go.Proofs.Ytboflkadabagfab
open Go.RowKit
open BM (Gr Rc Bk g0 r0 b0)
set_option linter.unusedVariables false
set_option linter.unusedSimpArgs false
set_option maxRecDepth 100000
theorem b_New (w : World) : Calls Try.prog 12 #[] w fun e w' => e = .returned (.agg (four BM.new (.slice none 0 0))) ∧ Below w.heap.size w w' := by
  have HX := Lib.hid ((Below.refl _ w).alloc (Nat.le_refl _) (.cells (four BM.new (.slice none 0 0)) 45))
  go_enter Try.func12, Try.ntmps12
  go_wp2_with fail
  refine bodyPost_ret (v := .agg (four BM.new (.slice none 0 0))) (by simp [results, Try.results12, go_sem, four, BM.new]) rfl ?_
  exact ⟨rfl, HX.out⟩
theorem fitB_new (w : World) : FitB w (.slice none 0 0) BM.new := ⟨HdG.nil, by unfold In64; decide, by unfold In64; decide, by unfold In64; decide⟩
set_option maxHeartbeats 2000000 in
theorem b_isSpent (v : Value) (b : Bk) (k : Int) (w : World) :
    Calls Try.prog 60 #[.agg (four b v), .int .i64 k] w fun e w' => e = .returned (.bool (BM.spent b k)) ∧ Below w.heap.size w w' := by
  have HX := Lib.hid ((Below.refl _ w).alloc (Nat.le_refl _) (.cells (four b v) 45))
  have HK := Whole.new w 45 (four b v)
  have c0 : (w.alloc (.cells (four b v) 45)).cell? ⟨w.heap.size, 0, none⟩ = some (.int .i64 b.next) := HK.cell 0
  have c1 : (w.alloc (.cells (four b v) 45)).cell? ⟨w.heap.size, 1, none⟩ = some (.int .i64 b.boots) := HK.cell 1
  clear HK
  by_cases h4 : k = 4
  · subst h4
    have HE := Lib.hid (show BM.spent b 4 = decide (1099511627776 < b.next) from rfl)
    go_enter Try.func60, Try.ntmps60
    go_wp2_with fail
    go_ret
    exact bools (by first | (rw [HE.out]; done) | (rw [HE.out, Bool.eq_iff_iff]; simp)) HX.out
  by_cases h5 : k = 5
  · subst h5
    have HE := Lib.hid (show BM.spent b 5 = decide (1099511627776 < b.next) from rfl)
    go_enter Try.func60, Try.ntmps60
    go_wp2_with fail
    go_ret
    exact bools (by first | (rw [HE.out]; done) | (rw [HE.out, Bool.eq_iff_iff]; simp)) HX.out
  by_cases h7 : k = 7
  · subst h7
    have HE := Lib.hid (show BM.spent b 7 = decide (b.boots = 1099511627776) from rfl)
    go_enter Try.func60, Try.ntmps60
    go_wp2_with fail
    go_ret
    exact bools (by first | (rw [HE.out]; done) | (rw [HE.out, Bool.eq_iff_iff]; simp)) HX.out
  have d4 : (k == 4) = false := by simpa using h4
  have d5 : (k == 5) = false := by simpa using h5
  have d7 : (k == 7) = false := by simpa using h7
  have HE := Lib.hid (show BM.spent b k = false by unfold BM.spent; rw [if_neg h4, if_neg h5, if_neg h7])
  clear h4 h5 h7
  go_enter Try.func60, Try.ntmps60
  go_wp2_with fail
  go_ret
  exact bools HE.out.symm HX.out
set_option maxHeartbeats 2000000 in
theorem b_isFull (v : Value) (b : Bk) (k : Int) (w : World) (h : HdG w v b.gs) :
    Calls Try.prog 61 #[.agg (four b v), .int .i64 k] w fun e w' => e = .returned (.bool (BM.full b k)) ∧ Below w.heap.size w w' := by
  obtain ⟨A, c, rfl, _⟩ := h
  have HX := Lib.hid ((Below.refl _ w).alloc (Nat.le_refl _) (.cells (four b (.slice A b.gs.length c)) 45))
  have c3 : (w.alloc (.cells (four b (.slice A b.gs.length c)) 45)).cell? ⟨w.heap.size, 3, none⟩ = some (.slice A b.gs.length c) := (Whole.new w 45 (four b (.slice A b.gs.length c))).cell 3
  have hn : (((b.gs.length : Nat) : Int) == 6) = decide (b.gs.length = 6) := by rw [Bool.eq_iff_iff]; simp; omega
  have HN := Lib.hid hn
  clear hn
  by_cases h3 : k = 3
  · subst h3
    have HE := Lib.hid (show BM.full b 3 = decide (b.gs.length = 6) from by simp [BM.full])
    go_enter Try.func61, Try.ntmps61
    go_wp2_with fail
    go_ret
    exact bools (by first | (rw [HE.out, ← HN.out]; done) | (rw [HE.out, ← HN.out]; rfl)) HX.out
  by_cases h4 : k = 4
  · subst h4
    have HE := Lib.hid (show BM.full b 4 = decide (b.gs.length = 6) from by simp [BM.full])
    go_enter Try.func61, Try.ntmps61
    go_wp2_with fail
    go_ret
    exact bools (by first | (rw [HE.out, ← HN.out]; done) | (rw [HE.out, ← HN.out]; rfl)) HX.out
  have d3 : (k == 3) = false := by simpa using h3
  have d4 : (k == 4) = false := by simpa using h4
  have HE := Lib.hid (show BM.full b k = false by unfold BM.full; simp [h3, h4])
  clear h3 h4
  go_enter Try.func61, Try.ntmps61
  go_wp2_with fail
  go_ret
  exact bools HE.out.symm HX.out
end Go.Proofs.Ytboflkadabagfab
namespace Go.Proofs.Ytboflkadabagfab
open Go.RowKit
open BM (Gr Rc Bk g0 r0 b0)
set_option linter.unusedVariables false
set_option linter.unusedSimpArgs false
set_option maxRecDepth 100000
theorem FitB.drew {w : World} {v : Value} {b : Bk} (h : FitB w v b) : FitB w.drew v b := h.below ((Below.refl _ _).drew)
theorem FitR.drew {w : World} {v u : Value} {r : Rc} (h : FitR w v u r) : FitR w.drew v u r := h.below ((Below.refl _ _).drew)
set_option maxHeartbeats 8000000 in
theorem fits_1 (B A A2 : Option Addr) (cb c c2 : Nat) (b : Bk) (r : Rc) (w : World) (hb : FitB w (.slice B b.gs.length cb) b) (hr : FitR w (.slice A r.g.stamp.length c) (.slice A2 r.stamp.length c2) r) (hok : BM.okBk b = true) (hmu : BM.mayUse r = true) (hk : r.kind = 1) :
    Calls Try.prog 62 #[.agg (four b (.slice B b.gs.length cb)), .agg (twelve r (.slice A r.g.stamp.length c) (.slice A2 r.stamp.length c2))] w fun e w' => e = .returned (.bool (BM.fits b r)) ∧ Below w.heap.size w w' := by
  have HX := Lib.hid (((Below.refl _ w).alloc (Nat.le_refl _) (.cells (four b (.slice B b.gs.length cb)) 45)).alloc (by simp) (.cells (twelve r (.slice A r.g.stamp.length c) (.slice A2 r.stamp.length c2)) 28))
  have HB := Lib.hid (hb.below HX.out)
  have HR := Lib.hid (hr.below HX.out)
  have HKB := Lib.hid ((Whole.new w 45 (four b (.slice B b.gs.length cb))).alloc (.cells (twelve r (.slice A r.g.stamp.length c) (.slice A2 r.stamp.length c2)) 28))
  have HKR := Lib.hid (show Whole ((w.alloc (.cells (four b (.slice B b.gs.length cb)) 45)).alloc (.cells (twelve r (.slice A r.g.stamp.length c) (.slice A2 r.stamp.length c2)) 28)) (w.heap.size + 1) 28 (twelve r (.slice A r.g.stamp.length c) (.slice A2 r.stamp.length c2)) from by have h := Whole.new (w.alloc (.cells (four b (.slice B b.gs.length cb)) 45)) 28 (twelve r (.slice A r.g.stamp.length c) (.slice A2 r.stamp.length c2)); have e : (w.alloc (.cells (four b (.slice B b.gs.length cb)) 45)).heap.size = w.heap.size + 1 := (by simp); rw [e] at h; exact h)
  have HRISE := Lib.hid (stand_rise (BM.okBk_parts hok).2.2.2.2)
  have HL6 := Lib.hid (show b.gs.length ≤ 1000 by have := (BM.okBk_parts hok).2.2.2.1; omega)
  clear hb hr hok
  have c0 : ((w.alloc (.cells (four b (.slice B b.gs.length cb)) 45)).alloc (.cells (twelve r (.slice A r.g.stamp.length c) (.slice A2 r.stamp.length c2)) 28)).cell? ⟨w.heap.size + 1, 0, none⟩ = some (.int .i64 1) := by rw [← hk]; exact HKR.out.cell 0
  have HE := Lib.hid (show BM.fits b r = decide (b = BM.new) from by unfold BM.fits; simp [hk])
  clear hk
  have HKBd := Lib.hid (HKB.out.drewN 1)
  have HKRd := Lib.hid (HKR.out.drewN 1)
  have HBd := Lib.hid HB.out.drew
  have HRd := Lib.hid HR.out.drew
  have HXd := Lib.hid HX.out.drew
  have HB9 := Lib.hid (Below.refl ((w.alloc (.cells (four b (.slice B b.gs.length cb)) 45)).alloc (.cells (twelve r (.slice A r.g.stamp.length c) (.slice A2 r.stamp.length c2)) 28)).drew.heap.size ((w.alloc (.cells (four b (.slice B b.gs.length cb)) 45)).alloc (.cells (twelve r (.slice A r.g.stamp.length c) (.slice A2 r.stamp.length c2)) 28)).drew)
  have HS : ((w.alloc (.cells (four b (.slice B b.gs.length cb)) 45)).alloc (.cells (twelve r (.slice A r.g.stamp.length c) (.slice A2 r.stamp.length c2)) 28)).drew.cell? ⟨w.heap.size, 0, none⟩ = some (.int .i64 b.next) ∧ ((w.alloc (.cells (four b (.slice B b.gs.length cb)) 45)).alloc (.cells (twelve r (.slice A r.g.stamp.length c) (.slice A2 r.stamp.length c2)) 28)).drew.cell? ⟨w.heap.size, 1, none⟩ = some (.int .i64 b.boots) ∧ ((w.alloc (.cells (four b (.slice B b.gs.length cb)) 45)).alloc (.cells (twelve r (.slice A r.g.stamp.length c) (.slice A2 r.stamp.length c2)) 28)).drew.cell? ⟨w.heap.size, 2, none⟩ = some (.int .i64 b.longest) ∧ ((w.alloc (.cells (four b (.slice B b.gs.length cb)) 45)).alloc (.cells (twelve r (.slice A r.g.stamp.length c) (.slice A2 r.stamp.length c2)) 28)).drew.cell? ⟨w.heap.size, 3, none⟩ = some (.slice B b.gs.length cb) := ⟨HKBd.out.cell 0, HKBd.out.cell 1, HKBd.out.cell 2, HKBd.out.cell 3⟩
  have HUP := Lib.hid (fun (w5 : World) (hb : Below ((w.alloc (.cells (four b (.slice B b.gs.length cb)) 45)).alloc (.cells (twelve r (.slice A r.g.stamp.length c) (.slice A2 r.stamp.length c2)) 28)).drew.heap.size ((w.alloc (.cells (four b (.slice B b.gs.length cb)) 45)).alloc (.cells (twelve r (.slice A r.g.stamp.length c) (.slice A2 r.stamp.length c2)) 28)).drew w5) => (show w5.cell? ⟨w.heap.size, 0, none⟩ = some (.int .i64 b.next) ∧ w5.cell? ⟨w.heap.size, 1, none⟩ = some (.int .i64 b.boots) ∧ w5.cell? ⟨w.heap.size, 2, none⟩ = some (.int .i64 b.longest) ∧ w5.cell? ⟨w.heap.size, 3, none⟩ = some (.slice B b.gs.length cb) from ⟨((Mod.of_below hb []).whole HKBd.out (by simp)).cell 0, ((Mod.of_below hb []).whole HKBd.out (by simp)).cell 1, ((Mod.of_below hb []).whole HKBd.out (by simp)).cell 2, ((Mod.of_below hb []).whole HKBd.out (by simp)).cell 3⟩))
  go_enter Try.func62, Try.ntmps62
  go_wp2_with fail
  clear c0
  go_region_held3 (fun w2 : World => w2.cell? ⟨w.heap.size, 0, none⟩ = some (.int .i64 b.next) ∧ w2.cell? ⟨w.heap.size, 1, none⟩ = some (.int .i64 b.boots) ∧ w2.cell? ⟨w.heap.size, 2, none⟩ = some (.int .i64 b.longest) ∧ w2.cell? ⟨w.heap.size, 3, none⟩ = some (.slice B b.gs.length cb))
    (first | exact HS | (go_keep; done))
    (first | (go_at_call 12; refine (b_New _).mono ?_; rintro x w5 ⟨rfl, hb⟩; replace HB9 := Lib.hid (HB9.out.trans (hb.mono HB9.out.size)); clear hb; replace HS := HUP.out _ HB9.out) | (go_at_call 15; refine (b_Same _ _ b BM.new _ (HBd.out.below HB9.out) (fitB_new _)).mono ?_; rintro x w5 ⟨rfl, hb⟩; replace HB9 := Lib.hid (HB9.out.trans (hb.mono HB9.out.size)); clear hb; replace HS := HUP.out _ HB9.out))
  all_goals
    go_wp2_with fail
    go_ret
    exact bools HE.out.symm (HXd.out.trans (HB9.out.mono HXd.out.size))
set_option maxHeartbeats 8000000 in
theorem fits_2 (B A A2 : Option Addr) (cb c c2 : Nat) (b : Bk) (r : Rc) (w : World) (hb : FitB w (.slice B b.gs.length cb) b) (hr : FitR w (.slice A r.g.stamp.length c) (.slice A2 r.stamp.length c2) r) (hok : BM.okBk b = true) (hmu : BM.mayUse r = true) (hk : r.kind = 2) :
    Calls Try.prog 62 #[.agg (four b (.slice B b.gs.length cb)), .agg (twelve r (.slice A r.g.stamp.length c) (.slice A2 r.stamp.length c2))] w fun e w' => e = .returned (.bool (BM.fits b r)) ∧ Below w.heap.size w w' := by
  have HX := Lib.hid (((Below.refl _ w).alloc (Nat.le_refl _) (.cells (four b (.slice B b.gs.length cb)) 45)).alloc (by simp) (.cells (twelve r (.slice A r.g.stamp.length c) (.slice A2 r.stamp.length c2)) 28))
  have HB := Lib.hid (hb.below HX.out)
  have HR := Lib.hid (hr.below HX.out)
  have HKB := Lib.hid ((Whole.new w 45 (four b (.slice B b.gs.length cb))).alloc (.cells (twelve r (.slice A r.g.stamp.length c) (.slice A2 r.stamp.length c2)) 28))
  have HKR := Lib.hid (show Whole ((w.alloc (.cells (four b (.slice B b.gs.length cb)) 45)).alloc (.cells (twelve r (.slice A r.g.stamp.length c) (.slice A2 r.stamp.length c2)) 28)) (w.heap.size + 1) 28 (twelve r (.slice A r.g.stamp.length c) (.slice A2 r.stamp.length c2)) from by have h := Whole.new (w.alloc (.cells (four b (.slice B b.gs.length cb)) 45)) 28 (twelve r (.slice A r.g.stamp.length c) (.slice A2 r.stamp.length c2)); have e : (w.alloc (.cells (four b (.slice B b.gs.length cb)) 45)).heap.size = w.heap.size + 1 := (by simp); rw [e] at h; exact h)
  have HRISE := Lib.hid (stand_rise (BM.okBk_parts hok).2.2.2.2)
  have HL6 := Lib.hid (show b.gs.length ≤ 1000 by have := (BM.okBk_parts hok).2.2.2.1; omega)
  clear hb hr hok
  have c0 : ((w.alloc (.cells (four b (.slice B b.gs.length cb)) 45)).alloc (.cells (twelve r (.slice A r.g.stamp.length c) (.slice A2 r.stamp.length c2)) 28)).cell? ⟨w.heap.size + 1, 0, none⟩ = some (.int .i64 2) := by rw [← hk]; exact HKR.out.cell 0
  have HE := Lib.hid (show BM.fits b r = decide (b.longest < r.longest) from by unfold BM.fits; simp [hk])
  clear hk
  have b2 : ((w.alloc (.cells (four b (.slice B b.gs.length cb)) 45)).alloc (.cells (twelve r (.slice A r.g.stamp.length c) (.slice A2 r.stamp.length c2)) 28)).cell? ⟨w.heap.size, 2, none⟩ = some (.int .i64 b.longest) := HKB.out.cell 2
  have c11 : ((w.alloc (.cells (four b (.slice B b.gs.length cb)) 45)).alloc (.cells (twelve r (.slice A r.g.stamp.length c) (.slice A2 r.stamp.length c2)) 28)).cell? ⟨w.heap.size + 1, 11, none⟩ = some (.int .i64 r.longest) := HKR.out.cell 11
  go_enter Try.func62, Try.ntmps62
  go_wp2_with fail
  go_ret
  exact bools HE.out.symm HX.out
set_option maxHeartbeats 8000000 in
theorem fits_3 (B A A2 : Option Addr) (cb c c2 : Nat) (b : Bk) (r : Rc) (w : World) (hb : FitB w (.slice B b.gs.length cb) b) (hr : FitR w (.slice A r.g.stamp.length c) (.slice A2 r.stamp.length c2) r) (hok : BM.okBk b = true) (hmu : BM.mayUse r = true) (hk : r.kind = 3) :
    Calls Try.prog 62 #[.agg (four b (.slice B b.gs.length cb)), .agg (twelve r (.slice A r.g.stamp.length c) (.slice A2 r.stamp.length c2))] w fun e w' => e = .returned (.bool (BM.fits b r)) ∧ Below w.heap.size w w' := by
  have HX := Lib.hid (((Below.refl _ w).alloc (Nat.le_refl _) (.cells (four b (.slice B b.gs.length cb)) 45)).alloc (by simp) (.cells (twelve r (.slice A r.g.stamp.length c) (.slice A2 r.stamp.length c2)) 28))
  have HB := Lib.hid (hb.below HX.out)
  have HR := Lib.hid (hr.below HX.out)
  have HKB := Lib.hid ((Whole.new w 45 (four b (.slice B b.gs.length cb))).alloc (.cells (twelve r (.slice A r.g.stamp.length c) (.slice A2 r.stamp.length c2)) 28))
  have HKR := Lib.hid (show Whole ((w.alloc (.cells (four b (.slice B b.gs.length cb)) 45)).alloc (.cells (twelve r (.slice A r.g.stamp.length c) (.slice A2 r.stamp.length c2)) 28)) (w.heap.size + 1) 28 (twelve r (.slice A r.g.stamp.length c) (.slice A2 r.stamp.length c2)) from by have h := Whole.new (w.alloc (.cells (four b (.slice B b.gs.length cb)) 45)) 28 (twelve r (.slice A r.g.stamp.length c) (.slice A2 r.stamp.length c2)); have e : (w.alloc (.cells (four b (.slice B b.gs.length cb)) 45)).heap.size = w.heap.size + 1 := (by simp); rw [e] at h; exact h)
  have HRISE := Lib.hid (stand_rise (BM.okBk_parts hok).2.2.2.2)
  have HL6 := Lib.hid (show b.gs.length ≤ 1000 by have := (BM.okBk_parts hok).2.2.2.1; omega)
  clear hb hr hok
  have c0 : ((w.alloc (.cells (four b (.slice B b.gs.length cb)) 45)).alloc (.cells (twelve r (.slice A r.g.stamp.length c) (.slice A2 r.stamp.length c2)) 28)).cell? ⟨w.heap.size + 1, 0, none⟩ = some (.int .i64 3) := by rw [← hk]; exact HKR.out.cell 0
  have HNE := Lib.hid (show r.g.stamp ≠ [] from (BM.stamp_parts (BM.okGr_parts (by have h2 := hmu; unfold BM.mayUse at h2; simpa [hk] using h2)).2.2.2.2.1).1)
  have HE := Lib.hid (show BM.fits b r = (!BM.there r.g.id b.gs && decide (BM.last r.g.stamp < b.next)) from by unfold BM.fits; simp [hk])
  clear hk
  have HKBd := Lib.hid (HKB.out.drewN 1)
  have HKRd := Lib.hid (HKR.out.drewN 1)
  have HBd := Lib.hid HB.out.drew
  have HRd := Lib.hid HR.out.drew
  have HXd := Lib.hid HX.out.drew
  have HB9 := Lib.hid (Below.refl ((w.alloc (.cells (four b (.slice B b.gs.length cb)) 45)).alloc (.cells (twelve r (.slice A r.g.stamp.length c) (.slice A2 r.stamp.length c2)) 28)).drew.heap.size ((w.alloc (.cells (four b (.slice B b.gs.length cb)) 45)).alloc (.cells (twelve r (.slice A r.g.stamp.length c) (.slice A2 r.stamp.length c2)) 28)).drew)
  have HS : ((w.alloc (.cells (four b (.slice B b.gs.length cb)) 45)).alloc (.cells (twelve r (.slice A r.g.stamp.length c) (.slice A2 r.stamp.length c2)) 28)).drew.cell? ⟨w.heap.size, 0, none⟩ = some (.int .i64 b.next) ∧ ((w.alloc (.cells (four b (.slice B b.gs.length cb)) 45)).alloc (.cells (twelve r (.slice A r.g.stamp.length c) (.slice A2 r.stamp.length c2)) 28)).drew.cell? ⟨w.heap.size, 1, none⟩ = some (.int .i64 b.boots) ∧ ((w.alloc (.cells (four b (.slice B b.gs.length cb)) 45)).alloc (.cells (twelve r (.slice A r.g.stamp.length c) (.slice A2 r.stamp.length c2)) 28)).drew.cell? ⟨w.heap.size, 2, none⟩ = some (.int .i64 b.longest) ∧ ((w.alloc (.cells (four b (.slice B b.gs.length cb)) 45)).alloc (.cells (twelve r (.slice A r.g.stamp.length c) (.slice A2 r.stamp.length c2)) 28)).drew.cell? ⟨w.heap.size, 3, none⟩ = some (.slice B b.gs.length cb) ∧ ((w.alloc (.cells (four b (.slice B b.gs.length cb)) 45)).alloc (.cells (twelve r (.slice A r.g.stamp.length c) (.slice A2 r.stamp.length c2)) 28)).drew.cell? ⟨w.heap.size + 1, 1, none⟩ = some (.int .i64 r.g.id) ∧ ((w.alloc (.cells (four b (.slice B b.gs.length cb)) 45)).alloc (.cells (twelve r (.slice A r.g.stamp.length c) (.slice A2 r.stamp.length c2)) 28)).drew.cell? ⟨w.heap.size + 1, 5, none⟩ = some (.slice A r.g.stamp.length c) := ⟨HKBd.out.cell 0, HKBd.out.cell 1, HKBd.out.cell 2, HKBd.out.cell 3, HKRd.out.cell 1, HKRd.out.cell 5⟩
  have HUP := Lib.hid (fun (w5 : World) (hb : Below ((w.alloc (.cells (four b (.slice B b.gs.length cb)) 45)).alloc (.cells (twelve r (.slice A r.g.stamp.length c) (.slice A2 r.stamp.length c2)) 28)).drew.heap.size ((w.alloc (.cells (four b (.slice B b.gs.length cb)) 45)).alloc (.cells (twelve r (.slice A r.g.stamp.length c) (.slice A2 r.stamp.length c2)) 28)).drew w5) => (show w5.cell? ⟨w.heap.size, 0, none⟩ = some (.int .i64 b.next) ∧ w5.cell? ⟨w.heap.size, 1, none⟩ = some (.int .i64 b.boots) ∧ w5.cell? ⟨w.heap.size, 2, none⟩ = some (.int .i64 b.longest) ∧ w5.cell? ⟨w.heap.size, 3, none⟩ = some (.slice B b.gs.length cb) ∧ w5.cell? ⟨w.heap.size + 1, 1, none⟩ = some (.int .i64 r.g.id) ∧ w5.cell? ⟨w.heap.size + 1, 5, none⟩ = some (.slice A r.g.stamp.length c) from ⟨((Mod.of_below hb []).whole HKBd.out (by simp)).cell 0, ((Mod.of_below hb []).whole HKBd.out (by simp)).cell 1, ((Mod.of_below hb []).whole HKBd.out (by simp)).cell 2, ((Mod.of_below hb []).whole HKBd.out (by simp)).cell 3, ((Mod.of_below hb []).whole HKRd.out (by simp)).cell 1, ((Mod.of_below hb []).whole HKRd.out (by simp)).cell 5⟩))
  have QS := Lib.hid (fun w' (hb : Below ((w.alloc (.cells (four b (.slice B b.gs.length cb)) 45)).alloc (.cells (twelve r (.slice A r.g.stamp.length c) (.slice A2 r.stamp.length c2)) 28)).drew.heap.size ((w.alloc (.cells (four b (.slice B b.gs.length cb)) 45)).alloc (.cells (twelve r (.slice A r.g.stamp.length c) (.slice A2 r.stamp.length c2)) 28)).drew w') => b_stands _ b r.g.id w' (HBd.out.below hb) HRISE.out HR.out.g.wide.id HL6.out)
  cases hth : BM.there r.g.id b.gs with
  | true =>
    rw [hth] at HE QS
    clear hth
    go_enter Try.func62, Try.ntmps62
    go_wp2_with fail
    clear c0
    refine wp_region_noPanic ?_
    refine wp_region_held_drew (S := fun w2 : World => w2.cell? ⟨w.heap.size, 0, none⟩ = some (.int .i64 b.next) ∧ w2.cell? ⟨w.heap.size, 1, none⟩ = some (.int .i64 b.boots) ∧ w2.cell? ⟨w.heap.size, 2, none⟩ = some (.int .i64 b.longest) ∧ w2.cell? ⟨w.heap.size, 3, none⟩ = some (.slice B b.gs.length cb) ∧ w2.cell? ⟨w.heap.size + 1, 1, none⟩ = some (.int .i64 r.g.id) ∧ w2.cell? ⟨w.heap.size + 1, 5, none⟩ = some (.slice A r.g.stamp.length c)) (by kernel_rfl) (HS) (fun hHeld => ?_)
    refine wpAnyH_take (i := 0) (oi := { dst := some 21, op := Op.load 45 (Operand.tmp 2), type := 45, pos := _, after := #[], guard := none }) (v := ?_) rfl (by kernel_rfl) (by kernel_rfl) (by kernel_rfl) (fun _ _ _ h => h) (Or.inl ⟨by rfl, ?_⟩) hHeld ?_
    rotate_left
    · (intro w hSw; (try dsimp only at hSw); first | (go_simp; done) | (go_simp; with_reducible rfl))
    try simp only [Act.put, List.setIfInBounds_toArray, List.set_cons_zero, List.set_cons_succ]
    refine wpAnyH_take (i := 1) (oi := { dst := some 22, op := Op.fieldAddr 28 (Operand.tmp 3) 1, type := 0, pos := _, after := #[], guard := none }) (v := ?_) rfl (by kernel_rfl) (by kernel_rfl) (by kernel_rfl) (fun _ _ _ h => h) (Or.inl ⟨by rfl, ?_⟩) hHeld ?_
    rotate_left
    · (intro w hSw; (try dsimp only at hSw); first | (go_simp; done) | (go_simp; with_reducible rfl))
    try simp only [Act.put, List.setIfInBounds_toArray, List.set_cons_zero, List.set_cons_succ]
    refine wpAnyH_take (i := 2) (oi := { dst := some 23, op := Op.fieldAddr 26 (Operand.tmp 22) 0, type := 0, pos := _, after := #[{ on := 1, ground := Ground.data }], guard := none }) (v := ?_) rfl (by kernel_rfl) (by kernel_rfl) (by kernel_rfl) (fun _ _ _ h => h) (Or.inl ⟨by rfl, ?_⟩) hHeld ?_
    rotate_left
    · (intro w hSw; (try dsimp only at hSw); first | (go_simp; done) | (go_simp; with_reducible rfl))
    try simp only [Act.put, List.setIfInBounds_toArray, List.set_cons_zero, List.set_cons_succ]
    refine wpAnyH_take (i := 3) (oi := { dst := some 24, op := Op.load 3 (Operand.tmp 23), type := 3, pos := _, after := #[{ on := 2, ground := Ground.data }], guard := none }) (v := ?_) rfl (by kernel_rfl) (by kernel_rfl) (by kernel_rfl) (fun _ _ _ h => h) (Or.inl ⟨by rfl, ?_⟩) hHeld ?_
    rotate_left
    · (intro w hSw; (try dsimp only at hSw); first | (go_simp; done) | (go_simp; with_reducible rfl))
    try simp only [Act.put, List.setIfInBounds_toArray, List.set_cons_zero, List.set_cons_succ]
    refine wpAnyH_ready (rs := [4]) (by kernel_rfl) (by simp) (AllReadyH.cons (o := { dst := some 25, op := Op.call { callee := Callee.value (Operand.func 83), args := #[Operand.tmp 21, Operand.tmp 24], argTypes := #[45, 3] }, type := 4, pos := _, after := #[{ on := 0, ground := Ground.data }, { on := 3, ground := Ground.data }], guard := none }) rfl (fun K hK => ?_) AllReadyH.nil)
    go_simp
    refine (QS.out _ HB9.out).mono ?_
    rintro x w5 ⟨rfl, hb⟩
    replace HB9 := Lib.hid (HB9.out.trans (hb.mono HB9.out.size))
    clear hb HS
    have HS := HUP.out _ HB9.out
    go_simp
    refine hK.out _ _ (HS) (fun hHeld => ?_)
    clear hK K
    try simp only [Act.put, List.setIfInBounds_toArray, List.set_cons_zero, List.set_cons_succ]
    refine wpAnyH_take (i := 5) (oi := { dst := some 26, op := Op.unOp UnOp.not 4 (Operand.tmp 25), type := 4, pos := _, after := #[{ on := 4, ground := Ground.data }], guard := none }) (v := ?_) rfl (by kernel_rfl) (by kernel_rfl) (by kernel_rfl) (fun _ _ _ h => h) (Or.inl ⟨by rfl, ?_⟩) hHeld ?_
    rotate_left
    · (intro w hSw; (try dsimp only at hSw); first | (go_simp; done) | (go_simp; with_reducible rfl))
    try simp only [Act.put, List.setIfInBounds_toArray, List.set_cons_zero, List.set_cons_succ]
    refine wpAnyH_take (i := 6) (oi := { dst := some 27, op := Op.move (Operand.tmp 26), type := 4, pos := _, after := #[{ on := 5, ground := Ground.data }, { on := 4, ground := Ground.chain }], guard := none }) (v := ?_) rfl (by kernel_rfl) (by kernel_rfl) (by kernel_rfl) (fun _ _ _ h => h) (Or.inl ⟨by rfl, ?_⟩) hHeld ?_
    rotate_left
    · (intro w hSw; (try dsimp only at hSw); first | (go_simp; done) | (go_simp; with_reducible rfl))
    try simp only [Act.put, List.setIfInBounds_toArray, List.set_cons_zero, List.set_cons_succ]
    refine wpAnyH_take (i := 7) (oi := { dst := some 28, op := Op.fieldAddr 28 (Operand.tmp 3) 1, type := 0, pos := _, after := #[{ on := 6, ground := Ground.guard }], guard := some (6, true) }) (v := undef) rfl (by kernel_rfl) (by kernel_rfl) (by kernel_rfl) (fun _ _ _ h => h) (Or.inr ⟨by rfl, rfl⟩) hHeld ?_
    try simp only [Act.put, List.setIfInBounds_toArray, List.set_cons_zero, List.set_cons_succ]
    refine wpAnyH_take (i := 8) (oi := { dst := some 29, op := Op.fieldAddr 26 (Operand.tmp 28) 4, type := 0, pos := _, after := #[{ on := 7, ground := Ground.data }, { on := 6, ground := Ground.guard }], guard := some (6, true) }) (v := undef) rfl (by kernel_rfl) (by kernel_rfl) (by kernel_rfl) (fun _ _ _ h => h) (Or.inr ⟨by rfl, rfl⟩) hHeld ?_
    try simp only [Act.put, List.setIfInBounds_toArray, List.set_cons_zero, List.set_cons_succ]
    refine wpAnyH_take (i := 9) (oi := { dst := some 30, op := Op.load 24 (Operand.tmp 29), type := 24, pos := _, after := #[{ on := 8, ground := Ground.data }, { on := 6, ground := Ground.guard }], guard := some (6, true) }) (v := undef) rfl (by kernel_rfl) (by kernel_rfl) (by kernel_rfl) (fun _ _ _ h => h) (Or.inr ⟨by rfl, rfl⟩) hHeld ?_
    try simp only [Act.put, List.setIfInBounds_toArray, List.set_cons_zero, List.set_cons_succ]
    refine wpAnyH_take (i := 10) (oi := { dst := some 31, op := Op.call { callee := Callee.value (Operand.func 70), args := #[Operand.tmp 30], argTypes := #[24] }, type := 3, pos := _, after := #[{ on := 9, ground := Ground.data }, { on := 6, ground := Ground.chain }, { on := 6, ground := Ground.guard }], guard := some (6, true) }) (v := undef) rfl (by kernel_rfl) (by kernel_rfl) (by kernel_rfl) (fun _ _ _ h => h) (Or.inr ⟨by rfl, rfl⟩) hHeld ?_
    try simp only [Act.put, List.setIfInBounds_toArray, List.set_cons_zero, List.set_cons_succ]
    refine wpAnyH_take (i := 11) (oi := { dst := some 32, op := Op.fieldAddr 45 (Operand.tmp 2) 0, type := 0, pos := _, after := #[{ on := 6, ground := Ground.guard }], guard := some (6, true) }) (v := undef) rfl (by kernel_rfl) (by kernel_rfl) (by kernel_rfl) (fun _ _ _ h => h) (Or.inr ⟨by rfl, rfl⟩) hHeld ?_
    try simp only [Act.put, List.setIfInBounds_toArray, List.set_cons_zero, List.set_cons_succ]
    refine wpAnyH_take (i := 12) (oi := { dst := some 33, op := Op.load 3 (Operand.tmp 32), type := 3, pos := _, after := #[{ on := 11, ground := Ground.data }, { on := 6, ground := Ground.guard }], guard := some (6, true) }) (v := undef) rfl (by kernel_rfl) (by kernel_rfl) (by kernel_rfl) (fun _ _ _ h => h) (Or.inr ⟨by rfl, rfl⟩) hHeld ?_
    try simp only [Act.put, List.setIfInBounds_toArray, List.set_cons_zero, List.set_cons_succ]
    refine wpAnyH_take (i := 13) (oi := { dst := some 34, op := Op.binOp BinOp.lss 3 (Operand.tmp 31) (Operand.tmp 33) 3, type := 4, pos := _, after := #[{ on := 10, ground := Ground.data }, { on := 12, ground := Ground.data }, { on := 6, ground := Ground.guard }], guard := some (6, true) }) (v := undef) rfl (by kernel_rfl) (by kernel_rfl) (by kernel_rfl) (fun _ _ _ h => h) (Or.inr ⟨by rfl, rfl⟩) hHeld ?_
    try simp only [Act.put, List.setIfInBounds_toArray, List.set_cons_zero, List.set_cons_succ]
    refine wpAnyH_take (i := 14) (oi := { dst := some 35, op := Op.pick (Operand.tmp 27) (Operand.tmp 34) (Operand.const (Value.bool false)), type := 4, pos := _, after := #[{ on := 6, ground := Ground.data }, { on := 13, ground := Ground.data }], guard := none }) (v := ?_) rfl (by kernel_rfl) (by kernel_rfl) (by kernel_rfl) (fun _ _ _ h => h) (Or.inl ⟨by rfl, ?_⟩) hHeld ?_
    rotate_left
    · (intro w hSw; (try dsimp only at hSw); first | (go_simp; done) | (go_simp; with_reducible rfl))
    try simp only [Act.put, List.setIfInBounds_toArray, List.set_cons_zero, List.set_cons_succ]
    refine wpAnyH_take (i := 15) (oi := { dst := some 4, op := Op.assign (Operand.tmp 35), type := 4, pos := _, after := #[{ on := 14, ground := Ground.data }, { on := 10, ground := Ground.chain }, { on := 0, ground := Ground.phase }, { on := 1, ground := Ground.phase }, { on := 2, ground := Ground.phase }, { on := 3, ground := Ground.phase }, { on := 4, ground := Ground.phase }, { on := 5, ground := Ground.phase }, { on := 6, ground := Ground.phase }, { on := 7, ground := Ground.phase }, { on := 8, ground := Ground.phase }, { on := 9, ground := Ground.phase }, { on := 10, ground := Ground.phase }, { on := 11, ground := Ground.phase }, { on := 12, ground := Ground.phase }, { on := 13, ground := Ground.phase }, { on := 14, ground := Ground.phase }], guard := none }) (v := ?_) rfl (by kernel_rfl) (by kernel_rfl) (by kernel_rfl) (fun _ _ _ h => h) (Or.inl ⟨by rfl, ?_⟩) hHeld ?_
    rotate_left
    · (intro w hSw; (try dsimp only at hSw); first | (go_simp; done) | (go_simp; with_reducible rfl))
    try simp only [Act.put, List.setIfInBounds_toArray, List.set_cons_zero, List.set_cons_succ]
    refine wpAnyH_done (by kernel_rfl) ?_ _
    refine NoPanic.normal ?_
    go_wp2_with fail
    go_ret
    exact bools HE.out.symm (HXd.out.trans (HB9.out.mono HXd.out.size))
  | false =>
    rw [hth] at HE QS
    clear hth
    have d9 : decide (BM.last r.g.stamp < b.next) = decide (BM.last r.g.stamp < b.next) := rfl
    clear d9
    go_enter Try.func62, Try.ntmps62
    go_wp2_with fail
    clear c0
    go_region_held3 (fun w2 : World => w2.cell? ⟨w.heap.size, 0, none⟩ = some (.int .i64 b.next) ∧ w2.cell? ⟨w.heap.size, 1, none⟩ = some (.int .i64 b.boots) ∧ w2.cell? ⟨w.heap.size, 2, none⟩ = some (.int .i64 b.longest) ∧ w2.cell? ⟨w.heap.size, 3, none⟩ = some (.slice B b.gs.length cb) ∧ w2.cell? ⟨w.heap.size + 1, 1, none⟩ = some (.int .i64 r.g.id) ∧ w2.cell? ⟨w.heap.size + 1, 5, none⟩ = some (.slice A r.g.stamp.length c))
      (first | exact HS | (go_keep; done))
      (first | (go_at_call 83; refine (QS.out _ HB9.out).mono ?_; rintro x w5 ⟨rfl, hb⟩; replace HB9 := Lib.hid (HB9.out.trans (hb.mono HB9.out.size)); clear hb; replace HS := HUP.out _ HB9.out) | (go_at_call 70; refine (b_last _ r.g.stamp _ (HRd.out.below HB9.out).g.hd HNE.out).mono ?_; rintro x w5 ⟨rfl, rfl⟩))
    all_goals
      go_wp2_with fail
      go_ret
      exact bools (by rw [HE.out]; rfl) (HXd.out.trans (HB9.out.mono HXd.out.size))
set_option maxHeartbeats 8000000 in
theorem fits_4 (B A A2 : Option Addr) (cb c c2 : Nat) (b : Bk) (r : Rc) (w : World) (hb : FitB w (.slice B b.gs.length cb) b) (hr : FitR w (.slice A r.g.stamp.length c) (.slice A2 r.stamp.length c2) r) (hok : BM.okBk b = true) (hmu : BM.mayUse r = true) (hk : r.kind = 4) :
    Calls Try.prog 62 #[.agg (four b (.slice B b.gs.length cb)), .agg (twelve r (.slice A r.g.stamp.length c) (.slice A2 r.stamp.length c2))] w fun e w' => e = .returned (.bool (BM.fits b r)) ∧ Below w.heap.size w w' := by
  have HX := Lib.hid (((Below.refl _ w).alloc (Nat.le_refl _) (.cells (four b (.slice B b.gs.length cb)) 45)).alloc (by simp) (.cells (twelve r (.slice A r.g.stamp.length c) (.slice A2 r.stamp.length c2)) 28))
  have HB := Lib.hid (hb.below HX.out)
  have HR := Lib.hid (hr.below HX.out)
  have HKB := Lib.hid ((Whole.new w 45 (four b (.slice B b.gs.length cb))).alloc (.cells (twelve r (.slice A r.g.stamp.length c) (.slice A2 r.stamp.length c2)) 28))
  have HKR := Lib.hid (show Whole ((w.alloc (.cells (four b (.slice B b.gs.length cb)) 45)).alloc (.cells (twelve r (.slice A r.g.stamp.length c) (.slice A2 r.stamp.length c2)) 28)) (w.heap.size + 1) 28 (twelve r (.slice A r.g.stamp.length c) (.slice A2 r.stamp.length c2)) from by have h := Whole.new (w.alloc (.cells (four b (.slice B b.gs.length cb)) 45)) 28 (twelve r (.slice A r.g.stamp.length c) (.slice A2 r.stamp.length c2)); have e : (w.alloc (.cells (four b (.slice B b.gs.length cb)) 45)).heap.size = w.heap.size + 1 := (by simp); rw [e] at h; exact h)
  have HRISE := Lib.hid (stand_rise (BM.okBk_parts hok).2.2.2.2)
  have HL6 := Lib.hid (show b.gs.length ≤ 1000 by have := (BM.okBk_parts hok).2.2.2.1; omega)
  clear hb hr hok
  have c0 : ((w.alloc (.cells (four b (.slice B b.gs.length cb)) 45)).alloc (.cells (twelve r (.slice A r.g.stamp.length c) (.slice A2 r.stamp.length c2)) 28)).cell? ⟨w.heap.size + 1, 0, none⟩ = some (.int .i64 4) := by rw [← hk]; exact HKR.out.cell 0
  have HE := Lib.hid (show BM.fits b r = decide (r.g.id = b.next) from by unfold BM.fits; simp [hk])
  clear hk
  have b0 : ((w.alloc (.cells (four b (.slice B b.gs.length cb)) 45)).alloc (.cells (twelve r (.slice A r.g.stamp.length c) (.slice A2 r.stamp.length c2)) 28)).cell? ⟨w.heap.size, 0, none⟩ = some (.int .i64 b.next) := HKB.out.cell 0
  have c1 : ((w.alloc (.cells (four b (.slice B b.gs.length cb)) 45)).alloc (.cells (twelve r (.slice A r.g.stamp.length c) (.slice A2 r.stamp.length c2)) 28)).cell? ⟨w.heap.size + 1, 1, none⟩ = some (.int .i64 r.g.id) := HKR.out.cell 1
  have hq : (r.g.id == b.next) = decide (r.g.id = b.next) := by rw [Bool.eq_iff_iff]; simp
  have HQ := Lib.hid hq
  clear hq
  go_enter Try.func62, Try.ntmps62
  go_wp2_with fail
  go_ret
  exact bools (by rw [HE.out, ← HQ.out]) HX.out
set_option maxHeartbeats 8000000 in
theorem fits_5 (B A A2 : Option Addr) (cb c c2 : Nat) (b : Bk) (r : Rc) (w : World) (hb : FitB w (.slice B b.gs.length cb) b) (hr : FitR w (.slice A r.g.stamp.length c) (.slice A2 r.stamp.length c2) r) (hok : BM.okBk b = true) (hmu : BM.mayUse r = true) (hk : r.kind = 5) :
    Calls Try.prog 62 #[.agg (four b (.slice B b.gs.length cb)), .agg (twelve r (.slice A r.g.stamp.length c) (.slice A2 r.stamp.length c2))] w fun e w' => e = .returned (.bool (BM.fits b r)) ∧ Below w.heap.size w w' := by
  have HX := Lib.hid (((Below.refl _ w).alloc (Nat.le_refl _) (.cells (four b (.slice B b.gs.length cb)) 45)).alloc (by simp) (.cells (twelve r (.slice A r.g.stamp.length c) (.slice A2 r.stamp.length c2)) 28))
  have HB := Lib.hid (hb.below HX.out)
  have HR := Lib.hid (hr.below HX.out)
  have HKB := Lib.hid ((Whole.new w 45 (four b (.slice B b.gs.length cb))).alloc (.cells (twelve r (.slice A r.g.stamp.length c) (.slice A2 r.stamp.length c2)) 28))
  have HKR := Lib.hid (show Whole ((w.alloc (.cells (four b (.slice B b.gs.length cb)) 45)).alloc (.cells (twelve r (.slice A r.g.stamp.length c) (.slice A2 r.stamp.length c2)) 28)) (w.heap.size + 1) 28 (twelve r (.slice A r.g.stamp.length c) (.slice A2 r.stamp.length c2)) from by have h := Whole.new (w.alloc (.cells (four b (.slice B b.gs.length cb)) 45)) 28 (twelve r (.slice A r.g.stamp.length c) (.slice A2 r.stamp.length c2)); have e : (w.alloc (.cells (four b (.slice B b.gs.length cb)) 45)).heap.size = w.heap.size + 1 := (by simp); rw [e] at h; exact h)
  have HRISE := Lib.hid (stand_rise (BM.okBk_parts hok).2.2.2.2)
  have HL6 := Lib.hid (show b.gs.length ≤ 1000 by have := (BM.okBk_parts hok).2.2.2.1; omega)
  clear hb hr hok
  have c0 : ((w.alloc (.cells (four b (.slice B b.gs.length cb)) 45)).alloc (.cells (twelve r (.slice A r.g.stamp.length c) (.slice A2 r.stamp.length c2)) 28)).cell? ⟨w.heap.size + 1, 0, none⟩ = some (.int .i64 5) := by rw [← hk]; exact HKR.out.cell 0
  have HNE := Lib.hid (show r.stamp ≠ [] from (BM.stamp_parts (by have h2 := hmu; unfold BM.mayUse at h2; simp [hk] at h2; exact h2.2)).1)
  have HE := Lib.hid (show BM.fits b r = (BM.there r.id b.gs && decide (BM.last r.stamp = b.next)) from by unfold BM.fits; simp [hk])
  clear hk
  have HKBd := Lib.hid (HKB.out.drewN 1)
  have HKRd := Lib.hid (HKR.out.drewN 1)
  have HBd := Lib.hid HB.out.drew
  have HRd := Lib.hid HR.out.drew
  have HXd := Lib.hid HX.out.drew
  have HB9 := Lib.hid (Below.refl ((w.alloc (.cells (four b (.slice B b.gs.length cb)) 45)).alloc (.cells (twelve r (.slice A r.g.stamp.length c) (.slice A2 r.stamp.length c2)) 28)).drew.heap.size ((w.alloc (.cells (four b (.slice B b.gs.length cb)) 45)).alloc (.cells (twelve r (.slice A r.g.stamp.length c) (.slice A2 r.stamp.length c2)) 28)).drew)
  have HS : ((w.alloc (.cells (four b (.slice B b.gs.length cb)) 45)).alloc (.cells (twelve r (.slice A r.g.stamp.length c) (.slice A2 r.stamp.length c2)) 28)).drew.cell? ⟨w.heap.size, 0, none⟩ = some (.int .i64 b.next) ∧ ((w.alloc (.cells (four b (.slice B b.gs.length cb)) 45)).alloc (.cells (twelve r (.slice A r.g.stamp.length c) (.slice A2 r.stamp.length c2)) 28)).drew.cell? ⟨w.heap.size, 1, none⟩ = some (.int .i64 b.boots) ∧ ((w.alloc (.cells (four b (.slice B b.gs.length cb)) 45)).alloc (.cells (twelve r (.slice A r.g.stamp.length c) (.slice A2 r.stamp.length c2)) 28)).drew.cell? ⟨w.heap.size, 2, none⟩ = some (.int .i64 b.longest) ∧ ((w.alloc (.cells (four b (.slice B b.gs.length cb)) 45)).alloc (.cells (twelve r (.slice A r.g.stamp.length c) (.slice A2 r.stamp.length c2)) 28)).drew.cell? ⟨w.heap.size, 3, none⟩ = some (.slice B b.gs.length cb) ∧ ((w.alloc (.cells (four b (.slice B b.gs.length cb)) 45)).alloc (.cells (twelve r (.slice A r.g.stamp.length c) (.slice A2 r.stamp.length c2)) 28)).drew.cell? ⟨w.heap.size + 1, 7, none⟩ = some (.int .i64 r.id) ∧ ((w.alloc (.cells (four b (.slice B b.gs.length cb)) 45)).alloc (.cells (twelve r (.slice A r.g.stamp.length c) (.slice A2 r.stamp.length c2)) 28)).drew.cell? ⟨w.heap.size + 1, 8, none⟩ = some (.slice A2 r.stamp.length c2) := ⟨HKBd.out.cell 0, HKBd.out.cell 1, HKBd.out.cell 2, HKBd.out.cell 3, HKRd.out.cell 7, HKRd.out.cell 8⟩
  have HUP := Lib.hid (fun (w5 : World) (hb : Below ((w.alloc (.cells (four b (.slice B b.gs.length cb)) 45)).alloc (.cells (twelve r (.slice A r.g.stamp.length c) (.slice A2 r.stamp.length c2)) 28)).drew.heap.size ((w.alloc (.cells (four b (.slice B b.gs.length cb)) 45)).alloc (.cells (twelve r (.slice A r.g.stamp.length c) (.slice A2 r.stamp.length c2)) 28)).drew w5) => (show w5.cell? ⟨w.heap.size, 0, none⟩ = some (.int .i64 b.next) ∧ w5.cell? ⟨w.heap.size, 1, none⟩ = some (.int .i64 b.boots) ∧ w5.cell? ⟨w.heap.size, 2, none⟩ = some (.int .i64 b.longest) ∧ w5.cell? ⟨w.heap.size, 3, none⟩ = some (.slice B b.gs.length cb) ∧ w5.cell? ⟨w.heap.size + 1, 7, none⟩ = some (.int .i64 r.id) ∧ w5.cell? ⟨w.heap.size + 1, 8, none⟩ = some (.slice A2 r.stamp.length c2) from ⟨((Mod.of_below hb []).whole HKBd.out (by simp)).cell 0, ((Mod.of_below hb []).whole HKBd.out (by simp)).cell 1, ((Mod.of_below hb []).whole HKBd.out (by simp)).cell 2, ((Mod.of_below hb []).whole HKBd.out (by simp)).cell 3, ((Mod.of_below hb []).whole HKRd.out (by simp)).cell 7, ((Mod.of_below hb []).whole HKRd.out (by simp)).cell 8⟩))
  have QS := Lib.hid (fun w' (hb : Below ((w.alloc (.cells (four b (.slice B b.gs.length cb)) 45)).alloc (.cells (twelve r (.slice A r.g.stamp.length c) (.slice A2 r.stamp.length c2)) 28)).drew.heap.size ((w.alloc (.cells (four b (.slice B b.gs.length cb)) 45)).alloc (.cells (twelve r (.slice A r.g.stamp.length c) (.slice A2 r.stamp.length c2)) 28)).drew w') => b_stands _ b r.id w' (HBd.out.below hb) HRISE.out HR.out.id HL6.out)
  cases hth : BM.there r.id b.gs with
  | true =>
    rw [hth] at HE QS
    clear hth
    have hq : (BM.last r.stamp == b.next) = decide (BM.last r.stamp = b.next) := by rw [Bool.eq_iff_iff]; simp
    have HQ := Lib.hid hq
    clear hq
    go_enter Try.func62, Try.ntmps62
    go_wp2_with fail
    clear c0
    go_region_held3 (fun w2 : World => w2.cell? ⟨w.heap.size, 0, none⟩ = some (.int .i64 b.next) ∧ w2.cell? ⟨w.heap.size, 1, none⟩ = some (.int .i64 b.boots) ∧ w2.cell? ⟨w.heap.size, 2, none⟩ = some (.int .i64 b.longest) ∧ w2.cell? ⟨w.heap.size, 3, none⟩ = some (.slice B b.gs.length cb) ∧ w2.cell? ⟨w.heap.size + 1, 7, none⟩ = some (.int .i64 r.id) ∧ w2.cell? ⟨w.heap.size + 1, 8, none⟩ = some (.slice A2 r.stamp.length c2))
      (first | exact HS | (go_keep; done))
      (first | (go_at_call 83; refine (QS.out _ HB9.out).mono ?_; rintro x w5 ⟨rfl, hb⟩; replace HB9 := Lib.hid (HB9.out.trans (hb.mono HB9.out.size)); clear hb; replace HS := HUP.out _ HB9.out) | (go_at_call 70; refine (b_last _ r.stamp _ (HRd.out.below HB9.out).st HNE.out).mono ?_; rintro x w5 ⟨rfl, rfl⟩))
    all_goals
      go_wp2_with fail
      go_ret
      exact bools (by rw [HE.out, HQ.out]; rfl) (HXd.out.trans (HB9.out.mono HXd.out.size))
  | false =>
    rw [hth] at HE QS
    clear hth
    go_enter Try.func62, Try.ntmps62
    go_wp2_with fail
    clear c0
    refine wp_region_noPanic ?_
    refine wp_region_held_drew (S := fun w2 : World => w2.cell? ⟨w.heap.size, 0, none⟩ = some (.int .i64 b.next) ∧ w2.cell? ⟨w.heap.size, 1, none⟩ = some (.int .i64 b.boots) ∧ w2.cell? ⟨w.heap.size, 2, none⟩ = some (.int .i64 b.longest) ∧ w2.cell? ⟨w.heap.size, 3, none⟩ = some (.slice B b.gs.length cb) ∧ w2.cell? ⟨w.heap.size + 1, 7, none⟩ = some (.int .i64 r.id) ∧ w2.cell? ⟨w.heap.size + 1, 8, none⟩ = some (.slice A2 r.stamp.length c2)) (by kernel_rfl) (HS) (fun hHeld => ?_)
    refine wpAnyH_take (i := 0) (oi := { dst := some 46, op := Op.load 45 (Operand.tmp 2), type := 45, pos := _, after := #[], guard := none }) (v := ?_) rfl (by kernel_rfl) (by kernel_rfl) (by kernel_rfl) (fun _ _ _ h => h) (Or.inl ⟨by rfl, ?_⟩) hHeld ?_
    rotate_left
    · (intro w hSw; (try dsimp only at hSw); first | (go_simp; done) | (go_simp; with_reducible rfl))
    try simp only [Act.put, List.setIfInBounds_toArray, List.set_cons_zero, List.set_cons_succ]
    refine wpAnyH_take (i := 1) (oi := { dst := some 47, op := Op.fieldAddr 28 (Operand.tmp 3) 2, type := 0, pos := _, after := #[], guard := none }) (v := ?_) rfl (by kernel_rfl) (by kernel_rfl) (by kernel_rfl) (fun _ _ _ h => h) (Or.inl ⟨by rfl, ?_⟩) hHeld ?_
    rotate_left
    · (intro w hSw; (try dsimp only at hSw); first | (go_simp; done) | (go_simp; with_reducible rfl))
    try simp only [Act.put, List.setIfInBounds_toArray, List.set_cons_zero, List.set_cons_succ]
    refine wpAnyH_take (i := 2) (oi := { dst := some 48, op := Op.load 3 (Operand.tmp 47), type := 3, pos := _, after := #[{ on := 1, ground := Ground.data }], guard := none }) (v := ?_) rfl (by kernel_rfl) (by kernel_rfl) (by kernel_rfl) (fun _ _ _ h => h) (Or.inl ⟨by rfl, ?_⟩) hHeld ?_
    rotate_left
    · (intro w hSw; (try dsimp only at hSw); first | (go_simp; done) | (go_simp; with_reducible rfl))
    try simp only [Act.put, List.setIfInBounds_toArray, List.set_cons_zero, List.set_cons_succ]
    refine wpAnyH_ready (rs := [3]) (by kernel_rfl) (by simp) (AllReadyH.cons (o := { dst := some 49, op := Op.call { callee := Callee.value (Operand.func 83), args := #[Operand.tmp 46, Operand.tmp 48], argTypes := #[45, 3] }, type := 4, pos := _, after := #[{ on := 0, ground := Ground.data }, { on := 2, ground := Ground.data }], guard := none }) rfl (fun K hK => ?_) AllReadyH.nil)
    go_simp
    refine (QS.out _ HB9.out).mono ?_
    rintro x w5 ⟨rfl, hb⟩
    replace HB9 := Lib.hid (HB9.out.trans (hb.mono HB9.out.size))
    clear hb HS
    have HS := HUP.out _ HB9.out
    go_simp
    refine hK.out _ _ (HS) (fun hHeld => ?_)
    clear hK K
    try simp only [Act.put, List.setIfInBounds_toArray, List.set_cons_zero, List.set_cons_succ]
    refine wpAnyH_take (i := 4) (oi := { dst := some 50, op := Op.move (Operand.tmp 49), type := 4, pos := _, after := #[{ on := 3, ground := Ground.data }, { on := 3, ground := Ground.chain }], guard := none }) (v := ?_) rfl (by kernel_rfl) (by kernel_rfl) (by kernel_rfl) (fun _ _ _ h => h) (Or.inl ⟨by rfl, ?_⟩) hHeld ?_
    rotate_left
    · (intro w hSw; (try dsimp only at hSw); first | (go_simp; done) | (go_simp; with_reducible rfl))
    try simp only [Act.put, List.setIfInBounds_toArray, List.set_cons_zero, List.set_cons_succ]
    refine wpAnyH_take (i := 5) (oi := { dst := some 51, op := Op.fieldAddr 28 (Operand.tmp 3) 3, type := 0, pos := _, after := #[{ on := 4, ground := Ground.guard }], guard := some (4, true) }) (v := undef) rfl (by kernel_rfl) (by kernel_rfl) (by kernel_rfl) (fun _ _ _ h => h) (Or.inr ⟨by rfl, rfl⟩) hHeld ?_
    try simp only [Act.put, List.setIfInBounds_toArray, List.set_cons_zero, List.set_cons_succ]
    refine wpAnyH_take (i := 6) (oi := { dst := some 52, op := Op.load 24 (Operand.tmp 51), type := 24, pos := _, after := #[{ on := 5, ground := Ground.data }, { on := 4, ground := Ground.guard }], guard := some (4, true) }) (v := undef) rfl (by kernel_rfl) (by kernel_rfl) (by kernel_rfl) (fun _ _ _ h => h) (Or.inr ⟨by rfl, rfl⟩) hHeld ?_
    try simp only [Act.put, List.setIfInBounds_toArray, List.set_cons_zero, List.set_cons_succ]
    refine wpAnyH_take (i := 7) (oi := { dst := some 53, op := Op.call { callee := Callee.value (Operand.func 70), args := #[Operand.tmp 52], argTypes := #[24] }, type := 3, pos := _, after := #[{ on := 6, ground := Ground.data }, { on := 4, ground := Ground.chain }, { on := 4, ground := Ground.guard }], guard := some (4, true) }) (v := undef) rfl (by kernel_rfl) (by kernel_rfl) (by kernel_rfl) (fun _ _ _ h => h) (Or.inr ⟨by rfl, rfl⟩) hHeld ?_
    try simp only [Act.put, List.setIfInBounds_toArray, List.set_cons_zero, List.set_cons_succ]
    refine wpAnyH_take (i := 8) (oi := { dst := some 54, op := Op.fieldAddr 45 (Operand.tmp 2) 0, type := 0, pos := _, after := #[{ on := 4, ground := Ground.guard }], guard := some (4, true) }) (v := undef) rfl (by kernel_rfl) (by kernel_rfl) (by kernel_rfl) (fun _ _ _ h => h) (Or.inr ⟨by rfl, rfl⟩) hHeld ?_
    try simp only [Act.put, List.setIfInBounds_toArray, List.set_cons_zero, List.set_cons_succ]
    refine wpAnyH_take (i := 9) (oi := { dst := some 55, op := Op.load 3 (Operand.tmp 54), type := 3, pos := _, after := #[{ on := 8, ground := Ground.data }, { on := 4, ground := Ground.guard }], guard := some (4, true) }) (v := undef) rfl (by kernel_rfl) (by kernel_rfl) (by kernel_rfl) (fun _ _ _ h => h) (Or.inr ⟨by rfl, rfl⟩) hHeld ?_
    try simp only [Act.put, List.setIfInBounds_toArray, List.set_cons_zero, List.set_cons_succ]
    refine wpAnyH_take (i := 10) (oi := { dst := some 56, op := Op.binOp BinOp.eql 3 (Operand.tmp 53) (Operand.tmp 55) 3, type := 4, pos := _, after := #[{ on := 7, ground := Ground.data }, { on := 9, ground := Ground.data }, { on := 4, ground := Ground.guard }], guard := some (4, true) }) (v := undef) rfl (by kernel_rfl) (by kernel_rfl) (by kernel_rfl) (fun _ _ _ h => h) (Or.inr ⟨by rfl, rfl⟩) hHeld ?_
    try simp only [Act.put, List.setIfInBounds_toArray, List.set_cons_zero, List.set_cons_succ]
    refine wpAnyH_take (i := 11) (oi := { dst := some 57, op := Op.pick (Operand.tmp 50) (Operand.tmp 56) (Operand.const (Value.bool false)), type := 4, pos := _, after := #[{ on := 4, ground := Ground.data }, { on := 10, ground := Ground.data }], guard := none }) (v := ?_) rfl (by kernel_rfl) (by kernel_rfl) (by kernel_rfl) (fun _ _ _ h => h) (Or.inl ⟨by rfl, ?_⟩) hHeld ?_
    rotate_left
    · (intro w hSw; (try dsimp only at hSw); first | (go_simp; done) | (go_simp; with_reducible rfl))
    try simp only [Act.put, List.setIfInBounds_toArray, List.set_cons_zero, List.set_cons_succ]
    refine wpAnyH_take (i := 12) (oi := { dst := some 4, op := Op.assign (Operand.tmp 57), type := 4, pos := _, after := #[{ on := 11, ground := Ground.data }, { on := 7, ground := Ground.chain }, { on := 0, ground := Ground.phase }, { on := 1, ground := Ground.phase }, { on := 2, ground := Ground.phase }, { on := 3, ground := Ground.phase }, { on := 4, ground := Ground.phase }, { on := 5, ground := Ground.phase }, { on := 6, ground := Ground.phase }, { on := 7, ground := Ground.phase }, { on := 8, ground := Ground.phase }, { on := 9, ground := Ground.phase }, { on := 10, ground := Ground.phase }, { on := 11, ground := Ground.phase }], guard := none }) (v := ?_) rfl (by kernel_rfl) (by kernel_rfl) (by kernel_rfl) (fun _ _ _ h => h) (Or.inl ⟨by rfl, ?_⟩) hHeld ?_
    rotate_left
    · (intro w hSw; (try dsimp only at hSw); first | (go_simp; done) | (go_simp; with_reducible rfl))
    try simp only [Act.put, List.setIfInBounds_toArray, List.set_cons_zero, List.set_cons_succ]
    refine wpAnyH_done (by kernel_rfl) ?_ _
    refine NoPanic.normal ?_
    go_wp2_with fail
    go_ret
    exact bools HE.out.symm (HXd.out.trans (HB9.out.mono HXd.out.size))
set_option maxHeartbeats 8000000 in
theorem fits_6 (B A A2 : Option Addr) (cb c c2 : Nat) (b : Bk) (r : Rc) (w : World) (hb : FitB w (.slice B b.gs.length cb) b) (hr : FitR w (.slice A r.g.stamp.length c) (.slice A2 r.stamp.length c2) r) (hok : BM.okBk b = true) (hmu : BM.mayUse r = true) (hk : r.kind = 6) :
    Calls Try.prog 62 #[.agg (four b (.slice B b.gs.length cb)), .agg (twelve r (.slice A r.g.stamp.length c) (.slice A2 r.stamp.length c2))] w fun e w' => e = .returned (.bool (BM.fits b r)) ∧ Below w.heap.size w w' := by
  have HX := Lib.hid (((Below.refl _ w).alloc (Nat.le_refl _) (.cells (four b (.slice B b.gs.length cb)) 45)).alloc (by simp) (.cells (twelve r (.slice A r.g.stamp.length c) (.slice A2 r.stamp.length c2)) 28))
  have HB := Lib.hid (hb.below HX.out)
  have HR := Lib.hid (hr.below HX.out)
  have HKB := Lib.hid ((Whole.new w 45 (four b (.slice B b.gs.length cb))).alloc (.cells (twelve r (.slice A r.g.stamp.length c) (.slice A2 r.stamp.length c2)) 28))
  have HKR := Lib.hid (show Whole ((w.alloc (.cells (four b (.slice B b.gs.length cb)) 45)).alloc (.cells (twelve r (.slice A r.g.stamp.length c) (.slice A2 r.stamp.length c2)) 28)) (w.heap.size + 1) 28 (twelve r (.slice A r.g.stamp.length c) (.slice A2 r.stamp.length c2)) from by have h := Whole.new (w.alloc (.cells (four b (.slice B b.gs.length cb)) 45)) 28 (twelve r (.slice A r.g.stamp.length c) (.slice A2 r.stamp.length c2)); have e : (w.alloc (.cells (four b (.slice B b.gs.length cb)) 45)).heap.size = w.heap.size + 1 := (by simp); rw [e] at h; exact h)
  have HRISE := Lib.hid (stand_rise (BM.okBk_parts hok).2.2.2.2)
  have HL6 := Lib.hid (show b.gs.length ≤ 1000 by have := (BM.okBk_parts hok).2.2.2.1; omega)
  clear hb hr hok
  have c0 : ((w.alloc (.cells (four b (.slice B b.gs.length cb)) 45)).alloc (.cells (twelve r (.slice A r.g.stamp.length c) (.slice A2 r.stamp.length c2)) 28)).cell? ⟨w.heap.size + 1, 0, none⟩ = some (.int .i64 6) := by rw [← hk]; exact HKR.out.cell 0
  have HE := Lib.hid (show BM.fits b r = BM.there r.id b.gs from by unfold BM.fits; simp [hk])
  clear hk
  have b0 : ((w.alloc (.cells (four b (.slice B b.gs.length cb)) 45)).alloc (.cells (twelve r (.slice A r.g.stamp.length c) (.slice A2 r.stamp.length c2)) 28)).cell? ⟨w.heap.size, 0, none⟩ = some (.int .i64 b.next) := HKB.out.cell 0
  have b1 : ((w.alloc (.cells (four b (.slice B b.gs.length cb)) 45)).alloc (.cells (twelve r (.slice A r.g.stamp.length c) (.slice A2 r.stamp.length c2)) 28)).cell? ⟨w.heap.size, 1, none⟩ = some (.int .i64 b.boots) := HKB.out.cell 1
  have b2 : ((w.alloc (.cells (four b (.slice B b.gs.length cb)) 45)).alloc (.cells (twelve r (.slice A r.g.stamp.length c) (.slice A2 r.stamp.length c2)) 28)).cell? ⟨w.heap.size, 2, none⟩ = some (.int .i64 b.longest) := HKB.out.cell 2
  have b3 : ((w.alloc (.cells (four b (.slice B b.gs.length cb)) 45)).alloc (.cells (twelve r (.slice A r.g.stamp.length c) (.slice A2 r.stamp.length c2)) 28)).cell? ⟨w.heap.size, 3, none⟩ = some (.slice B b.gs.length cb) := HKB.out.cell 3
  have c7 : ((w.alloc (.cells (four b (.slice B b.gs.length cb)) 45)).alloc (.cells (twelve r (.slice A r.g.stamp.length c) (.slice A2 r.stamp.length c2)) 28)).cell? ⟨w.heap.size + 1, 7, none⟩ = some (.int .i64 r.id) := HKR.out.cell 7
  go_enter Try.func62, Try.ntmps62
  go_wp2_with fail
  refine (b_stands _ b r.id _ HB.out HRISE.out HR.out.id HL6.out).mono ?_
  rintro x w5 ⟨rfl, hb⟩
  have HX5 := Lib.hid (below_on HX.out hb)
  clear hb c0 c7 b0 b1 b2 b3
  go_wp2_with fail
  go_ret
  exact bools HE.out.symm HX5.out
set_option maxHeartbeats 8000000 in
theorem fits_no (B A A2 : Option Addr) (cb c c2 : Nat) (b : Bk) (r : Rc) (w : World) (hb : FitB w (.slice B b.gs.length cb) b) (hr : FitR w (.slice A r.g.stamp.length c) (.slice A2 r.stamp.length c2) r) (hok : BM.okBk b = true) (hmu : BM.mayUse r = true) (h1 : r.kind ≠ 1) (h2 : r.kind ≠ 2) (h3 : r.kind ≠ 3) (h4 : r.kind ≠ 4) (h5 : r.kind ≠ 5) (h6 : r.kind ≠ 6) :
    Calls Try.prog 62 #[.agg (four b (.slice B b.gs.length cb)), .agg (twelve r (.slice A r.g.stamp.length c) (.slice A2 r.stamp.length c2))] w fun e w' => e = .returned (.bool (BM.fits b r)) ∧ Below w.heap.size w w' := by
  have HX := Lib.hid (((Below.refl _ w).alloc (Nat.le_refl _) (.cells (four b (.slice B b.gs.length cb)) 45)).alloc (by simp) (.cells (twelve r (.slice A r.g.stamp.length c) (.slice A2 r.stamp.length c2)) 28))
  have HB := Lib.hid (hb.below HX.out)
  have HR := Lib.hid (hr.below HX.out)
  have HKB := Lib.hid ((Whole.new w 45 (four b (.slice B b.gs.length cb))).alloc (.cells (twelve r (.slice A r.g.stamp.length c) (.slice A2 r.stamp.length c2)) 28))
  have HKR := Lib.hid (show Whole ((w.alloc (.cells (four b (.slice B b.gs.length cb)) 45)).alloc (.cells (twelve r (.slice A r.g.stamp.length c) (.slice A2 r.stamp.length c2)) 28)) (w.heap.size + 1) 28 (twelve r (.slice A r.g.stamp.length c) (.slice A2 r.stamp.length c2)) from by have h := Whole.new (w.alloc (.cells (four b (.slice B b.gs.length cb)) 45)) 28 (twelve r (.slice A r.g.stamp.length c) (.slice A2 r.stamp.length c2)); have e : (w.alloc (.cells (four b (.slice B b.gs.length cb)) 45)).heap.size = w.heap.size + 1 := (by simp); rw [e] at h; exact h)
  have HRISE := Lib.hid (stand_rise (BM.okBk_parts hok).2.2.2.2)
  have HL6 := Lib.hid (show b.gs.length ≤ 1000 by have := (BM.okBk_parts hok).2.2.2.1; omega)
  clear hb hr hok
  have HE := Lib.hid (show BM.fits b r = true from by unfold BM.fits; simp [h1, h2, h3, h4, h5, h6])
  have d1 : (r.kind == 1) = false := by simpa using h1
  have d2 : (r.kind == 2) = false := by simpa using h2
  have d3 : (r.kind == 3) = false := by simpa using h3
  have d4 : (r.kind == 4) = false := by simpa using h4
  have d5 : (r.kind == 5) = false := by simpa using h5
  have d6 : (r.kind == 6) = false := by simpa using h6
  clear h1 h2 h3 h4 h5 h6
  have c0 : ((w.alloc (.cells (four b (.slice B b.gs.length cb)) 45)).alloc (.cells (twelve r (.slice A r.g.stamp.length c) (.slice A2 r.stamp.length c2)) 28)).cell? ⟨w.heap.size + 1, 0, none⟩ = some (.int .i64 r.kind) := HKR.out.cell 0
  go_enter Try.func62, Try.ntmps62
  go_wp2_with fail
  go_ret
  exact bools HE.out.symm HX.out
theorem b_fits (v s u : Value) (b : Bk) (r : Rc) (w : World) (hb : FitB w v b) (hr : FitR w s u r) (hok : BM.okBk b = true) (hmu : BM.mayUse r = true) :
    Calls Try.prog 62 #[.agg (four b v), .agg (twelve r s u)] w fun e w' => e = .returned (.bool (BM.fits b r)) ∧ Below w.heap.size w w' := by
  obtain ⟨B, cb, rfl, _⟩ := hb.gs
  obtain ⟨A, c, hs, _⟩ := hr.g.hd
  obtain ⟨A2, c2, hu, _⟩ := hr.st
  subst hs hu
  by_cases h1 : r.kind = 1
  · exact fits_1 B A A2 cb c c2 b r w hb hr hok hmu h1
  by_cases h2 : r.kind = 2
  · exact fits_2 B A A2 cb c c2 b r w hb hr hok hmu h2
  by_cases h3 : r.kind = 3
  · exact fits_3 B A A2 cb c c2 b r w hb hr hok hmu h3
  by_cases h4 : r.kind = 4
  · exact fits_4 B A A2 cb c c2 b r w hb hr hok hmu h4
  by_cases h5 : r.kind = 5
  · exact fits_5 B A A2 cb c c2 b r w hb hr hok hmu h5
  by_cases h6 : r.kind = 6
  · exact fits_6 B A A2 cb c c2 b r w hb hr hok hmu h6
  exact fits_no B A A2 cb c c2 b r w hb hr hok hmu h1 h2 h3 h4 h5 h6
end Go.Proofs.Ytboflkadabagfab
namespace Go.Proofs.Ytboflkadabagfab
open Go.RowKit
open BM (Gr Rc Bk g0 r0 b0)
set_option linter.unusedVariables false
set_option linter.unusedSimpArgs false
set_option maxRecDepth 100000
theorem four_cells {w : World} {g : Nat} {b : Bk} {v : Value} (h : Whole w g 45 (four b v)) : w.cell? ⟨g, 0, none⟩ = some (.int .i64 b.next) ∧ w.cell? ⟨g, 1, none⟩ = some (.int .i64 b.boots) ∧ w.cell? ⟨g, 2, none⟩ = some (.int .i64 b.longest) ∧ w.cell? ⟨g, 3, none⟩ = some v :=
  ⟨h.cell 0, h.cell 1, h.cell 2, h.cell 3⟩
theorem rec_cells {w : World} {g : Nat} {m : Rc} {sv tv : Value} (h : Whole w g 28 (twelve m sv tv)) : w.cell? ⟨g, 0, none⟩ = some (.int .i64 m.kind) ∧ w.cell? ⟨g, 1, none⟩ = some (.int .i64 m.g.id) ∧ w.cell? ⟨g, 2, none⟩ = some (.int .i64 m.g.holder) ∧ w.cell? ⟨g, 3, none⟩ = some (.string m.g.path) ∧ w.cell? ⟨g, 4, none⟩ = some (.int .i64 m.g.mode) ∧ w.cell? ⟨g, 5, none⟩ = some sv ∧ w.cell? ⟨g, 6, none⟩ = some (.int .i64 m.g.term) ∧
    w.cell? ⟨g, 7, none⟩ = some (.int .i64 m.id) ∧ w.cell? ⟨g, 8, none⟩ = some tv ∧ w.cell? ⟨g, 9, none⟩ = some (.int .i64 m.next) ∧ w.cell? ⟨g, 10, none⟩ = some (.int .i64 m.boots) ∧ w.cell? ⟨g, 11, none⟩ = some (.int .i64 m.longest) :=
  ⟨h.cell 0, h.cell 1, h.cell 2, h.cell 3, h.cell 4, h.cell 5, h.cell 6, h.cell 7, h.cell 8, h.cell 9, h.cell 10, h.cell 11⟩
theorem ints {a b : Int} {w w' : World} (h : a = b) (hb : Below w.heap.size w w') : Ending.returned (.int .i64 a) = .returned (.int .i64 b) ∧ Below w.heap.size w w' := ⟨ret_int h, hb⟩
set_option maxHeartbeats 4000000 in
theorem b_refusal (v s u : Value) (b : Bk) (r : Rc) (w : World) (hb : FitB w v b) (hr : FitR w s u r) (hok : BM.okBk b = true) (hmu : BM.mayUse r = true) :
    Calls Try.prog 30 #[.agg (four b v), .agg (twelve r s u)] w fun e w' => e = .returned (.int .i64 (BM.refusal b r)) ∧ Below w.heap.size w w' := by
  have HX := Lib.hid (((Below.refl _ w).alloc (Nat.le_refl _) (.cells (four b v) 45)).alloc (by simp) (.cells (twelve r s u) 28))
  have HB := Lib.hid (hb.below HX.out)
  have HR := Lib.hid (hr.below HX.out)
  have HKB := Lib.hid ((Whole.new w 45 (four b v)).alloc (.cells (twelve r s u) 28))
  have HKR := Lib.hid (show Whole ((w.alloc (.cells (four b v) 45)).alloc (.cells (twelve r s u) 28)) (w.heap.size + 1) 28 (twelve r s u) from by have h := Whole.new (w.alloc (.cells (four b v) 45)) 28 (twelve r s u); have e : (w.alloc (.cells (four b v) 45)).heap.size = w.heap.size + 1 := (by simp); rw [e] at h; exact h)
  have HE := Lib.hid (show BM.refusal b r = if BM.spent b r.kind then 66 else if BM.full b r.kind then 51 else if BM.fits b r then 0 else 43 from rfl)
  clear hb hr
  obtain ⟨b0', b1, b2, b3⟩ := four_cells HKB.out
  obtain ⟨c0, c1, c2, c3, c4, c5, c6, c7, c8, c9, c10, c11⟩ := rec_cells HKR.out
  go_enter Try.func30, Try.ntmps30
  go_wp2_with fail
  refine (b_isSpent v b r.kind _).mono ?_
  rintro e w1 ⟨rfl, hb1⟩
  have HX1 := Lib.hid (below_on HX.out hb1)
  have HB1 := Lib.hid (HB.out.below hb1)
  have HR1 := Lib.hid (HR.out.below hb1)
  have HKB1 := Lib.hid ((Mod.of_below hb1 []).whole HKB.out (by simp))
  have HKR1 := Lib.hid ((Mod.of_below hb1 []).whole HKR.out (by simp))
  clear hb1 b0' b1 b2 b3 c0 c1 c2 c3 c4 c5 c6 c7 c8 c9 c10 c11
  obtain ⟨b0', b1, b2, b3⟩ := four_cells HKB1.out
  obtain ⟨c0, c1, c2, c3, c4, c5, c6, c7, c8, c9, c10, c11⟩ := rec_cells HKR1.out
  cases h1 : BM.spent b r.kind with
  | true =>
    rw [h1] at HE
    clear h1
    go_wp2_with fail
    go_ret
    exact ints (by rw [HE.out]; rfl) HX1.out
  | false =>
    rw [h1] at HE
    clear h1
    go_wp2_with fail
    refine (b_isFull v b r.kind _ HB1.out.gs).mono ?_
    rintro e w2 ⟨rfl, hb2⟩
    have HX2 := Lib.hid (below_on HX1.out hb2)
    have HB2 := Lib.hid (HB1.out.below hb2)
    have HR2 := Lib.hid (HR1.out.below hb2)
    have HKB2 := Lib.hid ((Mod.of_below hb2 []).whole HKB1.out (by simp))
    have HKR2 := Lib.hid ((Mod.of_below hb2 []).whole HKR1.out (by simp))
    clear hb2 b0' b1 b2 b3 c0 c1 c2 c3 c4 c5 c6 c7 c8 c9 c10 c11
    obtain ⟨b0', b1, b2, b3⟩ := four_cells HKB2.out
    obtain ⟨c0, c1, c2, c3, c4, c5, c6, c7, c8, c9, c10, c11⟩ := rec_cells HKR2.out
    cases h2 : BM.full b r.kind with
    | true =>
      rw [h2] at HE
      clear h2
      go_wp2_with fail
      go_ret
      exact ints (by rw [HE.out]; rfl) HX2.out
    | false =>
      rw [h2] at HE
      clear h2
      go_wp2_with fail
      refine (b_fits v s u b r _ HB2.out HR2.out hok hmu).mono ?_
      rintro e w3 ⟨rfl, hb3⟩
      have HX3 := Lib.hid (below_on HX2.out hb3)
      clear hb3 b0' b1 b2 b3 c0 c1 c2 c3 c4 c5 c6 c7 c8 c9 c10 c11
      cases h3 : BM.fits b r with
      | true =>
        rw [h3] at HE
        clear h3
        go_wp2_with fail
        go_ret
        exact ints (by rw [HE.out]; rfl) HX3.out
      | false =>
        rw [h3] at HE
        clear h3
        go_wp2_with fail
        go_ret
        exact ints (by rw [HE.out]; rfl) HX3.out
end Go.Proofs.Ytboflkadabagfab
