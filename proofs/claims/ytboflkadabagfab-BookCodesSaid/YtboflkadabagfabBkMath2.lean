/- What records do to books: a book stays one, its counter never falls, and the records of a book make it again. -/
import Derived.Test.YtboflkadabagfabBkMath
namespace Go.Proofs.Ytboflkadabagfab.BM
set_option linter.unusedVariables false
set_option linter.unusedSimpArgs false
theorem ins_nil (g : Gr) : ins g [] = [g] := rfl
theorem ins_cons (g x : Gr) (l : List Gr) : ins g (x :: l) = if x.id < g.id then x :: ins g l else g :: x :: l := by
  unfold ins less
  by_cases h : x.id < g.id
  · rw [if_pos h]; simp [h]
  · rw [if_neg h]; simp [h]
theorem ins_len (g : Gr) : ∀ l : List Gr, (ins g l).length = l.length + 1
  | [] => rfl
  | x :: l => by
    rw [ins_cons]
    split
    · rw [List.length_cons, ins_len g l, List.length_cons]
    · simp
theorem stand_cons {a n : Int} {g : Gr} {l : List Gr} : stand a n (g :: l) = true ↔ okGr g = true ∧ a < g.id ∧ last g.stamp < n ∧ stand g.id n l = true := by
  rw [stand]
  simp only [Bool.and_eq_true, decide_eq_true_eq]
theorem stand_low {a a' n : Int} : ∀ {l : List Gr}, stand a n l = true → a' ≤ a → stand a' n l = true
  | [], _, _ => rfl
  | g :: l, h, k => by
    rw [stand_cons] at h ⊢
    exact ⟨h.1, by omega, h.2.2⟩
theorem stand_up {n m : Int} : ∀ {l : List Gr} {a : Int}, stand a n l = true → n ≤ m → stand a m l = true
  | [], _, _, _ => rfl
  | g :: l, a, h, k => by
    rw [stand_cons] at h ⊢
    exact ⟨h.1, h.2.1, by omega, stand_up h.2.2.2 k⟩
theorem stand_ok {n : Int} : ∀ {l : List Gr} {a : Int}, stand a n l = true → ∀ g ∈ l, okGr g = true ∧ a < g.id ∧ last g.stamp < n
  | [], _, _, g, hg => by cases hg
  | x :: l, a, h, g, hg => by
    rw [stand_cons] at h
    rcases List.mem_cons.1 hg with rfl | hg
    · exact ⟨h.1, h.2.1, h.2.2.1⟩
    · obtain ⟨k1, k2, k3⟩ := stand_ok h.2.2.2 g hg
      exact ⟨k1, by omega, k3⟩
theorem there_cons {id : Int} {x : Gr} {l : List Gr} : there id (x :: l) = (decide (x.id = id) || there id l) := rfl
theorem stand_ins {n : Int} {g : Gr} (hg : okGr g = true) (hn : last g.stamp < n) : ∀ {l : List Gr} {a : Int}, stand a n l = true → a < g.id → there g.id l = false → stand a n (ins g l) = true
  | [], a, _, ha, _ => by
    rw [ins_nil, stand_cons]
    exact ⟨hg, ha, hn, rfl⟩
  | x :: l, a, h, ha, ht => by
    rw [there_cons] at ht
    simp only [Bool.or_eq_false_iff, decide_eq_false_iff_not] at ht
    rw [ins_cons]
    have h' := stand_cons.1 h
    split
    · rename_i hlt
      exact stand_cons.2 ⟨h'.1, h'.2.1, h'.2.2.1, stand_ins hg hn h'.2.2.2 hlt ht.2⟩
    · rename_i hge
      exact stand_cons.2 ⟨hg, ha, hn, stand_cons.2 ⟨h'.1, by omega, h'.2.2⟩⟩
theorem stand_fresh {n id : Int} {s : List Int} (hs : isStamp s = true) (hl : last s = n) : ∀ {l : List Gr} {a : Int}, stand a n l = true → stand a (n + 1) (fresh id s l) = true
  | [], _, _ => rfl
  | x :: l, a, h => by
    have h' := stand_cons.1 h
    have ih := stand_fresh hs hl (id := id) h'.2.2.2
    show stand a (n + 1) ((if x.id = id then { x with stamp := s } else x) :: fresh id s l) = true
    split
    · rw [stand_cons]
      refine ⟨?_, h'.2.1, by show last s < n + 1; omega, ih⟩
      have p := okGr_parts h'.1
      unfold okGr
      simp only [Bool.and_eq_true, decide_eq_true_eq]
      exact ⟨p.1, p.2.1, p.2.2.1, p.2.2.2.1, hs, by show x.id ≤ last s; omega, p.2.2.2.2.2.2⟩
    · rw [stand_cons]
      exact ⟨h'.1, h'.2.1, by omega, ih⟩
theorem stand_without {n id : Int} : ∀ {l : List Gr} {a : Int}, stand a n l = true → stand a n (without id l) = true
  | [], _, _ => rfl
  | x :: l, a, h => by
    have h' := stand_cons.1 h
    have ih := stand_without (id := id) h'.2.2.2
    unfold without at ih ⊢
    rw [List.filter_cons]
    split
    · exact stand_cons.2 ⟨h'.1, h'.2.1, h'.2.2.1, ih⟩
    · exact stand_low ih (by omega)
theorem okBk_parts {b : Bk} (h : okBk b = true) : (1 ≤ b.next ∧ b.next ≤ 1099511627777) ∧ (0 ≤ b.boots ∧ b.boots ≤ 1099511627776) ∧ (b.longest = 0 ∨ TM.legal b.longest = true) ∧ b.gs.length ≤ 6 ∧ stand 0 b.next b.gs = true := by
  unfold okBk isNext isBoots isLongest at h
  simp only [Bool.and_eq_true, Bool.or_eq_true, decide_eq_true_eq] at h
  exact ⟨h.1, h.2.1, h.2.2.1, h.2.2.2.1, h.2.2.2.2⟩
theorem okBk_of {b : Bk} (h1 : 1 ≤ b.next ∧ b.next ≤ 1099511627777) (h2 : 0 ≤ b.boots ∧ b.boots ≤ 1099511627776) (h3 : b.longest = 0 ∨ TM.legal b.longest = true) (h4 : b.gs.length ≤ 6) (h5 : stand 0 b.next b.gs = true) : okBk b = true := by
  unfold okBk isNext isBoots isLongest
  simp only [Bool.and_eq_true, Bool.or_eq_true, decide_eq_true_eq]
  exact ⟨h1, h2, h3, h4, h5⟩
theorem okBk_new : okBk new = true := by decide
theorem fault_zero {b : Bk} {r : Rc} (h : fault b r = 0) : okBk b = true ∧ okRc r = true ∧ spent b r.kind = false ∧ full b r.kind = false ∧ fits b r = true := by
  unfold fault at h
  by_cases h0 : (okBk b && okRc r) = true
  · rw [if_pos h0] at h
    simp only [Bool.and_eq_true] at h0
    unfold refusal at h
    cases h1 : spent b r.kind with
    | true => rw [h1] at h; simp at h
    | false =>
      cases h2 : full b r.kind with
      | true => rw [h1, h2] at h; simp at h
      | false =>
        cases h3 : fits b r with
        | true => exact ⟨h0.1, h0.2, rfl, rfl, rfl⟩
        | false => rw [h1, h2, h3] at h; simp at h
  · rw [if_neg h0] at h; simp at h
theorem fault_of {b : Bk} {r : Rc} (h1 : okBk b = true) (h2 : okRc r = true) (h3 : spent b r.kind = false) (h4 : full b r.kind = false) (h5 : fits b r = true) : fault b r = 0 := by
  unfold fault refusal
  rw [h1, h2, h3, h4, h5]
  rfl
theorem apply_zero {b c : Bk} {r : Rc} (h : apply b r = (c, 0)) : fault b r = 0 ∧ c = behind b r := by
  unfold apply at h
  by_cases h0 : fault b r = 0
  · rw [if_pos h0] at h
    exact ⟨h0, (Prod.mk.inj h).1.symm⟩
  · rw [if_neg h0] at h
    exact absurd (Prod.mk.inj h).2 h0
theorem apply_err {b c : Bk} {r : Rc} {e : Int} (h : apply b r = (c, e)) (he : e ≠ 0) : c = b0 := by
  unfold apply at h
  by_cases h0 : fault b r = 0
  · rw [if_pos h0] at h
    exact absurd (Prod.mk.inj h).2.symm he
  · rw [if_neg h0] at h
    exact (Prod.mk.inj h).1.symm
theorem legal_rng {x : Int} (h : TM.legal x = true) : 4 ≤ x ∧ x ≤ 1048576 := WM.legal_rng h
/-- A book stays one; nothing falls; what is brought is the counter that came next. -/
theorem apply_ok {b c : Bk} {r : Rc} (h : apply b r = (c, 0)) : okBk c = true ∧ b.next ≤ c.next ∧ b.boots ≤ c.boots ∧ b.longest ≤ c.longest ∧
    (r.kind = 4 → r.g.stamp ≠ [] ∧ c.next = b.next + 1 ∧ last r.g.stamp = b.next) ∧ (r.kind = 5 → r.stamp ≠ [] ∧ c.next = b.next + 1 ∧ last r.stamp = b.next) := by
  obtain ⟨hf, rfl⟩ := apply_zero h
  obtain ⟨hb, hr, hs, hfu, hfit⟩ := fault_zero hf
  obtain ⟨p1, p2, p3, p4, p5⟩ := okBk_parts hb
  obtain ⟨hm, _⟩ := ok_may hr
  have hk := may_kind hm
  unfold mayUse at hm
  unfold spent at hs
  unfold full at hfu
  unfold fits at hfit
  unfold behind
  rcases hk with hk | hk | hk | hk | hk | hk | hk
  · simp [hk, isNext, isBoots] at hm hfit ⊢
    have e1 : b.next = 1 := by rw [hfit]; rfl
    have e2 : b.boots = 0 := by rw [hfit]; rfl
    have e3 : b.gs = [] := by rw [hfit]; rfl
    refine ⟨okBk_of hm.1 hm.2 p3 p4 (by show stand 0 r.next b.gs = true; rw [e3]; rfl), by omega, by omega⟩
  · simp [hk] at hm hfit ⊢
    exact ⟨okBk_of p1 p2 (.inr hm) p4 p5, by omega⟩
  · simp [hk] at hm hfu hfit ⊢
    refine okBk_of p1 p2 p3 (by show (ins r.g b.gs).length ≤ 6; rw [ins_len]; omega) (stand_ins hm hfit.2 p5 ?_ hfit.1)
    have := WM.count_rng (okGr_parts hm).1; omega
  · simp [hk] at hs hm hfu hfit ⊢
    have hg := okGr_parts hm.1
    have hc := WM.count_rng hg.1
    refine ⟨okBk_of (by show 1 ≤ b.next + 1 ∧ b.next + 1 ≤ 1099511627777; omega) p2 p3 (by show (ins r.g b.gs).length ≤ 6; rw [ins_len]; omega) (stand_ins hm.1 (by show last r.g.stamp < b.next + 1; omega) (stand_up p5 (by show b.next ≤ b.next + 1; omega)) (by omega) ?_), by omega, (stamp_parts hg.2.2.2.2.1).1, by omega⟩
    unfold there
    rw [List.any_eq_false]
    intro g hgm
    have := stand_ok p5 g hgm
    have h2 := (okGr_parts this.1).2.2.2.2.2.1
    simp only [decide_eq_true_eq]
    omega
  · simp [hk] at hs hm hfit ⊢
    refine ⟨okBk_of (by show 1 ≤ b.next + 1 ∧ b.next + 1 ≤ 1099511627777; omega) p2 p3 (by show (fresh r.id r.stamp b.gs).length ≤ 6; unfold fresh; rw [List.length_map]; exact p4) (stand_fresh hm.2 hfit.2 p5), by omega, (stamp_parts hm.2).1, hfit.2⟩
  · simp [hk] at hm hfit ⊢
    exact okBk_of p1 p2 p3 (Nat.le_trans (List.length_filter_le _ _) p4) (stand_without p5)
  · simp [hk] at hs ⊢
    exact ⟨okBk_of p1 (by show 0 ≤ b.boots + 1 ∧ b.boots + 1 ≤ 1099511627776; omega) p3 p4 p5, by omega⟩
/- The records of a book. -/
def play : Bk → List Rc → Option Bk
  | b, [] => some b
  | b, r :: l => if (apply b r).2 = 0 then play (apply b r).1 l else none
theorem play_append : ∀ (l m : List Rc) (b : Bk), play b (l ++ m) = (play b l).bind fun c => play c m
  | [], m, b => rfl
  | r :: l, m, b => by
    rw [List.cons_append, play, play]
    split
    · exact play_append l m _
    · rfl
theorem play_step {l : List Rc} {b d : Bk} (h : play b l = some d) {k : Nat} (hk : k < l.length) : ∃ c c', play b (l.take k) = some c ∧ apply c l[k] = (c', 0) ∧ play b (l.take (k + 1)) = some c' := by
  have e : l = l.take k ++ l[k] :: l.drop (k + 1) := by rw [← List.drop_eq_getElem_cons hk, List.take_append_drop]
  have h2 := h
  rw [e, play_append] at h2
  cases hc : play b (l.take k) with
  | none => rw [hc] at h2; cases h2
  | some c =>
    rw [hc] at h2
    simp only [Option.bind_some, play] at h2
    by_cases h0 : (apply c l[k]).2 = 0
    · refine ⟨c, (apply c l[k]).1, rfl, Prod.ext rfl h0, ?_⟩
      rw [List.take_add_one, List.getElem?_eq_getElem hk, play_append, hc]
      simp [play, h0]
    · rw [if_neg h0] at h2; cases h2
theorem stand_front {n : Int} {m : List Gr} : ∀ {l : List Gr} {a : Int}, stand a n (l ++ m) = true → stand a n l = true
  | [], _, _ => rfl
  | x :: l, a, h => by
    rw [List.cons_append] at h
    rw [stand_cons] at h ⊢
    exact ⟨h.1, h.2.1, h.2.2.1, stand_front h.2.2.2⟩
theorem stand_mid {n : Int} {g : Gr} {m : List Gr} : ∀ {l : List Gr} {a : Int}, stand a n (l ++ g :: m) = true → (∀ x ∈ l, x.id < g.id) ∧ okGr g = true ∧ last g.stamp < n
  | [], a, h => by
    rw [List.nil_append, stand_cons] at h
    exact ⟨by simp, h.1, h.2.2.1⟩
  | x :: l, a, h => by
    rw [List.cons_append, stand_cons] at h
    obtain ⟨k1, k2, k3⟩ := stand_mid h.2.2.2
    refine ⟨fun y hy => ?_, k2, k3⟩
    rcases List.mem_cons.1 hy with rfl | hy
    · exact (stand_ok h.2.2.2 g (by simp)).2.1
    · exact k1 y hy
theorem ins_end {g : Gr} : ∀ {l : List Gr}, (∀ x ∈ l, x.id < g.id) → ins g l = l ++ [g]
  | [], _ => rfl
  | x :: l, h => by
    rw [ins_cons, if_pos (h x (by simp)), ins_end (fun y hy => h y (by simp [hy]))]
    rfl
theorem apply_of {b : Bk} {r : Rc} (h : fault b r = 0) : apply b r = (behind b r, 0) := by
  unfold apply
  rw [if_pos h]
theorem play_kept (n : Int) (o q : Int) (h1 : 1 ≤ n ∧ n ≤ 1099511627777) (h2 : 0 ≤ o ∧ o ≤ 1099511627776) (h3 : q = 0 ∨ TM.legal q = true) : ∀ (m l : List Gr), (l ++ m).length ≤ 6 → stand 0 n (l ++ m) = true →
    play ⟨n, o, q, l⟩ (m.map fun g => { r0 with kind := 3, g := g }) = some ⟨n, o, q, l ++ m⟩
  | [], l, _, _ => by rw [List.append_nil]; rfl
  | g :: m, l, h6, hst => by
    obtain ⟨m1, m2, m3⟩ := stand_mid hst
    have hbk : okBk ⟨n, o, q, l⟩ = true := okBk_of h1 h2 h3 (by show l.length ≤ 6; simp at h6; omega) (stand_front hst)
    have hrc : okRc { r0 with kind := 3, g := g } = true := by
      unfold okRc mayUse used
      simp [m2, r0]
    have hf : fault ⟨n, o, q, l⟩ { r0 with kind := 3, g := g } = 0 := by
      refine fault_of hbk hrc (by simp [spent]) ?_ ?_
      · simp only [full, Bool.and_eq_false_iff, decide_eq_false_iff_not]
        right
        simp at h6
        omega
      · simp only [fits]
        simp only [m3, decide_true, Bool.and_true, Int.reduceEq, if_false, if_true, Bool.not_eq_true']
        unfold there
        rw [List.any_eq_false]
        intro x hx
        have := m1 x hx
        simp only [decide_eq_true_eq]
        omega
    rw [List.map_cons, play, apply_of hf]
    have hb : behind ⟨n, o, q, l⟩ { r0 with kind := 3, g := g } = ⟨n, o, q, l ++ [g]⟩ := by
      simp [behind, ins_end m1]
    have e : l ++ g :: m = (l ++ [g]) ++ m := by simp
    rw [hb, if_pos rfl, e]
    rw [e] at h6 hst
    exact play_kept n o q h1 h2 h3 m (l ++ [g]) h6 hst
theorem dump_play {b : Bk} (h : okBk b = true) : play new (dump b) = some b := by
  obtain ⟨p1, p2, p3, p4, p5⟩ := okBk_parts h
  unfold dump
  rw [if_pos h, play]
  have hf : fault new { r0 with kind := 1, next := b.next, boots := b.boots } = 0 := by
    refine fault_of okBk_new ?_ (by simp [spent]) (by simp [full]) (by simp [fits])
    unfold okRc mayUse used isNext isBoots
    simp [r0, p1, p2]
  rw [apply_of hf, if_pos rfl]
  have hb : behind new { r0 with kind := 1, next := b.next, boots := b.boots } = ⟨b.next, b.boots, 0, []⟩ := by simp [behind, new]
  rw [hb]
  by_cases h0 : b.longest = 0
  · rw [if_pos h0, List.nil_append]
    have := play_kept b.next b.boots 0 p1 p2 (.inl rfl) b.gs [] (by simpa using p4) (by simpa using p5)
    rw [this]
    cases b
    simp at h0 ⊢
    exact h0.symm
  · rw [if_neg h0, List.singleton_append, play]
    have hl : TM.legal b.longest = true := p3.resolve_left h0
    have hf2 : fault ⟨b.next, b.boots, 0, []⟩ { r0 with kind := 2, longest := b.longest } = 0 := by
      refine fault_of (okBk_of p1 p2 (.inl rfl) (by simp) rfl) ?_ (by simp [spent]) (by simp [full]) ?_
      · unfold okRc mayUse used
        simp [r0, hl]
      · have := legal_rng hl
        simp [fits]
        omega
    rw [apply_of hf2, if_pos rfl]
    have hb2 : behind ⟨b.next, b.boots, 0, []⟩ { r0 with kind := 2, longest := b.longest } = ⟨b.next, b.boots, b.longest, []⟩ := by simp [behind]
    rw [hb2]
    exact play_kept b.next b.boots b.longest p1 p2 p3 b.gs [] (by simpa using p4) (by simpa using p5)
theorem dump_len (b : Bk) (h : okBk b = true) : 1 ≤ (dump b).length ∧ (dump b).length ≤ b.gs.length + 2 ∧ (dump b).length ≤ 8 := by
  have := (okBk_parts h).2.2.2.1
  unfold dump
  rw [if_pos h]
  split <;> simp <;> omega
end Go.Proofs.Ytboflkadabagfab.BM
