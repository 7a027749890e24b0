/- Clash of a set, and of nil. -/
import Derived.Test.YtpfljooceppcbaaDoorPtClash
import Derived.Test.YtpfljooceppcbaaDoorPsBase
import Derived.Deep.RegionHeld3
namespace Go.Proofs.YtpfljooceppcbaaDoor
open Go.RowKit
open SE (Ent)
open PM (str)
open PT (blk ids set cut kidPairs lies Agrees segs)
set_option linter.unusedVariables false
set_option maxRecDepth 100000
/-- Is an entry struck from what clashes? -/
def spared (m who : Int) (e : Ent) : Bool := decide (e.who = who) || SE.together e.mode m
theorem entPairs_keys {l : List Ent} (h : (l.map (·.id)).Nodup) : ((entPairs l).map (·.1)).Nodup := by
  unfold entPairs
  rw [List.map_map]
  induction l with
  | nil => simp
  | cons a r ih =>
    rw [List.map_cons, List.nodup_cons] at h
    rw [List.map_cons, List.nodup_cons]
    refine ⟨fun hm => ?_, ih h.2⟩
    obtain ⟨x, hx, e⟩ := List.mem_map.1 hm
    have e2 : x.id = a.id := by
      simp only [Function.comp_apply] at e
      injection e
    exact h.1 (List.mem_map.2 ⟨x, hx, e2⟩)
theorem entPairs_mem {l : List Ent} {e : Ent} (h : e ∈ l) : (Value.int .i64 e.id, agg e) ∈ entPairs l := List.mem_map.2 ⟨e, h, rfl⟩
theorem entPairs_no {l : List Ent} {id : Int} (h : ∀ e ∈ l, e.id ≠ id) : ∀ q ∈ entPairs l, q.1 ≠ Value.int .i64 id := by
  intro q hq e
  obtain ⟨x, hx, rfl⟩ := List.mem_map.1 hq
  have : x.id = id := by simp only at e; injection e
  exact h x hx this
theorem key_int (x : Int) : MapKept.IsKey (.int .i64) (.int .i64 x) := by simp [MapKept.IsKey]
section
variable {w : World} {g M : Nat} {L D : List Ent} {T : Tr} {own : Owner}
theorem SetAt.ids (h : SetAt w g L T own M D) : (D.map (·.id)).Nodup := (h.perm.map _).nodup_iff.2 h.inv.ids
theorem SetAt.look (h : SetAt w g L T own M D) {e : Ent} (he : e ∈ L) (c : Bool) : (Instr.lookup 45 (.map (some M)) (.int .i64 e.id) c).run Tryd.prog w = .ok (if c then .tuple #[agg e, .bool true] else agg e) w :=
  h.map.look_yes Tryd.underlying45 Tryd.underlying3 (entPairs_keys h.ids) (entPairs_mem (h.perm.mem_iff.2 he)) c
theorem SetAt.look_none (h : SetAt w g L T own M D) {id : Int} (hn : ∀ e ∈ L, e.id ≠ id) (c : Bool) : (Instr.lookup 45 (.map (some M)) (.int .i64 id) c).run Tryd.prog w = .ok (if c then .tuple #[agg noEnt, .bool false] else agg noEnt) w :=
  h.map.look_no Tryd.underlying45 Tryd.underlying3 (key_int id) (entPairs_no fun e he => hn e (h.perm.mem_iff.1 he)) (Tryd.zeroValue25 w) c
end
set_option maxHeartbeats 1000000 in
theorem Clash1_any {w : World} {g M : Nat} {L D : List Ent} {T : Tr} {own : Owner} (hS : SetAt w g L T own M D) (e : Ent) (he : e ∈ L) (m who : Int) (bs bw bm : Nat)
    (c1 : w.cell? ⟨bs, 0, none⟩ = some (.pointer (some ⟨g, 0, none⟩))) (c2 : w.cell? ⟨bw, 0, none⟩ = some (.int .i64 who)) (c3 : w.cell? ⟨bm, 0, none⟩ = some (.int .i64 m)) (hw : bw < w.heap.size) (hm : bm < w.heap.size) :
    Calls Tryd.prog 32 (#[.int .i64 e.id] ++ #[.pointer (some ⟨bs, 0, none⟩), .pointer (some ⟨bw, 0, none⟩), .pointer (some ⟨bm, 0, none⟩)]) w fun x w' => x = .returned (.bool (spared m who e)) ∧ Below w.heap.size w w' := by
  have HL := Lib.hid (hS.look he false)
  have c0 := hS.cell0
  have HG := Lib.hid (fun W => goTogether_any e.mode m W)
  clear hS
  unfold agg at HL
  show Calls Tryd.prog 32 #[.int .i64 e.id, .pointer (some ⟨bs, 0, none⟩), .pointer (some ⟨bw, 0, none⟩), .pointer (some ⟨bm, 0, none⟩)] w _
  have HB := Lib.hid (fun o => (Below.refl w.heap.size w).alloc (Nat.le_refl _) o)
  by_cases hq : e.who = who
  · have HQ := Lib.hid (show true = spared m who e by unfold spared; rw [decide_eq_true hq]; rfl)
    subst hq
    go_enter Tryd.func32, Tryd.ntmps32
    go_wp2_with (at_lookup; refine wp_look rfl _ _ _ _ rfl _ _ _ rfl rfl HL.out ?_)
    go_ret
    exact ⟨ret_bool HQ.out, HB.out _⟩
  · have HQ := Lib.hid (show SE.together e.mode m = spared m who e by unfold spared; rw [decide_eq_false hq]; rfl)
    have hd : (e.who == who) = false := beq_eq_false_iff_ne.2 hq
    go_enter Tryd.func32, Tryd.ntmps32
    go_wp2_with (at_lookup; refine wp_look rfl _ _ _ _ rfl _ _ _ rfl rfl HL.out ?_)
    refine (HG.out _).mono ?_
    rintro x w' ⟨rfl, rfl⟩
    go_wp2_with fail
    go_ret
    exact ⟨ret_bool HQ.out, HB.out _⟩
/-- Of a list of Ids those that are not spared. -/
theorem clash_list {L : List Ent} {q : List UInt8} {m who : Int} (hI : SE.Inv L) (hm : SE.okMode m = true) :
    ((Lib.compact (SE.rise (SE.over L q ++ SE.under L q))).filter fun x => !spared m who (getE L x)) = SE.clash L q m who := by
  have hR := SE.rise_rises (SE.over L q ++ SE.under L q)
  have hC := compact_climbs hR
  have hF : climbs ((Lib.compact (SE.rise (SE.over L q ++ SE.under L q))).filter fun x => !spared m who (getE L x)) := hC.sublist List.filter_sublist
  unfold SE.clash
  refine SE.rise_eq (hF.imp fun h => Int.le_of_lt h) ?_
  have hnd : ((L.filter (SE.against q m who)).map (·.id)).Nodup := hI.ids.sublist (List.filter_sublist.map _)
  refine (List.perm_ext_iff_of_nodup (hF.imp fun h => Int.ne_of_lt h) hnd).2 fun x => ?_
  rw [List.mem_filter, compact_mem hR, SE.rise_mem, List.mem_append, List.mem_map]
  unfold SE.over SE.under
  rw [SE.rise_mem, SE.rise_mem, List.mem_map, List.mem_map]
  have key : ∀ e ∈ L, (SE.against q m who e = true ↔ (PM.cov (SE.p e) q = true ∨ PM.cov q (SE.p e) = true) ∧ spared m who e = false) := fun e _ => by
    unfold SE.against SE.lap spared
    rw [hm]
    simp only [Bool.true_and, Bool.and_eq_true, Bool.or_eq_true, Bool.not_eq_true', Bool.or_eq_false_iff, decide_eq_true_eq, decide_eq_false_iff_not]
    exact ⟨fun ⟨⟨a, b⟩, c⟩ => ⟨a, b, c⟩, fun ⟨a, b, c⟩ => ⟨⟨a, b⟩, c⟩⟩
  constructor
  · rintro ⟨h, hs⟩
    have hs' : spared m who (getE L x) = false := by simpa using hs
    rcases h with ⟨e, he, rfl⟩ | ⟨e, he, rfl⟩
    · obtain ⟨h1, h2⟩ := List.mem_filter.1 he
      rw [getE_of hI.ids h1] at hs'
      exact ⟨e, List.mem_filter.2 ⟨h1, (key e h1).2 ⟨.inl h2, hs'⟩⟩, rfl⟩
    · obtain ⟨h1, h2⟩ := List.mem_filter.1 he
      rw [getE_of hI.ids h1] at hs'
      exact ⟨e, List.mem_filter.2 ⟨h1, (key e h1).2 ⟨.inr h2, hs'⟩⟩, rfl⟩
  · rintro ⟨e, he, rfl⟩
    obtain ⟨h1, h2⟩ := List.mem_filter.1 he
    obtain ⟨h3, h4⟩ := (key e h1).1 h2
    rw [getE_of hI.ids h1, h4]
    refine ⟨?_, rfl⟩
    rcases h3 with h3 | h3
    · exact .inl ⟨e, List.mem_filter.2 ⟨h1, h3⟩, rfl⟩
    · exact .inr ⟨e, List.mem_filter.2 ⟨h1, h3⟩, rfl⟩
theorem clash_bad {L : List Ent} {q : List UInt8} {m who : Int} (hm : SE.okMode m = false) : SE.clash L q m who = [] := by
  unfold SE.clash
  have : L.filter (SE.against q m who) = [] := List.filter_eq_nil_iff.2 fun e _ => by unfold SE.against; rw [hm]; simp
  rw [this]; rfl
theorem one_nil {w w' : World} (h : Below w.heap.size w w') : OneI w [] (.returned (.slice none 0 0)) w' :=
  ⟨none, 0, 0, rfl, Lib.hid rfl, Lib.hid (IntsAt.nil _ _), Lib.hid ⟨rfl, .inl ⟨rfl, rfl⟩⟩, Lib.hid h, Nat.le_refl _, by omega⟩
/-- Three boxes laid one behind the other. -/
theorem boxes3 (w : World) (x y z : Value) {t1 t2 t3 : TypeId} :
    (((w.alloc (.cells #[x] t1)).alloc (.cells #[y] t2)).alloc (.cells #[z] t3)).cell? ⟨w.heap.size, 0, none⟩ = some x ∧
    (((w.alloc (.cells #[x] t1)).alloc (.cells #[y] t2)).alloc (.cells #[z] t3)).cell? ⟨w.heap.size + 1, 0, none⟩ = some y ∧
    (((w.alloc (.cells #[x] t1)).alloc (.cells #[y] t2)).alloc (.cells #[z] t3)).cell? ⟨w.heap.size + 1 + 1, 0, none⟩ = some z ∧
    Below w.heap.size w (((w.alloc (.cells #[x] t1)).alloc (.cells #[y] t2)).alloc (.cells #[z] t3)) := by
  refine ⟨?_, ?_, ?_, (((Below.refl _ w).alloc (Nat.le_refl _) _).alloc (by simp) _).alloc (by simp; omega) _⟩
  · exact (((Whole.new w t1 #[x]).alloc _).alloc _).cell 0
  · have := ((Whole.new (w.alloc (.cells #[x] t1)) t2 #[y]).alloc (.cells #[z] t3)).cell 0
    rw [World.size_alloc] at this
    exact this
  · have := (Whole.new ((w.alloc (.cells #[x] t1)).alloc (.cells #[y] t2)) t3 #[z]).cell 0
    rw [World.size_alloc, World.size_alloc] at this
    exact this
set_option maxHeartbeats 1000000 in
theorem Clash_bad (s : Option Addr) (q : ByteArray) (m who : Int) (w : World) (hm : SE.okMode m = false) : Calls Tryd.prog 13 #[.pointer s, .string q, .int .i64 m, .int .i64 who] w (OneI w []) := by
  have HC := Lib.hid (fun W => isMode_any m W)
  rw [hm] at HC
  go_enter Tryd.func13, Tryd.ntmps13
  go_wp2_with fail
  refine (HC.out _).mono ?_
  rintro e w' ⟨rfl, rfl⟩
  go_wp2_with fail
  go_ret
  exact one_nil (boxes3 w _ _ _).2.2.2
theorem OneI.from {w w1 w' : World} {xs : List Int} {e : Ending} (h : OneI w1 xs e w') (hb : Below w.heap.size w w1) : OneI w xs e w' := by
  obtain ⟨A, n, c, e, m1, m2, m3, m4, m5, m6⟩ := h
  exact ⟨A, n, c, e, m1, m2, Lib.hid (row_lower m3.out hb.size), Lib.hid (hb.trans (m4.out.mono hb.size)), m5, m6⟩
theorem OneI.parts {w w' : World} {xs : List Int} {e : Ending} (h : OneI w xs e w') : ∃ A c, e = .returned (.slice A xs.length c) ∧ Hid (IntsAt w' A xs) ∧ Hid (Below w.heap.size w w') := by
  obtain ⟨A, n, c, e, m1, m2, m3, m4, m5, m6⟩ := h
  have := m1.out
  subst this
  exact ⟨A, c, e, m2, m4⟩
theorem box_on {w w' : World} {b : Nat} {v : Value} (h : w.cell? ⟨b, 0, none⟩ = some v) (hb : b < w.heap.size) (hw : Below w.heap.size w w') : w'.cell? ⟨b, 0, none⟩ = some v := (hw.cell (p := ⟨b, 0, none⟩) hb).trans h
theorem grew_lower {w a b : World} {xs : List Int} {v : Value} (h : Grew a xs v b) (hb : Below w.heap.size w a) : Grew w xs v b := ⟨row_lower h.1 hb.size, hb.trans (h.2.mono hb.size)⟩
theorem clash_tells {w : World} {g M : Nat} {L D : List Ent} {T : Tr} {own : Owner} (hS : SetAt w g L T own M D) (m who : Int) (bs bw bm : Nat)
    (c1 : w.cell? ⟨bs, 0, none⟩ = some (.pointer (some ⟨g, 0, none⟩))) (c2 : w.cell? ⟨bw, 0, none⟩ = some (.int .i64 who)) (c3 : w.cell? ⟨bm, 0, none⟩ = some (.int .i64 m)) (hs : bs < w.heap.size) (hw : bw < w.heap.size) (hm : bm < w.heap.size) (xs : List Int) (hx : ∀ x ∈ xs, ∃ e ∈ L, e.id = x) :
    Tells 32 #[.pointer (some ⟨bs, 0, none⟩), .pointer (some ⟨bw, 0, none⟩), .pointer (some ⟨bm, 0, none⟩)] (fun x => spared m who (getE L x)) xs (fun W => Below w.heap.size w W) := by
  intro x hxx W hW
  obtain ⟨e, he, rfl⟩ := hx x hxx
  show Calls _ _ _ _ (fun e_1 W' => e_1 = .returned (.bool (spared m who (getE L e.id))) ∧ _)
  rw [getE_of hS.inv.ids he]
  exact Clash1_any (hS.below hW) e he m who bs bw bm (box_on c1 hs hW) (box_on c2 hw hW) (box_on c3 hm hW) (Nat.lt_of_lt_of_le hw hW.size) (Nat.lt_of_lt_of_le hm hW.size)
theorem concat_at {w : World} {A1 A2 : Option Addr} {c1 c2 : Nat} {xs ys : List Int} (hx : IntsAt w A1 xs) (hy : IntsAt w A2 ys) (hlx : xs.length ≤ 64) (hly : ys.length ≤ 64) :
    Calls Tryd.prog 28 #[.slice (some ⟨w.heap.size, 0, none⟩) 2 2] (w.alloc (.cells #[.slice A1 xs.length c1, .slice A2 ys.length c2] 36)) fun e w' => ∃ v, e = .returned v ∧ Grew w (xs ++ ys) v w' := by
  have hb := (Below.refl w.heap.size w).alloc (Nat.le_refl _) (.cells #[.slice A1 xs.length c1, .slice A2 ys.length c2] 36)
  refine (Concat_two w.heap.size c1 c2 A1 A2 xs ys _ (by simp) ((Whole.new w _ _).cell 0) ((Whole.new w _ _).cell 1) (hx.below hb) (hy.below hb) hlx hly).mono ?_
  rintro e w' ⟨v, rfl, h1, h2⟩
  exact ⟨v, rfl, row_lower h1 hb.size, hb.trans (h2.mono hb.size)⟩
set_option maxHeartbeats 4000000 in
/-- Clash, by what Over and Under hand back and what the function tells of it. -/
theorem Clash_gen (s : Option Addr) (q : ByteArray) (m who : Int) (w : World) (hm : SE.okMode m = true) (O U R : List Int) (f : Int → Bool) (hlo : O.length ≤ 64) (hlu : U.length ≤ 64)
    (hov : ∀ W, Below w.heap.size w W → Calls Tryd.prog 14 #[.pointer s, .string q] W (OneI W O))
    (hun : ∀ W, Below w.heap.size w W → Calls Tryd.prog 15 #[.pointer s, .string q] W (OneI W U))
    (hte : ∀ W, Below w.heap.size w W → W.cell? ⟨w.heap.size, 0, none⟩ = some (.pointer s) → W.cell? ⟨w.heap.size + 1 + 1, 0, none⟩ = some (.int .i64 who) → W.cell? ⟨w.heap.size + 1, 0, none⟩ = some (.int .i64 m) → w.heap.size + 1 + 1 < W.heap.size →
      Tells 32 #[.pointer (some ⟨w.heap.size, 0, none⟩), .pointer (some ⟨w.heap.size + 1 + 1, 0, none⟩), .pointer (some ⟨w.heap.size + 1, 0, none⟩)] f (Lib.compact (SE.rise (O ++ U))) (fun W' => Below W.heap.size W W'))
    (hr : ((Lib.compact (SE.rise (O ++ U))).filter fun x => !f x) = R) :
    Calls Tryd.prog 13 #[.pointer s, .string q, .int .i64 m, .int .i64 who] w (OneI w R) := by
  have HC := Lib.hid (fun W => isMode_any m W)
  rw [hm] at HC
  have HB3 := Lib.hid (boxes3 w (.pointer s) (.int .i64 m) (.int .i64 who) (t1 := 27) (t2 := 23) (t3 := 3))
  obtain ⟨b1, b2, b3, hb3⟩ := HB3.out
  have HW3 := Lib.hid (show Below w.heap.size w (((w.alloc (.cells #[.pointer s] 27)).alloc (.cells #[.int .i64 m] 23)).alloc (.cells #[.int .i64 who] 3)).drew from hb3.drew)
  have HOV := Lib.hid hov; have HUN := Lib.hid hun; have HTE := Lib.hid hte; have HR := Lib.hid hr
  have HB1 := Lib.hid (show (((w.alloc (.cells #[.pointer s] 27)).alloc (.cells #[.int .i64 m] 23)).alloc (.cells #[.int .i64 who] 3)).drew.cell? ⟨w.heap.size, 0, none⟩ = some (.pointer s) from b1)
  have HSZ := Lib.hid (show w.heap.size < (((w.alloc (.cells #[.pointer s] 27)).alloc (.cells #[.int .i64 m] 23)).alloc (.cells #[.int .i64 who] 3)).drew.heap.size by show w.heap.size < (((w.alloc (.cells #[.pointer s] 27)).alloc (.cells #[.int .i64 m] 23)).alloc (.cells #[.int .i64 who] 3)).heap.size; rw [World.size_alloc, World.size_alloc, World.size_alloc]; omega)
  clear hov hun hte hr hb3 hm
  go_enter Tryd.func13, Tryd.ntmps13
  go_wp2_with fail
  refine (HC.out _).mono ?_
  rintro e w' ⟨rfl, rfl⟩
  go_wp2_with fail
  go_region_held3 (fun w' => w'.cell? ⟨w.heap.size, 0, none⟩ = some (.pointer s))
    (first
      | (go_keep; done)
      | exact HSK)
    (first
      | (go_at_call 28; refine (concat_at HI6.out HI7.out hlo hlu).mono ?_; rintro x8 w8 ⟨v8, rfl, h8⟩; have HG8 := Lib.hid h8; have HGG := Lib.hid (grew_lower h8 HBK.out); replace HSK := box_on HSK HLK.out h8.2; clear h8)
      | (go_at_call 14; first
          | (refine (HOV.out _ HW7.out).mono ?_; rintro x6 w6 k6; obtain ⟨A6, c6, rfl, HI6, HB6⟩ := k6.parts; clear k6; replace HI7 := Lib.hid (HI7.out.below HB6.out); have HBK := Lib.hid (below_on HB7.out HB6.out); have HSK := box_on HQ7.out HL7.out HB6.out; have HLK := Lib.hid (Nat.lt_of_lt_of_le HL7.out HB6.out.size))
          | (refine (HOV.out _ HW3.out).mono ?_; rintro x6 w6 k6; obtain ⟨A6, c6, rfl, HI6, HB6⟩ := k6.parts; clear k6; have HW6 := Lib.hid (below_on HW3.out HB6.out); have HSK := box_on HB1.out HSZ.out HB6.out; have HQ6 := Lib.hid HSK; have HL6 := Lib.hid (Nat.lt_of_lt_of_le HSZ.out HB6.out.size)))
      | (go_at_call 15; first
          | (refine (HUN.out _ HW6.out).mono ?_; rintro x7 w7 k7; obtain ⟨A7, c7, rfl, HI7, HB7⟩ := k7.parts; clear k7; replace HI6 := Lib.hid (HI6.out.below HB7.out); have HBK := Lib.hid (below_on HB6.out HB7.out); have HSK := box_on HQ6.out HL6.out HB7.out; have HLK := Lib.hid (Nat.lt_of_lt_of_le HL6.out HB7.out.size))
          | (refine (HUN.out _ HW3.out).mono ?_; rintro x7 w7 k7; obtain ⟨A7, c7, rfl, HI7, HB7⟩ := k7.parts; clear k7; have HW7 := Lib.hid (below_on HW3.out HB7.out); have HSK := box_on HB1.out HSZ.out HB7.out; have HQ7 := Lib.hid HSK; have HL7 := Lib.hid (Nat.lt_of_lt_of_le HSZ.out HB7.out.size))))
  all_goals
    have HC9 := Lib.hid (Sort_grew HGG.out (by rw [List.length_append]; omega))
    obtain ⟨A8, c8, e8, h81, h82⟩ := own_shape HGG.out.1
    subst e8
    have hlen : (O ++ U).length = (SE.rise (O ++ U)).length := (SE.rise_len _).symm
    rw [hlen] at HC9 h81 ⊢
    have hl8 : (SE.rise (O ++ U)).length ≤ 128 := by rw [SE.rise_len, List.length_append]; omega
    have HT := Lib.hid (HTE.out _ HW3.out HB1.out (show World.cell? _ _ = _ from b3) (show World.cell? _ _ = _ from b2) (by show w.heap.size + 1 + 1 < (World.alloc (World.alloc (World.alloc w _) _) _).heap.size; rw [World.size_alloc, World.size_alloc, World.size_alloc]; omega))
    clear hlen hlo hlu HTE b1 b2 b3 HB3 HB1 HSZ
    generalize SE.rise (O ++ U) = rs at *
    generalize (((w.alloc (.cells #[.pointer s] 27)).alloc (.cells #[.int .i64 m] 23)).alloc (.cells #[.int .i64 who] 3)).drew = W3 at *
    go_wp2_with fail
    refine HC9.out.mono ?_
    rintro e w9 ⟨rfl, hg9⟩
    have HG9 := Lib.hid hg9
    have HC10 := Lib.hid (Compact_row hg9.1 (by omega))
    clear hg9
    go_wp2_with fail
    refine HC10.out.mono ?_
    rintro e w10 ⟨rfl, hr10, hg10⟩
    have HB10 := Lib.hid (show Below W3.heap.size W3 w10 from HG9.out.2.grown hg10 HG9.out.2.size (fun k hk => (HG9.out.1.lt k hk).1))
    have HR10 := Lib.hid hr10
    have hlow : ∀ k ∈ (Value.slice A8 (Lib.compact rs).length c8).ownBlock.toList, W3.heap.size ≤ k := fun k hk => (hr10.lt k (Option.mem_toList.1 hk)).1
    have HC11 := Lib.hid (DeleteFunc_row 32 _ _ (enters_of Tryd.func32 (by kernel_rfl) rfl) hr10 (HT.out.mono fun W hW => HB10.out.trans (hW.below HB10.out.size hlow)))
    have HLOW := Lib.hid hlow
    clear hr10 hg10 hlow
    go_wp2_with fail
    refine HC11.out.mono ?_
    rintro e w11 ⟨rfl, hr11, hm11⟩
    have HR11 := Lib.hid hr11
    have HB11 := Lib.hid (show Below W3.heap.size W3 w11 from HB10.out.trans (hm11.below HB10.out.size HLOW.out))
    clear hr11 hm11
    go_wp2_with fail
    go_ret
    have hr := HR11.out
    rw [HR.out] at hr ⊢
    obtain ⟨_, _, ee, k1, k2⟩ := own_shape hr
    injection ee with ee1 ee2 ee3
    subst ee3
    exact ⟨A8, _, _, rfl, Lib.hid rfl, Lib.hid (IntsAt.own hr), Lib.hid (row_lower hr HW3.out.size), Lib.hid (HW3.out.trans (HB11.out.mono HW3.out.size)), k1, k2⟩
theorem Clash_set {g M : Nat} {L D : List Ent} {T : Tr} {own : Owner} (q : ByteArray) (m who : Int) (w : World) (hx : HasMax w) (hq : q.size ≤ 140737488351232) (hS : SetAt w g L T own M D) :
    Calls Tryd.prog 13 #[.pointer (some ⟨g, 0, none⟩), .string q, .int .i64 m, .int .i64 who] w (OneI w (SE.clash L q.data.toList m who)) := by
  cases hm : SE.okMode m with
  | false =>
    rw [clash_bad hm]
    exact Clash_bad _ q m who w hm
  | true =>
    have hlo : (SE.over L q.data.toList).length ≤ 64 := by
      unfold SE.over
      rw [SE.rise_len, List.length_map]
      exact Nat.le_trans (List.length_filter_le _ _) hS.inv.len
    have hlu : (SE.under L q.data.toList).length ≤ 64 := by
      unfold SE.under
      rw [SE.rise_len, List.length_map]
      exact Nat.le_trans (List.length_filter_le _ _) hS.inv.len
    refine Clash_gen _ q m who w hm _ _ _ (fun x => spared m who (getE L x)) hlo hlu (fun W hb => Over_set q W (hx.below hb) hq (hS.below hb)) (fun W hb => Under_set q W (hx.below hb) hq (hS.below hb)) ?_ (clash_list hS.inv hm)
    intro W hb c1 c2 c3 hlt
    refine clash_tells (hS.below hb) m who _ _ _ c1 c2 c3 (by omega) hlt (by omega) _ fun x hx => ?_
    rw [compact_mem (SE.rise_rises _), SE.rise_mem, List.mem_append] at hx
    unfold SE.over SE.under at hx
    rw [SE.rise_mem, SE.rise_mem, List.mem_map, List.mem_map] at hx
    rcases hx with ⟨e, he, h⟩ | ⟨e, he, h⟩
    · exact ⟨e, (List.mem_filter.1 he).1, h⟩
    · exact ⟨e, (List.mem_filter.1 he).1, h⟩
theorem Clash_nil (q : ByteArray) (m who : Int) (w : World) (hx : HasMax w) (hq : q.size ≤ 140737488351232) :
    Calls Tryd.prog 13 #[.pointer none, .string q, .int .i64 m, .int .i64 who] w (OneI w []) := by
  cases hm : SE.okMode m with
  | false => exact Clash_bad _ q m who w hm
  | true =>
    have h0 : Lib.compact (SE.rise ([] ++ [])) = [] := by rfl
    refine Clash_gen none q m who w hm [] [] [] (fun _ => true) (by simp) (by simp) (fun W hb => Over_nil q W (hx.below hb) hq) (fun W hb => Under_nil q W (hx.below hb) hq) ?_ (by rw [h0]; rfl)
    intro W hb _ _ _ _ x hxx
    rw [h0] at hxx
    cases hxx
end Go.Proofs.YtpfljooceppcbaaDoor
