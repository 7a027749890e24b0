/- Texts that belong together: BkW33, BkW34. -/
import Derived.Test.YtboflkadabagfabBkW31
import Derived.Test.YtboflkadabagfabBkW32
import Derived.Test.YtboflkadabagfabBkWX
namespace Go.Proofs.Ytboflkadabagfab
open Go.RowKit
open BM (Gr Rc Bk g0 r0 b0)
set_option linter.unusedVariables false
set_option linter.unusedSimpArgs false
set_option maxRecDepth 100000
def OwnRecPost (w : World) (r : Rc) (e : Ending) (w' : World) : Prop := ∃ v u, e = .returned (.agg (twelve r v u)) ∧ OwnI w' w.heap.size v r.g.stamp ∧ OwnI w' w.heap.size u r.stamp ∧ Below w.heap.size w w'
theorem HdI.parts' {w : World} {u : Value} {l : List Int} (h : HdI w u l) : l.length * 8 ≤ 140737488355328 ∧ ∀ x ∈ l, In64 x := by
  obtain ⟨A, c, _, hs⟩ := h
  exact ⟨hs.room, hs.rng⟩
theorem OwnRecPost.fit {w w' : World} {base : Nat} {v0 u0 v u : Value} {r : Rc} (h : FitR w v0 u0 r) (h1 : OwnI w' base v r.g.stamp) (h2 : OwnI w' base u r.stamp) : FitR w' v u r :=
  ⟨⟨h1.hd h.g.hd.parts'.1 h.g.hd.parts'.2, h.g.wide⟩, h2.hd h.st.parts'.1 h.st.parts'.2, h.kind, h.id, h.next, h.boots, h.longest⟩
theorem set6at (w : World) (g a0 a1 a2 a3 a4 a5 : Nat) (v0 v1 v2 v3 v4 v5 : Value) : Mod [g] w ((((((w.setCell ⟨g, a0, none⟩ v0).setCell ⟨g, a1, none⟩ v1).setCell ⟨g, a2, none⟩ v2).setCell ⟨g, a3, none⟩ v3).setCell ⟨g, a4, none⟩ v4).setCell ⟨g, a5, none⟩ v5) := mod6 w g a0 a1 a2 a3 a4 a5 v0 v1 v2 v3 v4 v5
theorem rec_frozen {w : World} {g : Nat} {cs : Array Value} (h : Whole w g 28 cs) (i : Nat) : w.frozen? ⟨g, i, none⟩ = false := h.frozen i
/-- The two boxes of the call: the record, the answer. -/
structure OrSt (w0 : World) (r : Rc) (s u : Value) (w : World) : Prop where
  kr : Whole w w0.heap.size 28 (twelve r s u)
  kz : Whole w (w0.heap.size + 1) 28 z12
  size : w0.heap.size + 2 ≤ w.heap.size
  below : Below w0.heap.size w0 w
theorem OrSt.on {w0 w w' : World} {r : Rc} {s u : Value} (h : OrSt w0 r s u w) (hb : Below w.heap.size w w') : OrSt w0 r s u w' :=
  ⟨(Mod.of_below hb []).whole h.kr (by simp), (Mod.of_below hb []).whole h.kz (by simp), Nat.le_trans h.size hb.size, below_on h.below hb⟩
theorem OrSt.mod {w0 w w' : World} {r : Rc} {s u s' u' : Value} (h : OrSt w0 r s u w) (hm : Mod [w0.heap.size] w w') (hk : Whole w' w0.heap.size 28 (twelve r s' u')) : OrSt w0 r s' u' w' :=
  ⟨hk, hm.whole h.kz (by simp), Nat.le_trans h.size hm.size, h.below.trans (hm.below (by have := h.size; omega) (by simp))⟩
theorem OrSt.start (w : World) (r : Rc) (s u : Value) : OrSt w r s u ((w.alloc (.cells (twelve r s u) 28)).alloc (.cells z12 28)) := by
  have hH : w.heap.size + 1 = (w.alloc (.cells (twelve r s u) 28)).heap.size := by simp
  exact ⟨(Whole.new w _ _).alloc _, by rw [hH]; exact Whole.new _ _ _, by simp, ((Below.refl _ w).alloc (Nat.le_refl _) _).alloc (by simp) _⟩
theorem zero12 {w : World} {g : Nat} (h : Whole w g 28 z12) : w.cell? ⟨g, 0, none⟩ = some (.int .i64 0) ∧ w.cell? ⟨g, 1, none⟩ = some (.int .i64 0) ∧ w.cell? ⟨g, 2, none⟩ = some (.int .i64 0) ∧ w.cell? ⟨g, 3, none⟩ = some (.string ⟨#[]⟩) ∧ w.cell? ⟨g, 4, none⟩ = some (.int .i64 0) ∧ w.cell? ⟨g, 5, none⟩ = some (.slice none 0 0) ∧ w.cell? ⟨g, 6, none⟩ = some (.int .i64 0) ∧ w.cell? ⟨g, 7, none⟩ = some (.int .i64 0) ∧ w.cell? ⟨g, 8, none⟩ = some (.slice none 0 0) ∧ w.cell? ⟨g, 9, none⟩ = some (.int .i64 0) ∧ w.cell? ⟨g, 10, none⟩ = some (.int .i64 0) ∧ w.cell? ⟨g, 11, none⟩ = some (.int .i64 0) := ⟨h.cell 0, h.cell 1, h.cell 2, h.cell 3, h.cell 4, h.cell 5, h.cell 6, h.cell 7, h.cell 8, h.cell 9, h.cell 10, h.cell 11⟩
theorem frozen12 {w : World} {g : Nat} {cs : Array Value} (h : Whole w g 28 cs) : w.frozen? ⟨g, 0, none⟩ = false ∧ w.frozen? ⟨g, 1, none⟩ = false ∧ w.frozen? ⟨g, 2, none⟩ = false ∧ w.frozen? ⟨g, 3, none⟩ = false ∧ w.frozen? ⟨g, 4, none⟩ = false ∧ w.frozen? ⟨g, 5, none⟩ = false ∧ w.frozen? ⟨g, 6, none⟩ = false ∧ w.frozen? ⟨g, 7, none⟩ = false ∧ w.frozen? ⟨g, 8, none⟩ = false ∧ w.frozen? ⟨g, 9, none⟩ = false ∧ w.frozen? ⟨g, 10, none⟩ = false ∧ w.frozen? ⟨g, 11, none⟩ = false := ⟨h.frozen 0, h.frozen 1, h.frozen 2, h.frozen 3, h.frozen 4, h.frozen 5, h.frozen 6, h.frozen 7, h.frozen 8, h.frozen 9, h.frozen 10, h.frozen 11⟩
set_option maxHeartbeats 8000000 in
theorem r_ownRec (v u : Value) (r : Rc) (w : World) (h : FitR w v u r) : Calls Try.prog 6 #[.agg (twelve r v u)] w (OwnRecPost w r) := by
  obtain ⟨A, c, hv, _⟩ := h.g.hd
  obtain ⟨B, d, hu, hsB⟩ := h.st
  subst hv hu
  have HSB := Lib.hid hsB
  clear hsB
  have HT := Lib.hid (OrSt.start w r (.slice A r.g.stamp.length c) (.slice B r.stamp.length d))
  have HR := Lib.hid (h.below HT.out.below)
  clear h
  obtain ⟨c0, c1, c2', c3, c4, c5, c6, c7, c8, c9, c10, c11⟩ := rec_cells HT.out.kr
  unfold z12 at HT HR
  go_enter Try.func6, Try.ntmps6
  unfold z12 at c0 c1 c2' c3 c4 c5 c6 c7 c8 c9 c10 c11
  go_wp2_with fail
  generalize ((w.alloc (.cells (twelve r (.slice A r.g.stamp.length c) (.slice B r.stamp.length d)) 28)).alloc (.cells #[.int .i64 0, .int .i64 0, .int .i64 0, .string ⟨#[]⟩, .int .i64 0, .slice none 0 0, .int .i64 0, .int .i64 0, .slice none 0 0, .int .i64 0, .int .i64 0, .int .i64 0] 28)) = w1 at HT HR c0 c1 c2' c3 c4 c5 c6 c7 c8 c9 c10 c11 ⊢
  refine (r_CopyGrant (.slice A r.g.stamp.length c) r.g w1 HR.out.g).mono ?_
  rintro e w2 ⟨nv, rfl, ho, hb⟩
  obtain ⟨A2, c2, hv2, _, _⟩ := own_shape ho
  subst hv2
  have HT2 := Lib.hid (HT.out.on hb)
  have HR2 := Lib.hid (HR.out.below hb)
  have HO2 := Lib.hid (own_low ho (show w.heap.size + 2 ≤ w1.heap.size from HT.out.size))
  clear ho hb HT HR c0 c1 c2' c3 c4 c5 c6 c7 c8 c9 c10 c11
  obtain ⟨c0, c1, c2', c3, c4, c5, c6, c7, c8, c9, c10, c11⟩ := rec_cells HT2.out.kr
  have f1 := HT2.out.kr.frozen 1
  have f2 := HT2.out.kr.frozen 2
  have f3 := HT2.out.kr.frozen 3
  have f4 := HT2.out.kr.frozen 4
  have f5 := HT2.out.kr.frozen 5
  have f6 := HT2.out.kr.frozen 6
  unfold six
  go_upto_region 2 with (fail)
  have hM3 : Mod [w.heap.size] w2 ((((((w2.setCell ⟨w.heap.size, 1, none⟩ (.int .i64 r.g.id)).setCell ⟨w.heap.size, 2, none⟩ (.int .i64 r.g.holder)).setCell ⟨w.heap.size, 3, none⟩ (.string r.g.path)).setCell ⟨w.heap.size, 4, none⟩ (.int .i64 r.g.mode)).setCell ⟨w.heap.size, 5, none⟩ (.slice A2 r.g.stamp.length c2)).setCell ⟨w.heap.size, 6, none⟩ (.int .i64 r.g.term)) := set6at w2 w.heap.size 1 2 3 4 5 6 _ _ _ _ _ _
  have HT3 := Lib.hid (HT2.out.mod (s' := .slice A2 r.g.stamp.length c2) (u' := (.slice B r.stamp.length d)) hM3 ((((((HT2.out.kr.store 1 (.int .i64 r.g.id)).store 2 (.int .i64 r.g.holder)).store 3 (.string r.g.path)).store 4 (.int .i64 r.g.mode)).store 5 (.slice A2 r.g.stamp.length c2)).store 6 (.int .i64 r.g.term)))
  have hne : ∀ k, (Value.slice A2 r.g.stamp.length c2).ownBlock = some k → k ∉ [w.heap.size] := fun k hk e => by
    have h1 := (HO2.out.lt k hk).1
    have h2 : k = w.heap.size := by simpa using e
    omega
  have HO3 := Lib.hid (hM3.own HO2.out hne)
  clear hne
  have HB3 := Lib.hid (HSB.out.ints.below HT3.out.below)
  clear hM3 HT2 HO2 c0 c1 c2' c3 c4 c5 c6 c7 c8 c9 c10 c11 f1 f2 f3 f4 f5 f6
  generalize ((((((w2.setCell ⟨w.heap.size, 1, none⟩ (.int .i64 r.g.id)).setCell ⟨w.heap.size, 2, none⟩ (.int .i64 r.g.holder)).setCell ⟨w.heap.size, 3, none⟩ (.string r.g.path)).setCell ⟨w.heap.size, 4, none⟩ (.int .i64 r.g.mode)).setCell ⟨w.heap.size, 5, none⟩ (.slice A2 r.g.stamp.length c2)).setCell ⟨w.heap.size, 6, none⟩ (.int .i64 r.g.term)) = w3 at HT3 HO3 HB3 ⊢
  have HX4 := Lib.hid ((Below.refl _ w3).alloc (Nat.le_refl _) (.cells #[] 3))
  have c8 : (w3.alloc (.cells #[] 3)).cell? ⟨w.heap.size, 8, none⟩ = some (.slice B r.stamp.length d) := (HT3.out.on HX4.out).kr.cell 8
  clear HX4
  have HL := Lib.hid HSB.out.room
  go_wp2_with (at_builtin; refine app_all rfl (.tmp 7) (.tmp 9) rfl B d _ r.stamp rfl HB3.out _ rfl rfl rfl HL.out ?_; intro A5 n5 c5 w5 hm5; obtain ⟨HN5, -, HO5, HF5, -, -⟩ := hm5; have e5 := HN5.out; subst e5; have HT5 := Lib.hid (HT3.out.on HF5.out); have HP5 := Lib.hid ((Mod.of_below HF5.out []).own HO3.out (by simp)); clear c8; have c8 : w5.cell? ⟨w.heap.size, 8, none⟩ = some (.slice B r.stamp.length d) := HT5.out.kr.cell 8; have f8 := HT5.out.kr.frozen 8; obtain ⟨c0, c1, c2', c3, c4, c5', c6, c7, _, c9, c10, c11⟩ := rec_cells HT5.out.kr; obtain ⟨z0, z1, z2, z3, z4, z5, z6, z7, z8, z9, z10, z11⟩ := zero12 HT5.out.kz; obtain ⟨y0, y1, y2, y3, y4, y5, y6, y7, y8, y9, y10, y11⟩ := frozen12 HT5.out.kz)
  refine bodyPost_ret (v := .agg (twelve r (.slice A2 r.g.stamp.length c2) (.slice A5 r.stamp.length c5))) (by simp [results, Try.results6, go_sem, z0, z1, z2, z3, z4, z5, z6, z7, z8, z9, z10, z11, twelve]) rfl ?_
  have hs3 : w.heap.size + 2 ≤ w3.heap.size := HT3.out.size
  have hM := ((Mod.refl [w.heap.size, w.heap.size + 1] w5).store (p := ⟨w.heap.size, 8, none⟩) (.inl (by simp)) (.slice A5 r.stamp.length c5)).trans (set12 (w5.setCell ⟨w.heap.size, 8, none⟩ (.slice A5 r.stamp.length c5)) (w.heap.size + 1) (.int .i64 r.kind) (.int .i64 r.g.id) (.int .i64 r.g.holder) (.string r.g.path) (.int .i64 r.g.mode) (.slice A2 r.g.stamp.length c2) (.int .i64 r.g.term) (.int .i64 r.id) (.slice A5 r.stamp.length c5) (.int .i64 r.next) (.int .i64 r.boots) (.int .i64 r.longest)) (fun x hx => by simp at hx; simp [hx])
  have hO2 := hM.own HP5.out (fun k hk e => by have h1 := (HP5.out.lt k hk).1; simp at e; omega)
  have hO5 := hM.own HO5.out (fun k hk e => by have h1 := (HO5.out.lt k hk).1; simp at e; omega)
  exact ⟨_, _, rfl, own_low hO2 (by omega), own_low hO5 (by omega), HT5.out.below.trans (hM.below HT5.out.below.size (by intro x hx; simp at hx; omega))⟩
end Go.Proofs.Ytboflkadabagfab
namespace Go.Proofs.Ytboflkadabagfab
open Go.RowKit
open BM (Gr Rc Bk g0 r0 b0)
set_option linter.unusedVariables false
set_option linter.unusedSimpArgs false
set_option maxRecDepth 100000
/-- One grant more behind a list of the call's own, however long. -/
theorem run_app_gr2 {W : World} {base : Nat} {v : Value} {ps : List (Gr × Value)} (ty : TypeId) (hown : OwnG W base v ps) {p : Nat} {g : Gr} {gv : Value} (h1 : gv.oneCell' = true) (hp : Whole W p 26 (six g gv)) (hl : (ps.length + 1) * 72 ≤ 140737488355328) (hb : base ≤ W.heap.size) (hgv : OwnI W base gv g.stamp) (hgw : GW g ∧ g.stamp.length * 8 ≤ 140737488355328 ∧ ∀ x ∈ g.stamp, In64 x) :
    ∃ v' w2, (Builtin.append_ #[43, 43] ty #[v, .slice (some ⟨p, 0, none⟩) 1 1]).run Try.prog W = .ok v' w2 ∧ OwnG w2 base v' (ps ++ [(g, gv)]) ∧ Mod v.ownBlock.toList W w2 := by
  obtain ⟨i0, hi, hz0, hz1, hz2⟩ := info_parts info_gr
  obtain ⟨v', w', hr, h2, h3, _, _⟩ := run_append_own_at (P := Try.prog) W base 43 ty 26 i0 (.agg z6) 6 72 Try.underlying43 hi hz0 hz1 hz2 rfl (by decide) v ps.length (flat ps) hown.row ⟨p, 0, none⟩ 1 1 (six g gv).toList rfl
    (World.news_of_block (cs := six g gv) (t := 26) (fr := (0, 0)) hp) (six_one h1) (by unfold maxLen; omega) hl hb
  have hM : Mod v.ownBlock.toList W w' := (Mod.refl _ W).grown h3 (fun k hk => .inl (by rw [hk]; simp))
  have hst : ∀ q : Gr × Value, OwnI W base q.2 q.1.stamp → OwnI w' base q.2 q.1.stamp := fun q hq => hM.own hq (fun k hk hf => by
    have hvb : v.ownBlock = some k := by simpa using hf
    rcases hown.row.2 with ⟨e, _⟩ | ⟨g', cap, cur, hv, _, hh, _⟩
    · rw [e] at hvb; cases hvb
    · have e : g' = k := by rw [hv] at hvb; simpa [Value.ownBlock] using hvb
      subst e
      exact own_ne hq (show Whole W g' 26 cur from hh) (by decide) hk)
  refine ⟨v', w', hr, ⟨?_, ?_, ?_, ?_⟩, hM⟩
  · rw [List.length_append, flat_append]; exact h2
  · intro q hq
    rcases List.mem_append.1 hq with hq | hq
    · exact hst q (hown.st q hq)
    · rw [List.mem_singleton.1 hq]; exact hst (g, gv) hgv
  · intro q hq
    rcases List.mem_append.1 hq with hq | hq
    · exact hown.wide q hq
    · rw [List.mem_singleton.1 hq]; exact hgw
  · rw [List.length_append, List.length_singleton]; exact hl
/-- The three boxes of Copy: the book, the answer, the copy under way. -/
structure CpSt (w0 : World) (b : Bk) (v L : Value) (ps : List (Gr × Value)) (w : World) : Prop where
  kb : Whole w w0.heap.size 45 (four b v)
  kz : Whole w (w0.heap.size + 1) 45 z4
  ko : Whole w (w0.heap.size + 1 + 1) 45 (four b L)
  own : OwnG w (w0.heap.size + 3) L ps
  size : w0.heap.size + 3 ≤ w.heap.size
  below : Below w0.heap.size w0 w
theorem CpSt.start (w : World) (b : Bk) (v : Value) : CpSt w b v (.slice none 0 0) [] (((w.alloc (.cells (four b v) 45)).alloc (.cells z4 45)).alloc (.cells (four b (.slice none 0 0)) 45)) := by
  have hH : w.heap.size + 1 = (w.alloc (.cells (four b v) 45)).heap.size := by simp
  have hH2 : w.heap.size + 1 + 1 = ((w.alloc (.cells (four b v) 45)).alloc (.cells z4 45)).heap.size := by simp
  exact ⟨((Whole.new w _ _).alloc _).alloc _, by rw [hH]; exact (Whole.new _ _ _).alloc _, by rw [hH2]; exact Whole.new _ _ _, OwnG.nil, by simp, (((Below.refl _ w).alloc (Nat.le_refl _) _).alloc (by simp) _).alloc (by simp; omega) _⟩
theorem CpSt.drew {w0 w : World} {b : Bk} {v L : Value} {ps : List (Gr × Value)} (h : CpSt w0 b v L ps w) : CpSt w0 b v L ps w.drew :=
  ⟨h.kb, h.kz, h.ko, h.own.below (Below.refl _ _).drew, h.size, below_on h.below (Below.refl _ _).drew⟩
theorem OwnG.block {w : World} {base : Nat} {v : Value} {ps : List (Gr × Value)} (h : OwnG w base v ps) : ∀ k, v.ownBlock = some k → base ≤ k ∧ k < w.heap.size ∧ ∃ cur, Whole w k 26 cur := fun k hk => by
  rcases h.row.2 with ⟨e, _⟩ | ⟨g', cap, cur, hv, hb, hh, _⟩
  · rw [e] at hk; cases hk
  · have e : g' = k := by rw [hv] at hk; simpa [Value.ownBlock] using hk
    subst e
    exact ⟨hb, Whole.lt hh, cur, hh⟩
theorem CpSt.next {w0 w w' : World} {b : Bk} {v L L' : Value} {ps ps' : List (Gr × Value)} (h : CpSt w0 b v L ps w) (hm : Mod ((w0.heap.size + 1 + 1) :: L.ownBlock.toList) w w') (hw : Whole w' (w0.heap.size + 1 + 1) 45 (four b L')) (ho : OwnG w' (w0.heap.size + 3) L' ps') : CpSt w0 b v L' ps' w' := by
  have hb := h.own.block
  have hn : ∀ k, k < w0.heap.size + 1 + 1 → k ∉ ((w0.heap.size + 1 + 1) :: L.ownBlock.toList) := fun k hk hf => by
    rcases List.mem_cons.1 hf with e | hf
    · omega
    · have := (hb k (by simpa using hf)).1
      omega
  refine ⟨hm.whole h.kb (hn _ (by omega)), hm.whole h.kz (hn _ (by omega)), hw, ho, Nat.le_trans h.size hm.size, h.below.trans (hm.below (by have := h.size; omega) fun x hx => ?_)⟩
  rcases List.mem_cons.1 hx with e | hx
  · omega
  · have := (hb x (by simpa using hx)).1
    omega
end Go.Proofs.Ytboflkadabagfab
