/- Texts that belong together: BkW33, BkW34. -/
import Derived.Test.YtdegamlnkleddaaBkW31
import Derived.Test.YtdegamlnkleddaaBkW32
import Derived.Test.YtdegamlnkleddaaBkW22
namespace Go.Proofs.Ytdegamlnkleddaa
open Go.RowKit
open BM (Gr Rc Bk g0 r0 b0)
set_option linter.unusedVariables false
set_option linter.unusedSimpArgs false
set_option maxRecDepth 100000
def OwnRecPost (w : World) (r : Rc) (e : Ending) (w' : World) : Prop := ∃ v u, e = .returned (.agg (twelve r v u)) ∧ OwnI w' w.heap.size v r.g.stamp ∧ OwnI w' w.heap.size u r.stamp ∧ Below w.heap.size w w'
theorem HdI.parts' {w : World} {u : Value} {l : List Int} (h : HdI w u l) : l.length * 8 ≤ 140737488355328 ∧ ∀ x ∈ l, In64 x := by
  obtain ⟨A, c, _, hs⟩ := h
  exact ⟨hs.room, hs.rng⟩
theorem OwnRecPost.fit {w w' : World} {base : Nat} {v0 u0 v u : Value} {r : Rc} (h : FitR w v0 u0 r) (h1 : OwnI w' base v r.g.stamp) (h2 : OwnI w' base u r.stamp) : FitR w' v u r :=
  ⟨⟨h1.hd h.g.hd.parts'.1 h.g.hd.parts'.2, h.g.wide⟩, h2.hd h.st.parts'.1 h.st.parts'.2, h.kind, h.id, h.next, h.boots, h.longest⟩
theorem set6at (w : World) (g a0 a1 a2 a3 a4 a5 : Nat) (v0 v1 v2 v3 v4 v5 : Value) : Mod [g] w ((((((w.setCell ⟨g, a0, none⟩ v0).setCell ⟨g, a1, none⟩ v1).setCell ⟨g, a2, none⟩ v2).setCell ⟨g, a3, none⟩ v3).setCell ⟨g, a4, none⟩ v4).setCell ⟨g, a5, none⟩ v5) := mod6 w g a0 a1 a2 a3 a4 a5 v0 v1 v2 v3 v4 v5
theorem rec_frozen {w : World} {g : Nat} {cs : Array Value} (h : Whole w g 32 cs) (i : Nat) : w.frozen? ⟨g, i, none⟩ = false := h.frozen i
/-- The two boxes of the call: the record, the answer. -/
structure OrSt (w0 : World) (r : Rc) (s u : Value) (w : World) : Prop where
  kr : Whole w w0.heap.size 32 (twelve r s u)
  kz : Whole w (w0.heap.size + 1) 32 z12
  size : w0.heap.size + 2 ≤ w.heap.size
  below : Below w0.heap.size w0 w
theorem OrSt.on {w0 w w' : World} {r : Rc} {s u : Value} (h : OrSt w0 r s u w) (hb : Below w.heap.size w w') : OrSt w0 r s u w' :=
  ⟨(Mod.of_below hb []).whole h.kr (by simp), (Mod.of_below hb []).whole h.kz (by simp), Nat.le_trans h.size hb.size, below_on h.below hb⟩
theorem OrSt.mod {w0 w w' : World} {r : Rc} {s u s' u' : Value} (h : OrSt w0 r s u w) (hm : Mod [w0.heap.size] w w') (hk : Whole w' w0.heap.size 32 (twelve r s' u')) : OrSt w0 r s' u' w' :=
  ⟨hk, hm.whole h.kz (by simp), Nat.le_trans h.size hm.size, h.below.trans (hm.below (by have := h.size; omega) (by simp))⟩
theorem OrSt.start (w : World) (r : Rc) (s u : Value) : OrSt w r s u ((w.alloc (.cells (twelve r s u) 32)).alloc (.cells z12 32)) := by
  have hH : w.heap.size + 1 = (w.alloc (.cells (twelve r s u) 32)).heap.size := by simp
  exact ⟨(Whole.new w _ _).alloc _, by rw [hH]; exact Whole.new _ _ _, by simp, ((Below.refl _ w).alloc (Nat.le_refl _) _).alloc (by simp) _⟩
theorem zero12 {w : World} {g : Nat} (h : Whole w g 32 z12) : w.cell? ⟨g, 0, none⟩ = some (.int .i64 0) ∧ w.cell? ⟨g, 1, none⟩ = some (.int .i64 0) ∧ w.cell? ⟨g, 2, none⟩ = some (.int .i64 0) ∧ w.cell? ⟨g, 3, none⟩ = some (.string ⟨#[]⟩) ∧ w.cell? ⟨g, 4, none⟩ = some (.int .i64 0) ∧ w.cell? ⟨g, 5, none⟩ = some (.slice none 0 0) ∧ w.cell? ⟨g, 6, none⟩ = some (.int .i64 0) ∧ w.cell? ⟨g, 7, none⟩ = some (.int .i64 0) ∧ w.cell? ⟨g, 8, none⟩ = some (.slice none 0 0) ∧ w.cell? ⟨g, 9, none⟩ = some (.int .i64 0) ∧ w.cell? ⟨g, 10, none⟩ = some (.int .i64 0) ∧ w.cell? ⟨g, 11, none⟩ = some (.int .i64 0) := ⟨h.cell 0, h.cell 1, h.cell 2, h.cell 3, h.cell 4, h.cell 5, h.cell 6, h.cell 7, h.cell 8, h.cell 9, h.cell 10, h.cell 11⟩
theorem frozen12 {w : World} {g : Nat} {cs : Array Value} (h : Whole w g 32 cs) : w.frozen? ⟨g, 0, none⟩ = false ∧ w.frozen? ⟨g, 1, none⟩ = false ∧ w.frozen? ⟨g, 2, none⟩ = false ∧ w.frozen? ⟨g, 3, none⟩ = false ∧ w.frozen? ⟨g, 4, none⟩ = false ∧ w.frozen? ⟨g, 5, none⟩ = false ∧ w.frozen? ⟨g, 6, none⟩ = false ∧ w.frozen? ⟨g, 7, none⟩ = false ∧ w.frozen? ⟨g, 8, none⟩ = false ∧ w.frozen? ⟨g, 9, none⟩ = false ∧ w.frozen? ⟨g, 10, none⟩ = false ∧ w.frozen? ⟨g, 11, none⟩ = false := ⟨h.frozen 0, h.frozen 1, h.frozen 2, h.frozen 3, h.frozen 4, h.frozen 5, h.frozen 6, h.frozen 7, h.frozen 8, h.frozen 9, h.frozen 10, h.frozen 11⟩
set_option maxHeartbeats 8000000 in
theorem r_ownRec (v u : Value) (r : Rc) (w : World) (h : FitR w v u r) : Calls Try.prog 14 #[.agg (twelve r v u)] w (OwnRecPost w r) := by
  obtain ⟨A, c, hv, _⟩ := h.g.hd
  obtain ⟨B, d, hu, hsB⟩ := h.st
  subst hv hu
  have HSB := Lib.hid hsB
  clear hsB
  have HT := Lib.hid (OrSt.start w r (.slice A r.g.stamp.length c) (.slice B r.stamp.length d))
  have HR := Lib.hid (h.below HT.out.below)
  clear h
  obtain ⟨c0, c1, c2', c3, c4, c5, c6, c7, c8, c9, c10, c11⟩ := rec_cells HT.out.kr
  unfold z12 at HT HR
  go_enter Try.func14, Try.ntmps14
  unfold z12 at c0 c1 c2' c3 c4 c5 c6 c7 c8 c9 c10 c11
  go_wp2_with fail
  generalize ((w.alloc (.cells (twelve r (.slice A r.g.stamp.length c) (.slice B r.stamp.length d)) 32)).alloc (.cells #[.int .i64 0, .int .i64 0, .int .i64 0, .string ⟨#[]⟩, .int .i64 0, .slice none 0 0, .int .i64 0, .int .i64 0, .slice none 0 0, .int .i64 0, .int .i64 0, .int .i64 0] 32)) = w1 at HT HR c0 c1 c2' c3 c4 c5 c6 c7 c8 c9 c10 c11 ⊢
  refine (r_CopyGrant (.slice A r.g.stamp.length c) r.g w1 HR.out.g).mono ?_
  rintro e w2 ⟨nv, rfl, ho, hb⟩
  obtain ⟨A2, c2, hv2, _, _⟩ := own_shape ho
  subst hv2
  have HT2 := Lib.hid (HT.out.on hb)
  have HR2 := Lib.hid (HR.out.below hb)
  have HO2 := Lib.hid (own_low ho (show w.heap.size + 2 ≤ w1.heap.size from HT.out.size))
  clear ho hb HT HR c0 c1 c2' c3 c4 c5 c6 c7 c8 c9 c10 c11
  obtain ⟨c0, c1, c2', c3, c4, c5, c6, c7, c8, c9, c10, c11⟩ := rec_cells HT2.out.kr
  have f1 := HT2.out.kr.frozen 1
  have f2 := HT2.out.kr.frozen 2
  have f3 := HT2.out.kr.frozen 3
  have f4 := HT2.out.kr.frozen 4
  have f5 := HT2.out.kr.frozen 5
  have f6 := HT2.out.kr.frozen 6
  unfold six
  go_upto_region 2 with (fail)
  have hM3 : Mod [w.heap.size] w2 ((((((w2.setCell ⟨w.heap.size, 1, none⟩ (.int .i64 r.g.id)).setCell ⟨w.heap.size, 2, none⟩ (.int .i64 r.g.holder)).setCell ⟨w.heap.size, 3, none⟩ (.string r.g.path)).setCell ⟨w.heap.size, 4, none⟩ (.int .i64 r.g.mode)).setCell ⟨w.heap.size, 5, none⟩ (.slice A2 r.g.stamp.length c2)).setCell ⟨w.heap.size, 6, none⟩ (.int .i64 r.g.term)) := set6at w2 w.heap.size 1 2 3 4 5 6 _ _ _ _ _ _
  have HT3 := Lib.hid (HT2.out.mod (s' := .slice A2 r.g.stamp.length c2) (u' := (.slice B r.stamp.length d)) hM3 ((((((HT2.out.kr.store 1 (.int .i64 r.g.id)).store 2 (.int .i64 r.g.holder)).store 3 (.string r.g.path)).store 4 (.int .i64 r.g.mode)).store 5 (.slice A2 r.g.stamp.length c2)).store 6 (.int .i64 r.g.term)))
  have hne : ∀ k, (Value.slice A2 r.g.stamp.length c2).ownBlock = some k → k ∉ [w.heap.size] := fun k hk e => by
    have h1 := (HO2.out.lt k hk).1
    have h2 : k = w.heap.size := by simpa using e
    omega
  have HO3 := Lib.hid (hM3.own HO2.out hne)
  clear hne
  have HB3 := Lib.hid (HSB.out.ints.below HT3.out.below)
  clear hM3 HT2 HO2 c0 c1 c2' c3 c4 c5 c6 c7 c8 c9 c10 c11 f1 f2 f3 f4 f5 f6
  generalize ((((((w2.setCell ⟨w.heap.size, 1, none⟩ (.int .i64 r.g.id)).setCell ⟨w.heap.size, 2, none⟩ (.int .i64 r.g.holder)).setCell ⟨w.heap.size, 3, none⟩ (.string r.g.path)).setCell ⟨w.heap.size, 4, none⟩ (.int .i64 r.g.mode)).setCell ⟨w.heap.size, 5, none⟩ (.slice A2 r.g.stamp.length c2)).setCell ⟨w.heap.size, 6, none⟩ (.int .i64 r.g.term)) = w3 at HT3 HO3 HB3 ⊢
  have HX4 := Lib.hid ((Below.refl _ w3).alloc (Nat.le_refl _) (.cells #[] 3))
  have c8 : (w3.alloc (.cells #[] 3)).cell? ⟨w.heap.size, 8, none⟩ = some (.slice B r.stamp.length d) := (HT3.out.on HX4.out).kr.cell 8
  clear HX4
  have HL := Lib.hid HSB.out.room
  go_wp2_with (at_builtin; refine app_all rfl (.tmp 7) (.tmp 9) rfl B d _ r.stamp rfl HB3.out _ rfl rfl rfl HL.out ?_; intro A5 n5 c5 w5 hm5; obtain ⟨HN5, -, HO5, HF5, -, -⟩ := hm5; have e5 := HN5.out; subst e5; have HT5 := Lib.hid (HT3.out.on HF5.out); have HP5 := Lib.hid ((Mod.of_below HF5.out []).own HO3.out (by simp)); clear c8; have c8 : w5.cell? ⟨w.heap.size, 8, none⟩ = some (.slice B r.stamp.length d) := HT5.out.kr.cell 8; have f8 := HT5.out.kr.frozen 8; obtain ⟨c0, c1, c2', c3, c4, c5', c6, c7, _, c9, c10, c11⟩ := rec_cells HT5.out.kr; obtain ⟨z0, z1, z2, z3, z4, z5, z6, z7, z8, z9, z10, z11⟩ := zero12 HT5.out.kz; obtain ⟨y0, y1, y2, y3, y4, y5, y6, y7, y8, y9, y10, y11⟩ := frozen12 HT5.out.kz)
  refine bodyPost_ret (v := .agg (twelve r (.slice A2 r.g.stamp.length c2) (.slice A5 r.stamp.length c5))) (by simp [results, Try.results14, go_sem, z0, z1, z2, z3, z4, z5, z6, z7, z8, z9, z10, z11, twelve]) rfl ?_
  have hs3 : w.heap.size + 2 ≤ w3.heap.size := HT3.out.size
  have hM := ((Mod.refl [w.heap.size, w.heap.size + 1] w5).store (p := ⟨w.heap.size, 8, none⟩) (.inl (by simp)) (.slice A5 r.stamp.length c5)).trans (set12 (w5.setCell ⟨w.heap.size, 8, none⟩ (.slice A5 r.stamp.length c5)) (w.heap.size + 1) (.int .i64 r.kind) (.int .i64 r.g.id) (.int .i64 r.g.holder) (.string r.g.path) (.int .i64 r.g.mode) (.slice A2 r.g.stamp.length c2) (.int .i64 r.g.term) (.int .i64 r.id) (.slice A5 r.stamp.length c5) (.int .i64 r.next) (.int .i64 r.boots) (.int .i64 r.longest)) (fun x hx => by simp at hx; simp [hx])
  have hO2 := hM.own HP5.out (fun k hk e => by have h1 := (HP5.out.lt k hk).1; simp at e; omega)
  have hO5 := hM.own HO5.out (fun k hk e => by have h1 := (HO5.out.lt k hk).1; simp at e; omega)
  exact ⟨_, _, rfl, own_low hO2 (by omega), own_low hO5 (by omega), HT5.out.below.trans (hM.below HT5.out.below.size (by intro x hx; simp at hx; omega))⟩
end Go.Proofs.Ytdegamlnkleddaa
namespace Go.Proofs.Ytdegamlnkleddaa
open Go.RowKit
open BM (Gr Rc Bk g0 r0 b0)
set_option linter.unusedVariables false
set_option linter.unusedSimpArgs false
set_option maxRecDepth 100000
/-- One grant more behind a list of the call's own, however long. -/
theorem run_app_gr2 {W : World} {base : Nat} {v : Value} {ps : List (Gr × Value)} (ty : TypeId) (hown : OwnG W base v ps) {p : Nat} {g : Gr} {gv : Value} (h1 : gv.oneCell' = true) (hp : Whole W p 30 (six g gv)) (hl : (ps.length + 1) * 72 ≤ 140737488355328) (hb : base ≤ W.heap.size) (hgv : OwnI W base gv g.stamp) (hgw : GW g ∧ g.stamp.length * 8 ≤ 140737488355328 ∧ ∀ x ∈ g.stamp, In64 x) :
    ∃ v' w2, (Builtin.append_ #[23, 23] ty #[v, .slice (some ⟨p, 0, none⟩) 1 1]).run Try.prog W = .ok v' w2 ∧ OwnG w2 base v' (ps ++ [(g, gv)]) ∧ Mod v.ownBlock.toList W w2 := by
  obtain ⟨i0, hi, hz0, hz1, hz2⟩ := info_parts info_gr
  obtain ⟨v', w', hr, h2, h3, _, _⟩ := run_append_own_at (P := Try.prog) W base 23 ty 30 i0 (.agg z6) 6 72 Try.underlying23 hi hz0 hz1 hz2 rfl (by decide) v ps.length (flat ps) hown.row ⟨p, 0, none⟩ 1 1 (six g gv).toList rfl
    (World.news_of_block (cs := six g gv) (t := 30) (fr := (0, 0)) hp) (six_one h1) (by unfold maxLen; omega) hl hb
  have hM : Mod v.ownBlock.toList W w' := (Mod.refl _ W).grown h3 (fun k hk => .inl (by rw [hk]; simp))
  have hst : ∀ q : Gr × Value, OwnI W base q.2 q.1.stamp → OwnI w' base q.2 q.1.stamp := fun q hq => hM.own hq (fun k hk hf => by
    have hvb : v.ownBlock = some k := by simpa using hf
    rcases hown.row.2 with ⟨e, _⟩ | ⟨g', cap, cur, hv, _, hh, _⟩
    · rw [e] at hvb; cases hvb
    · have e : g' = k := by rw [hv] at hvb; simpa [Value.ownBlock] using hvb
      subst e
      exact own_ne hq (show Whole W g' 30 cur from hh) (by decide) hk)
  refine ⟨v', w', hr, ⟨?_, ?_, ?_, ?_⟩, hM⟩
  · rw [List.length_append, flat_append]; exact h2
  · intro q hq
    rcases List.mem_append.1 hq with hq | hq
    · exact hst q (hown.st q hq)
    · rw [List.mem_singleton.1 hq]; exact hst (g, gv) hgv
  · intro q hq
    rcases List.mem_append.1 hq with hq | hq
    · exact hown.wide q hq
    · rw [List.mem_singleton.1 hq]; exact hgw
  · rw [List.length_append, List.length_singleton]; exact hl
/-- The three boxes of Copy: the book, the answer, the copy under way. -/
structure CpSt (w0 : World) (b : Bk) (v L : Value) (ps : List (Gr × Value)) (w : World) : Prop where
  kb : Whole w w0.heap.size 25 (four b v)
  kz : Whole w (w0.heap.size + 1) 25 z4
  ko : Whole w (w0.heap.size + 1 + 1) 25 (four b L)
  own : OwnG w (w0.heap.size + 3) L ps
  size : w0.heap.size + 3 ≤ w.heap.size
  below : Below w0.heap.size w0 w
theorem CpSt.start (w : World) (b : Bk) (v : Value) : CpSt w b v (.slice none 0 0) [] (((w.alloc (.cells (four b v) 25)).alloc (.cells z4 25)).alloc (.cells (four b (.slice none 0 0)) 25)) := by
  have hH : w.heap.size + 1 = (w.alloc (.cells (four b v) 25)).heap.size := by simp
  have hH2 : w.heap.size + 1 + 1 = ((w.alloc (.cells (four b v) 25)).alloc (.cells z4 25)).heap.size := by simp
  exact ⟨((Whole.new w _ _).alloc _).alloc _, by rw [hH]; exact (Whole.new _ _ _).alloc _, by rw [hH2]; exact Whole.new _ _ _, OwnG.nil, by simp, (((Below.refl _ w).alloc (Nat.le_refl _) _).alloc (by simp) _).alloc (by simp; omega) _⟩
theorem CpSt.drew {w0 w : World} {b : Bk} {v L : Value} {ps : List (Gr × Value)} (h : CpSt w0 b v L ps w) : CpSt w0 b v L ps w.drew :=
  ⟨h.kb, h.kz, h.ko, h.own.below (Below.refl _ _).drew, h.size, below_on h.below (Below.refl _ _).drew⟩
theorem OwnG.block {w : World} {base : Nat} {v : Value} {ps : List (Gr × Value)} (h : OwnG w base v ps) : ∀ k, v.ownBlock = some k → base ≤ k ∧ k < w.heap.size ∧ ∃ cur, Whole w k 30 cur := fun k hk => by
  rcases h.row.2 with ⟨e, _⟩ | ⟨g', cap, cur, hv, hb, hh, _⟩
  · rw [e] at hk; cases hk
  · have e : g' = k := by rw [hv] at hk; simpa [Value.ownBlock] using hk
    subst e
    exact ⟨hb, Whole.lt hh, cur, hh⟩
theorem CpSt.next {w0 w w' : World} {b : Bk} {v L L' : Value} {ps ps' : List (Gr × Value)} (h : CpSt w0 b v L ps w) (hm : Mod ((w0.heap.size + 1 + 1) :: L.ownBlock.toList) w w') (hw : Whole w' (w0.heap.size + 1 + 1) 25 (four b L')) (ho : OwnG w' (w0.heap.size + 3) L' ps') : CpSt w0 b v L' ps' w' := by
  have hb := h.own.block
  have hn : ∀ k, k < w0.heap.size + 1 + 1 → k ∉ ((w0.heap.size + 1 + 1) :: L.ownBlock.toList) := fun k hk hf => by
    rcases List.mem_cons.1 hf with e | hf
    · omega
    · have := (hb k (by simpa using hf)).1
      omega
  refine ⟨hm.whole h.kb (hn _ (by omega)), hm.whole h.kz (hn _ (by omega)), hw, ho, Nat.le_trans h.size hm.size, h.below.trans (hm.below (by have := h.size; omega) fun x hx => ?_)⟩
  rcases List.mem_cons.1 hx with e | hx
  · omega
  · have := (hb x (by simpa using hx)).1
    omega
set_option maxHeartbeats 8000000 in
theorem r_Copy (v : Value) (b : Bk) (w : World) (h : FitB w v b) : Calls Try.prog 35 #[.agg (four b v)] w (BkPost w b) := by
  obtain ⟨AG, cG, hvG, hgr, hgc, hgm, hgroom⟩ := h.gs
  subst hvG
  obtain ⟨n, hn⟩ : ∃ n, n = b.gs.length := ⟨_, rfl⟩
  have HN := Lib.hid hn.symm
  rw [← hn] at hgc hgroom ⊢
  have hI : In64 b.next ∧ In64 b.boots ∧ In64 b.longest := ⟨h.next, h.boots, h.longest⟩
  have HI := Lib.hid hI
  have HG := Lib.hid hgr
  clear h hI hgr hn
  have HT := Lib.hid (CpSt.start w b (.slice AG n cG))
  obtain ⟨e0, e1, e2, e3⟩ := four_cells HT.out.kb
  go_enter Try.func35, Try.ntmps35
  have e0' : ((w.alloc (.cells (four b (.slice AG n cG)) 25)).alloc (.cells z4 25)).cell? ⟨w.heap.size, 0, none⟩ = some (.int .i64 b.next) := ((Whole.new w 25 (four b (.slice AG n cG))).alloc _).cell 0
  have e1' : ((w.alloc (.cells (four b (.slice AG n cG)) 25)).alloc (.cells z4 25)).cell? ⟨w.heap.size, 1, none⟩ = some (.int .i64 b.boots) := ((Whole.new w 25 (four b (.slice AG n cG))).alloc _).cell 1
  have e2' : ((w.alloc (.cells (four b (.slice AG n cG)) 25)).alloc (.cells z4 25)).cell? ⟨w.heap.size, 2, none⟩ = some (.int .i64 b.longest) := ((Whole.new w 25 (four b (.slice AG n cG))).alloc _).cell 2
  unfold z4 four at *
  go_wp2_with fail
  clear e0 e1 e2 e3 e0' e1' e2'
  generalize (((w.alloc (.cells #[.int .i64 b.next, .int .i64 b.boots, .int .i64 b.longest, .slice AG n cG] 25)).alloc (.cells #[.int .i64 0, .int .i64 0, .int .i64 0, .slice none 0 0] 25)).alloc (.cells #[.int .i64 b.next, .int .i64 b.boots, .int .i64 b.longest, .slice none 0 0] 25)) = w0 at HT ⊢
  go_loopw [4] (fun i wx => ∃ (k : Nat) (L : Value) (ps : List (Gr × Value)), i = .int .i64 (k : Int) ∧ k ≤ n ∧ Hid (CpSt w b (.slice AG n cG) L ps wx) ∧ Hid (ps.map Prod.fst = b.gs.take k)) (fun i _ => n - (intOf i).toNat)
  case atStart => exact ⟨0, .slice none 0 0, [], rfl, Nat.zero_le _, HT, Lib.hid rfl⟩
  case round =>
    obtain ⟨k, L, ps, rfl, hk, HS, HM⟩ := hrel
    obtain ⟨e0, e1, e2, e3⟩ := four_cells HS.out.kb
    by_cases hlt : k < n
    · have HL := Lib.hid (show ps.length = k by have := congrArg List.length HM.out; rw [List.length_map, List.length_take] at this; have := HN.out; omega)
      have HX := Lib.hid (List.getElem?_eq_getElem (l := b.gs) (i := k) (by have := HN.out; omega))
      have HTK := Lib.hid (show b.gs.take (k + 1) = b.gs.take k ++ [b.gs[k]'(by have := HN.out; omega)] by rw [List.take_add_one, List.getElem?_eq_getElem (by have := HN.out; omega)]; rfl)
      generalize b.gs[k]'(by have := HN.out; omega) = x at HX HTK
      obtain ⟨gb, go, rfl, hgb, hca⟩ := HG.out (by have := HN.out; omega)
      obtain ⟨Ax, cx, hxc, hfx⟩ := (hca k x HX.out).open_
      have HGB := Lib.hid hgb
      have HFX := Lib.hid hfx
      have HXC := Lib.hid hxc
      obtain ⟨AO, cO, hL, _, _⟩ := own_shape HS.out.own.row
      rw [HL.out] at hL
      subst hL
      clear hgb hca hfx hxc
      have j0 : (0 : Int) ≤ (k : Int) := by omega
      have j1 : (k : Int) < (n : Int) := by omega
      go_upto_region 5 with (fail)
      clear e0 e1 e2 e3
      have hKeep : ∀ (us : Nat → Value) (wa wb : World), Below wa.heap.size wa wb → ∀ j, known [fun us y => us 0 = .pointer (some ⟨w.heap.size + 1 + 1, 3, none⟩), fun us y => us 1 = .slice AO k cO, fun us y => us 2 = .pointer (some ⟨w.heap.size, 3, none⟩), fun us y => us 3 = .slice (some ⟨gb, go, none⟩) n cG, fun us y => us 4 = .int .i64 (k : Int), fun us y => us 5 = .pointer (some ⟨gb, go + k * 6, none⟩), fun us y => us 6 = .agg (six x (.slice Ax x.stamp.length cx)), fun us y => ∃ A7 c7, us 7 = .agg (six x (.slice A7 x.stamp.length c7)) ∧ OwnI y wr.heap.size (.slice A7 x.stamp.length c7) x.stamp, fun us y => ∃ q8 A8 c8, us 8 = .slice (some ⟨q8, 0, none⟩) 1 1 ∧ wr.heap.size ≤ q8 ∧ Whole y q8 30 (six x (.slice A8 x.stamp.length c8)) ∧ OwnI y wr.heap.size (.slice A8 x.stamp.length c8) x.stamp, fun us y => ∃ A9 c9 v9, us 9 = .slice A9 (k + 1) c9 ∧ OwnG y (w.heap.size + 3) (.slice A9 (k + 1) c9) (ps ++ [(x, v9)]), fun us y => us 10 = .pointer (some ⟨w.heap.size + 1 + 1, 3, none⟩), fun us y => ∃ A11 c11 v11, Whole y (w.heap.size + 1 + 1) 25 (four b (.slice A11 (k + 1) c11)) ∧ OwnG y (w.heap.size + 3) (.slice A11 (k + 1) c11) (ps ++ [(x, v11)])] j us wa → known [fun us y => us 0 = .pointer (some ⟨w.heap.size + 1 + 1, 3, none⟩), fun us y => us 1 = .slice AO k cO, fun us y => us 2 = .pointer (some ⟨w.heap.size, 3, none⟩), fun us y => us 3 = .slice (some ⟨gb, go, none⟩) n cG, fun us y => us 4 = .int .i64 (k : Int), fun us y => us 5 = .pointer (some ⟨gb, go + k * 6, none⟩), fun us y => us 6 = .agg (six x (.slice Ax x.stamp.length cx)), fun us y => ∃ A7 c7, us 7 = .agg (six x (.slice A7 x.stamp.length c7)) ∧ OwnI y wr.heap.size (.slice A7 x.stamp.length c7) x.stamp, fun us y => ∃ q8 A8 c8, us 8 = .slice (some ⟨q8, 0, none⟩) 1 1 ∧ wr.heap.size ≤ q8 ∧ Whole y q8 30 (six x (.slice A8 x.stamp.length c8)) ∧ OwnI y wr.heap.size (.slice A8 x.stamp.length c8) x.stamp, fun us y => ∃ A9 c9 v9, us 9 = .slice A9 (k + 1) c9 ∧ OwnG y (w.heap.size + 3) (.slice A9 (k + 1) c9) (ps ++ [(x, v9)]), fun us y => us 10 = .pointer (some ⟨w.heap.size + 1 + 1, 3, none⟩), fun us y => ∃ A11 c11 v11, Whole y (w.heap.size + 1 + 1) 25 (four b (.slice A11 (k + 1) c11)) ∧ OwnG y (w.heap.size + 3) (.slice A11 (k + 1) c11) (ps ++ [(x, v11)])] j us wb := by
        intro us wa wb hb j h
        match j, h with
        | 0, h => exact h
        | 1, h => exact h
        | 2, h => exact h
        | 3, h => exact h
        | 4, h => exact h
        | 5, h => exact h
        | 6, h => exact h
        | 7, h => (obtain ⟨A7, c7, e7, hO7⟩ : ∃ A7 c7, us 7 = .agg (six x (.slice A7 x.stamp.length c7)) ∧ OwnI wa wr.heap.size (.slice A7 x.stamp.length c7) x.stamp := h; exact (show ∃ A7 c7, us 7 = .agg (six x (.slice A7 x.stamp.length c7)) ∧ OwnI wb wr.heap.size (.slice A7 x.stamp.length c7) x.stamp from ⟨A7, c7, e7, (Mod.of_below hb []).own hO7 (by simp)⟩))
        | 8, h => (obtain ⟨q8, A8, c8, e8, hq8, hW8, hO8⟩ : ∃ q8 A8 c8, us 8 = .slice (some ⟨q8, 0, none⟩) 1 1 ∧ wr.heap.size ≤ q8 ∧ Whole wa q8 30 (six x (.slice A8 x.stamp.length c8)) ∧ OwnI wa wr.heap.size (.slice A8 x.stamp.length c8) x.stamp := h; exact (show ∃ q8 A8 c8, us 8 = .slice (some ⟨q8, 0, none⟩) 1 1 ∧ wr.heap.size ≤ q8 ∧ Whole wb q8 30 (six x (.slice A8 x.stamp.length c8)) ∧ OwnI wb wr.heap.size (.slice A8 x.stamp.length c8) x.stamp from ⟨q8, A8, c8, e8, hq8, (Mod.of_below hb []).whole hW8 (by simp), (Mod.of_below hb []).own hO8 (by simp)⟩))
        | 9, h => (obtain ⟨A9, c9, v9, e9, hO9⟩ : ∃ A9 c9 v9, us 9 = .slice A9 (k + 1) c9 ∧ OwnG wa (w.heap.size + 3) (.slice A9 (k + 1) c9) (ps ++ [(x, v9)]) := h; exact (show ∃ A9 c9 v9, us 9 = .slice A9 (k + 1) c9 ∧ OwnG wb (w.heap.size + 3) (.slice A9 (k + 1) c9) (ps ++ [(x, v9)]) from ⟨A9, c9, v9, e9, hO9.below hb⟩))
        | 10, h => exact h
        | 11, h => (obtain ⟨A11, c11, v11, hW11, hO11⟩ : ∃ A11 c11 v11, Whole wa (w.heap.size + 1 + 1) 25 (four b (.slice A11 (k + 1) c11)) ∧ OwnG wa (w.heap.size + 3) (.slice A11 (k + 1) c11) (ps ++ [(x, v11)]) := h; exact (show ∃ A11 c11 v11, Whole wb (w.heap.size + 1 + 1) 25 (four b (.slice A11 (k + 1) c11)) ∧ OwnG wb (w.heap.size + 3) (.slice A11 (k + 1) c11) (ps ++ [(x, v11)]) from ⟨A11, c11, v11, (Mod.of_below hb []).whole hW11 (by simp), hO11.below hb⟩))
        | q + 12, h => exact trivial
      have HKEEP := Lib.hid hKeep
      clear hKeep
      refine region_each (known [fun us y => us 0 = .pointer (some ⟨w.heap.size + 1 + 1, 3, none⟩), fun us y => us 1 = .slice AO k cO, fun us y => us 2 = .pointer (some ⟨w.heap.size, 3, none⟩), fun us y => us 3 = .slice (some ⟨gb, go, none⟩) n cG, fun us y => us 4 = .int .i64 (k : Int), fun us y => us 5 = .pointer (some ⟨gb, go + k * 6, none⟩), fun us y => us 6 = .agg (six x (.slice Ax x.stamp.length cx)), fun us y => ∃ A7 c7, us 7 = .agg (six x (.slice A7 x.stamp.length c7)) ∧ OwnI y wr.heap.size (.slice A7 x.stamp.length c7) x.stamp, fun us y => ∃ q8 A8 c8, us 8 = .slice (some ⟨q8, 0, none⟩) 1 1 ∧ wr.heap.size ≤ q8 ∧ Whole y q8 30 (six x (.slice A8 x.stamp.length c8)) ∧ OwnI y wr.heap.size (.slice A8 x.stamp.length c8) x.stamp, fun us y => ∃ A9 c9 v9, us 9 = .slice A9 (k + 1) c9 ∧ OwnG y (w.heap.size + 3) (.slice A9 (k + 1) c9) (ps ++ [(x, v9)]), fun us y => us 10 = .pointer (some ⟨w.heap.size + 1 + 1, 3, none⟩), fun us y => ∃ A11 c11 v11, Whole y (w.heap.size + 1 + 1) 25 (four b (.slice A11 (k + 1) c11)) ∧ OwnG y (w.heap.size + 3) (.slice A11 (k + 1) c11) (ps ++ [(x, v11)])]) (fun y => Mod ((w.heap.size + 1 + 1) :: (Value.slice AO k cO).ownBlock.toList) wr y ∧ ∃ L0, Whole y (w.heap.size + 1 + 1) 25 (four b L0)) (fun y => Below wr.heap.size wr y) [9, 11] [[], [0], [], [2], [], [2, 3, 4], [2, 3, 4, 5], [2, 3, 4, 5, 6], [2, 3, 4, 5, 6, 7], [0, 1, 2, 3, 4, 5, 6, 7, 8], [0, 1, 2, 3, 4, 5, 6, 7, 8, 9], [0, 1, 2, 3, 4, 5, 6, 7, 8, 9, 10]] (by
        intro j us us' y h hF
        match j, h, hF with
        | 0, h, hF => (have hF : us 0 = .pointer (some ⟨w.heap.size + 1 + 1, 3, none⟩) := hF; rw [h 0 (.inl rfl)] at hF; exact hF)
        | 1, h, hF => (have hF : us 1 = .slice AO k cO := hF; rw [h 1 (.inl rfl)] at hF; exact hF)
        | 2, h, hF => (have hF : us 2 = .pointer (some ⟨w.heap.size, 3, none⟩) := hF; rw [h 2 (.inl rfl)] at hF; exact hF)
        | 3, h, hF => (have hF : us 3 = .slice (some ⟨gb, go, none⟩) n cG := hF; rw [h 3 (.inl rfl)] at hF; exact hF)
        | 4, h, hF => (have hF : us 4 = .int .i64 (k : Int) := hF; rw [h 4 (.inl rfl)] at hF; exact hF)
        | 5, h, hF => (have hF : us 5 = .pointer (some ⟨gb, go + k * 6, none⟩) := hF; rw [h 5 (.inl rfl)] at hF; exact hF)
        | 6, h, hF => (have hF : us 6 = .agg (six x (.slice Ax x.stamp.length cx)) := hF; rw [h 6 (.inl rfl)] at hF; exact hF)
        | 7, h, hF => (have hF : ∃ A7 c7, us 7 = .agg (six x (.slice A7 x.stamp.length c7)) ∧ OwnI y wr.heap.size (.slice A7 x.stamp.length c7) x.stamp := hF; rw [h 7 (.inl rfl)] at hF; exact hF)
        | 8, h, hF => (have hF : ∃ q8 A8 c8, us 8 = .slice (some ⟨q8, 0, none⟩) 1 1 ∧ wr.heap.size ≤ q8 ∧ Whole y q8 30 (six x (.slice A8 x.stamp.length c8)) ∧ OwnI y wr.heap.size (.slice A8 x.stamp.length c8) x.stamp := hF; rw [h 8 (.inl rfl)] at hF; exact hF)
        | 9, h, hF => (have hF : ∃ A9 c9 v9, us 9 = .slice A9 (k + 1) c9 ∧ OwnG y (w.heap.size + 3) (.slice A9 (k + 1) c9) (ps ++ [(x, v9)]) := hF; rw [h 9 (.inl rfl)] at hF; exact hF)
        | 10, h, hF => (have hF : us 10 = .pointer (some ⟨w.heap.size + 1 + 1, 3, none⟩) := hF; rw [h 10 (.inl rfl)] at hF; exact hF)
        | 11, h, hF => (have hF : ∃ A11 c11 v11, Whole y (w.heap.size + 1 + 1) 25 (four b (.slice A11 (k + 1) c11)) ∧ OwnG y (w.heap.size + 3) (.slice A11 (k + 1) c11) (ps ++ [(x, v11)]) := hF; exact hF)
        | q + 12, h, hF => exact trivial) (by kernel_rfl) rfl (by kernel_rfl) (by exact ⟨Mod.of_below (Below.refl _ _).drew _, _, HS.out.drew.ko⟩) (by exact (Below.refl _ _).drew) (Z := fun vs => Act.put (Act.put (Act.put (Act.put (Act.put (Act.put (Act.put (Act.put (Act.put (Act.put (Act.put (Act.put (_) (some 19) (vs 0)) (some 20) (vs 1)) (some 21) (vs 2)) (some 22) (vs 3)) (some 23) (vs 4)) (some 24) (vs 5)) (some 25) (vs 6)) (some 26) (vs 7)) (some 27) (vs 8)) (some 28) (vs 9)) (some 29) (vs 10)) none (vs 11)) (fun _ => rfl) ?_ ?_
      · skip
        refine EachAll.snoc (i := 11) (o := { dst := none, op := Op.store 23 (Operand.tmp 29) (Operand.tmp 28), type := 0, pos := _, after := #[{ on := 10, ground := Ground.data }, { on := 9, ground := Ground.data }, { on := 9, ground := Ground.chain }, { on := 0, ground := Ground.phase }, { on := 1, ground := Ground.phase }, { on := 2, ground := Ground.phase }, { on := 3, ground := Ground.phase }, { on := 4, ground := Ground.phase }, { on := 5, ground := Ground.phase }, { on := 6, ground := Ground.phase }, { on := 7, ground := Ground.phase }, { on := 8, ground := Ground.phase }, { on := 9, ground := Ground.phase }], guard := none }) (l := [0, 1, 2, 3, 4, 5, 6, 7, 8, 9, 10]) (A := fun vs => Act.put (Act.put (Act.put (Act.put (Act.put (Act.put (Act.put (Act.put (Act.put (Act.put (Act.put (_) (some 29) (vs 10)) (some 28) (vs 9)) (some 27) (vs 8)) (some 26) (vs 7)) (some 25) (vs 6)) (some 24) (vs 5)) (some 23) (vs 4)) (some 22) (vs 3)) (some 21) (vs 2)) (some 20) (vs 1)) (some 19) (vs 0)) ?_ rfl rfl (fun _ => rfl) ?_
        rotate_left
        · intro vs y hI hJ hA K hK
          obtain ⟨hM, L0, hKO⟩ := hI
          clear hJ
          have hF9 : ∃ A9 c9 v9, vs 9 = .slice A9 (k + 1) c9 ∧ OwnG y (w.heap.size + 3) (.slice A9 (k + 1) c9) (ps ++ [(x, v9)]) := hA 9 (by decide)
          obtain ⟨A9, c9, v9, e9, hO9⟩ := hF9
          have e10 : vs 10 = .pointer (some ⟨w.heap.size + 1 + 1, 3, none⟩) := hA 10 (by decide)
          clear hA
          refine Box.mk ?_
          try simp only [e9, e10, allPut, puts, Act.put, List.setIfInBounds_toArray, List.set_cons_zero, List.set_cons_succ] at hK ⊢
          have hS := HS.out
          have hBlk := hS.own.block
          have hko := hKO
          have z3 : y.cell? ⟨w.heap.size + 1 + 1, 3, none⟩ = some L0 := hko.cell 3
          have f3 := hko.frozen 3
          have hm := (Mod.refl [w.heap.size + 1 + 1] y).store (p := ⟨w.heap.size + 1 + 1, 3, none⟩) (.inl (by simp)) (.slice A9 (k + 1) c9)
          have hw11 : Whole (y.setCell ⟨w.heap.size + 1 + 1, 3, none⟩ (.slice A9 (k + 1) c9)) (w.heap.size + 1 + 1) 25 (four b (.slice A9 (k + 1) c9)) := hko.store 3 (.slice A9 (k + 1) c9)
          have ho11 := hO9.apart hko (by decide) (by decide) hm
          have hM11 : Mod ((w.heap.size + 1 + 1) :: (Value.slice AO k cO).ownBlock.toList) wr (y.setCell ⟨w.heap.size + 1 + 1, 3, none⟩ (.slice A9 (k + 1) c9)) := hM.trans hm (fun z hz => .inl (by simp at hz; simp [hz]))
          have hlt2 : w.heap.size + 1 + 1 < wr.heap.size := hS.ko.lt
          generalize hSS : (y.setCell ⟨w.heap.size + 1 + 1, 3, none⟩ (.slice A9 (k + 1) c9)) = wS at hm hw11 ho11 hM11
          have hP : ∀ j, j ≠ 11 → 11 ∉ ([[], [0], [], [2], [], [2, 3, 4], [2, 3, 4, 5], [2, 3, 4, 5, 6], [2, 3, 4, 5, 6, 7], [0, 1, 2, 3, 4, 5, 6, 7, 8], [0, 1, 2, 3, 4, 5, 6, 7, 8, 9], [0, 1, 2, 3, 4, 5, 6, 7, 8, 9, 10]] : List (List Nat)).getD j [] → known [fun us y => us 0 = .pointer (some ⟨w.heap.size + 1 + 1, 3, none⟩), fun us y => us 1 = .slice AO k cO, fun us y => us 2 = .pointer (some ⟨w.heap.size, 3, none⟩), fun us y => us 3 = .slice (some ⟨gb, go, none⟩) n cG, fun us y => us 4 = .int .i64 (k : Int), fun us y => us 5 = .pointer (some ⟨gb, go + k * 6, none⟩), fun us y => us 6 = .agg (six x (.slice Ax x.stamp.length cx)), fun us y => ∃ A7 c7, us 7 = .agg (six x (.slice A7 x.stamp.length c7)) ∧ OwnI y wr.heap.size (.slice A7 x.stamp.length c7) x.stamp, fun us y => ∃ q8 A8 c8, us 8 = .slice (some ⟨q8, 0, none⟩) 1 1 ∧ wr.heap.size ≤ q8 ∧ Whole y q8 30 (six x (.slice A8 x.stamp.length c8)) ∧ OwnI y wr.heap.size (.slice A8 x.stamp.length c8) x.stamp, fun us y => ∃ A9 c9 v9, us 9 = .slice A9 (k + 1) c9 ∧ OwnG y (w.heap.size + 3) (.slice A9 (k + 1) c9) (ps ++ [(x, v9)]), fun us y => us 10 = .pointer (some ⟨w.heap.size + 1 + 1, 3, none⟩), fun us y => ∃ A11 c11 v11, Whole y (w.heap.size + 1 + 1) 25 (four b (.slice A11 (k + 1) c11)) ∧ OwnG y (w.heap.size + 3) (.slice A11 (k + 1) c11) (ps ++ [(x, v11)])] j vs y → known [fun us y => us 0 = .pointer (some ⟨w.heap.size + 1 + 1, 3, none⟩), fun us y => us 1 = .slice AO k cO, fun us y => us 2 = .pointer (some ⟨w.heap.size, 3, none⟩), fun us y => us 3 = .slice (some ⟨gb, go, none⟩) n cG, fun us y => us 4 = .int .i64 (k : Int), fun us y => us 5 = .pointer (some ⟨gb, go + k * 6, none⟩), fun us y => us 6 = .agg (six x (.slice Ax x.stamp.length cx)), fun us y => ∃ A7 c7, us 7 = .agg (six x (.slice A7 x.stamp.length c7)) ∧ OwnI y wr.heap.size (.slice A7 x.stamp.length c7) x.stamp, fun us y => ∃ q8 A8 c8, us 8 = .slice (some ⟨q8, 0, none⟩) 1 1 ∧ wr.heap.size ≤ q8 ∧ Whole y q8 30 (six x (.slice A8 x.stamp.length c8)) ∧ OwnI y wr.heap.size (.slice A8 x.stamp.length c8) x.stamp, fun us y => ∃ A9 c9 v9, us 9 = .slice A9 (k + 1) c9 ∧ OwnG y (w.heap.size + 3) (.slice A9 (k + 1) c9) (ps ++ [(x, v9)]), fun us y => us 10 = .pointer (some ⟨w.heap.size + 1 + 1, 3, none⟩), fun us y => ∃ A11 c11 v11, Whole y (w.heap.size + 1 + 1) 25 (four b (.slice A11 (k + 1) c11)) ∧ OwnG y (w.heap.size + 3) (.slice A11 (k + 1) c11) (ps ++ [(x, v11)])] j vs wS := by
            intro j h1 h2 h
            match j, h1, h2, h with
            | 0, _, _, h => exact h
            | 1, _, _, h => exact h
            | 2, _, _, h => exact h
            | 3, _, _, h => exact h
            | 4, _, _, h => exact h
            | 5, _, _, h => exact h
            | 6, _, _, h => exact h
            | 7, _, _, h => (obtain ⟨A7, c7, e7, hO7⟩ : ∃ A7 c7, vs 7 = .agg (six x (.slice A7 x.stamp.length c7)) ∧ OwnI y wr.heap.size (.slice A7 x.stamp.length c7) x.stamp := h; exact (show ∃ A7 c7, vs 7 = .agg (six x (.slice A7 x.stamp.length c7)) ∧ OwnI wS wr.heap.size (.slice A7 x.stamp.length c7) x.stamp from ⟨A7, c7, e7, hO7.apart hko (by decide) hm⟩))
            | 8, _, _, h => (obtain ⟨q8, A8, c8, e8, hq8, hW8, hO8⟩ : ∃ q8 A8 c8, vs 8 = .slice (some ⟨q8, 0, none⟩) 1 1 ∧ wr.heap.size ≤ q8 ∧ Whole y q8 30 (six x (.slice A8 x.stamp.length c8)) ∧ OwnI y wr.heap.size (.slice A8 x.stamp.length c8) x.stamp := h; exact (show ∃ q8 A8 c8, vs 8 = .slice (some ⟨q8, 0, none⟩) 1 1 ∧ wr.heap.size ≤ q8 ∧ Whole wS q8 30 (six x (.slice A8 x.stamp.length c8)) ∧ OwnI wS wr.heap.size (.slice A8 x.stamp.length c8) x.stamp from ⟨q8, A8, c8, e8, hq8, hm.whole hW8 (by simp; omega), hO8.apart hko (by decide) hm⟩))
            | 9, _, _, h => (obtain ⟨A9, c9, v9, e9, hO9⟩ : ∃ A9 c9 v9, vs 9 = .slice A9 (k + 1) c9 ∧ OwnG y (w.heap.size + 3) (.slice A9 (k + 1) c9) (ps ++ [(x, v9)]) := h; exact (show ∃ A9 c9 v9, vs 9 = .slice A9 (k + 1) c9 ∧ OwnG wS (w.heap.size + 3) (.slice A9 (k + 1) c9) (ps ++ [(x, v9)]) from ⟨A9, c9, v9, e9, hO9.apart hko (by decide) (by decide) hm⟩))
            | 10, _, _, h => exact h
            | 11, h1, _, _ => exact absurd rfl h1
            | q + 12, _, _, h => exact trivial
          clear hlt2 hBlk
          go_simp
          try rw [hSS]
          exact hK.out undef _ ⟨hM11, _, hw11⟩ (show ∃ A11 c11 v11, Whole wS (w.heap.size + 1 + 1) 25 (four b (.slice A11 (k + 1) c11)) ∧ OwnG wS (w.heap.size + 3) (.slice A11 (k + 1) c11) (ps ++ [(x, v11)]) from ⟨A9, c9, v9, hw11, ho11⟩) hP (fun h => absurd (by simp) h)
        refine EachAll.snoc (i := 10) (o := { dst := some 29, op := Op.fieldAddr 25 (Operand.tmp 3) 3, type := 0, pos := _, after := #[{ on := 0, ground := Ground.phase }, { on := 1, ground := Ground.phase }, { on := 2, ground := Ground.phase }, { on := 3, ground := Ground.phase }, { on := 4, ground := Ground.phase }, { on := 5, ground := Ground.phase }, { on := 6, ground := Ground.phase }, { on := 7, ground := Ground.phase }, { on := 8, ground := Ground.phase }, { on := 9, ground := Ground.phase }], guard := none }) (l := [0, 1, 2, 3, 4, 5, 6, 7, 8, 9]) (A := fun vs => Act.put (Act.put (Act.put (Act.put (Act.put (Act.put (Act.put (Act.put (Act.put (Act.put (_) (some 28) (vs 9)) (some 27) (vs 8)) (some 26) (vs 7)) (some 25) (vs 6)) (some 24) (vs 5)) (some 23) (vs 4)) (some 22) (vs 3)) (some 21) (vs 2)) (some 20) (vs 1)) (some 19) (vs 0)) ?_ rfl rfl (fun _ => rfl) ?_
        rotate_left
        · intro vs y hI hJ hA K hK
          obtain ⟨hM, L0, hKO⟩ := hI
          clear hJ
          clear hA
          refine Box.mk ?_
          try simp only [allPut, puts, Act.put, List.setIfInBounds_toArray, List.set_cons_zero, List.set_cons_succ] at hK ⊢
          go_simp
          exact hK.out _ _ ⟨hM, L0, hKO⟩ (show (updv vs 10 _) 10 = .pointer (some ⟨w.heap.size + 1 + 1, 3, none⟩) from rfl) (fun _ _ _ h => h) (fun _ h => h)
        refine EachAll.snoc (i := 9) (o := { dst := some 28, op := Op.call { callee := Callee.builtin Builtin.append, args := #[Operand.tmp 20, Operand.tmp 27], argTypes := #[23, 23] }, type := 23, pos := _, after := #[{ on := 1, ground := Ground.data }, { on := 8, ground := Ground.data }, { on := 7, ground := Ground.chain }], guard := none }) (l := [0, 1, 2, 3, 4, 5, 6, 7, 8]) (A := fun vs => Act.put (Act.put (Act.put (Act.put (Act.put (Act.put (Act.put (Act.put (Act.put (_) (some 27) (vs 8)) (some 26) (vs 7)) (some 25) (vs 6)) (some 24) (vs 5)) (some 23) (vs 4)) (some 22) (vs 3)) (some 21) (vs 2)) (some 20) (vs 1)) (some 19) (vs 0)) ?_ rfl rfl (fun _ => rfl) ?_
        rotate_left
        · intro vs y hI hJ hA K hK
          obtain ⟨hM, L0, hKO⟩ := hI
          have hB : Below wr.heap.size wr y := hJ (by decide)
          clear hJ
          have e1 : vs 1 = .slice AO k cO := hA 1 (by decide)
          have hF8 : ∃ q8 A8 c8, vs 8 = .slice (some ⟨q8, 0, none⟩) 1 1 ∧ wr.heap.size ≤ q8 ∧ Whole y q8 30 (six x (.slice A8 x.stamp.length c8)) ∧ OwnI y wr.heap.size (.slice A8 x.stamp.length c8) x.stamp := hA 8 (by decide)
          obtain ⟨q8, A8, c8, e8, hq8, hW8, hO8⟩ := hF8
          clear hA
          refine Box.mk ?_
          try simp only [e1, e8, allPut, puts, Act.put, List.setIfInBounds_toArray, List.set_cons_zero, List.set_cons_succ] at hK ⊢
          have hS := HS.out
          have hBlk := hS.own.block
          have hoL : OwnG y (w.heap.size + 3) (.slice AO k cO) ps := hS.own.below hB
          obtain ⟨v9, w9, hr9, ho9, hm9⟩ := run_app_gr2 (W := y) 23 hoL (g := x) (gv := .slice A8 x.stamp.length c8) rfl hW8 (by rw [HL.out]; omega) (Nat.le_trans hS.size hB.size) (own_low hO8 hS.size) ⟨HFX.out.wide, HFX.out.hd.parts'⟩
          obtain ⟨A9, c9, hv9, _, _⟩ := own_shape ho9.row
          have hl9 : (ps ++ [(x, Value.slice A8 x.stamp.length c8)]).length = k + 1 := by rw [List.length_append, HL.out]; rfl
          rw [hl9] at hv9
          subst hv9
          have hM9 : Mod ((w.heap.size + 1 + 1) :: (Value.slice AO k cO).ownBlock.toList) wr w9 := hM.trans hm9 (fun z hz => .inl (List.mem_cons_of_mem _ hz))
          have hP : ∀ j, j ≠ 9 → 9 ∉ ([[], [0], [], [2], [], [2, 3, 4], [2, 3, 4, 5], [2, 3, 4, 5, 6], [2, 3, 4, 5, 6, 7], [0, 1, 2, 3, 4, 5, 6, 7, 8], [0, 1, 2, 3, 4, 5, 6, 7, 8, 9], [0, 1, 2, 3, 4, 5, 6, 7, 8, 9, 10]] : List (List Nat)).getD j [] → known [fun us y => us 0 = .pointer (some ⟨w.heap.size + 1 + 1, 3, none⟩), fun us y => us 1 = .slice AO k cO, fun us y => us 2 = .pointer (some ⟨w.heap.size, 3, none⟩), fun us y => us 3 = .slice (some ⟨gb, go, none⟩) n cG, fun us y => us 4 = .int .i64 (k : Int), fun us y => us 5 = .pointer (some ⟨gb, go + k * 6, none⟩), fun us y => us 6 = .agg (six x (.slice Ax x.stamp.length cx)), fun us y => ∃ A7 c7, us 7 = .agg (six x (.slice A7 x.stamp.length c7)) ∧ OwnI y wr.heap.size (.slice A7 x.stamp.length c7) x.stamp, fun us y => ∃ q8 A8 c8, us 8 = .slice (some ⟨q8, 0, none⟩) 1 1 ∧ wr.heap.size ≤ q8 ∧ Whole y q8 30 (six x (.slice A8 x.stamp.length c8)) ∧ OwnI y wr.heap.size (.slice A8 x.stamp.length c8) x.stamp, fun us y => ∃ A9 c9 v9, us 9 = .slice A9 (k + 1) c9 ∧ OwnG y (w.heap.size + 3) (.slice A9 (k + 1) c9) (ps ++ [(x, v9)]), fun us y => us 10 = .pointer (some ⟨w.heap.size + 1 + 1, 3, none⟩), fun us y => ∃ A11 c11 v11, Whole y (w.heap.size + 1 + 1) 25 (four b (.slice A11 (k + 1) c11)) ∧ OwnG y (w.heap.size + 3) (.slice A11 (k + 1) c11) (ps ++ [(x, v11)])] j vs y → known [fun us y => us 0 = .pointer (some ⟨w.heap.size + 1 + 1, 3, none⟩), fun us y => us 1 = .slice AO k cO, fun us y => us 2 = .pointer (some ⟨w.heap.size, 3, none⟩), fun us y => us 3 = .slice (some ⟨gb, go, none⟩) n cG, fun us y => us 4 = .int .i64 (k : Int), fun us y => us 5 = .pointer (some ⟨gb, go + k * 6, none⟩), fun us y => us 6 = .agg (six x (.slice Ax x.stamp.length cx)), fun us y => ∃ A7 c7, us 7 = .agg (six x (.slice A7 x.stamp.length c7)) ∧ OwnI y wr.heap.size (.slice A7 x.stamp.length c7) x.stamp, fun us y => ∃ q8 A8 c8, us 8 = .slice (some ⟨q8, 0, none⟩) 1 1 ∧ wr.heap.size ≤ q8 ∧ Whole y q8 30 (six x (.slice A8 x.stamp.length c8)) ∧ OwnI y wr.heap.size (.slice A8 x.stamp.length c8) x.stamp, fun us y => ∃ A9 c9 v9, us 9 = .slice A9 (k + 1) c9 ∧ OwnG y (w.heap.size + 3) (.slice A9 (k + 1) c9) (ps ++ [(x, v9)]), fun us y => us 10 = .pointer (some ⟨w.heap.size + 1 + 1, 3, none⟩), fun us y => ∃ A11 c11 v11, Whole y (w.heap.size + 1 + 1) 25 (four b (.slice A11 (k + 1) c11)) ∧ OwnG y (w.heap.size + 3) (.slice A11 (k + 1) c11) (ps ++ [(x, v11)])] j vs w9 := by
            intro j h1 h2 h
            match j, h1, h2, h with
            | 0, _, _, h => exact h
            | 1, _, _, h => exact h
            | 2, _, _, h => exact h
            | 3, _, _, h => exact h
            | 4, _, _, h => exact h
            | 5, _, _, h => exact h
            | 6, _, _, h => exact h
            | 7, _, _, h => (obtain ⟨A7, c7, e7, hO7⟩ : ∃ A7 c7, vs 7 = .agg (six x (.slice A7 x.stamp.length c7)) ∧ OwnI y wr.heap.size (.slice A7 x.stamp.length c7) x.stamp := h; exact (show ∃ A7 c7, vs 7 = .agg (six x (.slice A7 x.stamp.length c7)) ∧ OwnI w9 wr.heap.size (.slice A7 x.stamp.length c7) x.stamp from ⟨A7, c7, e7, hm9.own hO7 (fun z hz hf => by have h1 := (hO7.lt z hz).1; have h2 := (hBlk z (by simpa using hf)).2.1; omega)⟩))
            | 8, _, _, h => (obtain ⟨q8, A8, c8, e8, hq8, hW8, hO8⟩ : ∃ q8 A8 c8, vs 8 = .slice (some ⟨q8, 0, none⟩) 1 1 ∧ wr.heap.size ≤ q8 ∧ Whole y q8 30 (six x (.slice A8 x.stamp.length c8)) ∧ OwnI y wr.heap.size (.slice A8 x.stamp.length c8) x.stamp := h; exact (show ∃ q8 A8 c8, vs 8 = .slice (some ⟨q8, 0, none⟩) 1 1 ∧ wr.heap.size ≤ q8 ∧ Whole w9 q8 30 (six x (.slice A8 x.stamp.length c8)) ∧ OwnI w9 wr.heap.size (.slice A8 x.stamp.length c8) x.stamp from ⟨q8, A8, c8, e8, hq8, hm9.whole hW8 (fun hf => by have h2 := (hBlk q8 (by simpa using hf)).2.1; omega), hm9.own hO8 (fun z hz hf => by have h1 := (hO8.lt z hz).1; have h2 := (hBlk z (by simpa using hf)).2.1; omega)⟩))
            | 9, h1, _, _ => exact absurd rfl h1
            | 10, _, h2, _ => exact absurd (by decide) h2
            | 11, _, h2, _ => exact absurd (by decide) h2
            | q + 12, _, _, h => exact trivial
          clear e8
          refine step_append rfl rfl hr9 ?_
          try simp only [Act.put, List.setIfInBounds_toArray, List.set_cons_zero, List.set_cons_succ]
          exact hK.out _ _ ⟨hM9, L0, hm9.whole hKO (fun hf => by have h2 := (hBlk _ (by simpa using hf)).1; omega)⟩ (show ∃ A9 c9 v9, (updv vs 9 _) 9 = .slice A9 (k + 1) c9 ∧ OwnG w9 (w.heap.size + 3) (.slice A9 (k + 1) c9) (ps ++ [(x, v9)]) from ⟨A9, c9, _, rfl, ho9⟩) hP (fun h => absurd (by simp) h)
        refine EachAll.snoc (i := 8) (o := { dst := some 27, op := Op.buildSlice 23 1 #[(0, Operand.tmp 26)], type := 23, pos := _, after := #[{ on := 7, ground := Ground.data }], guard := none }) (l := [2, 3, 4, 5, 6, 7]) (A := fun vs => Act.put (Act.put (Act.put (Act.put (Act.put (Act.put (_) (some 26) (vs 7)) (some 25) (vs 6)) (some 24) (vs 5)) (some 23) (vs 4)) (some 22) (vs 3)) (some 21) (vs 2)) ?_ rfl rfl (fun _ => rfl) ?_
        rotate_left
        · intro vs y hI hJ hA K hK
          obtain ⟨hM, L0, hKO⟩ := hI
          have hB : Below wr.heap.size wr y := hJ (by decide)
          clear hJ
          have hF7 : ∃ A7 c7, vs 7 = .agg (six x (.slice A7 x.stamp.length c7)) ∧ OwnI y wr.heap.size (.slice A7 x.stamp.length c7) x.stamp := hA 7 (by decide)
          obtain ⟨A7, c7, e7, hO7⟩ := hF7
          clear hA
          refine Box.mk ?_
          try simp only [e7, allPut, puts, Act.put, List.setIfInBounds_toArray, List.set_cons_zero, List.set_cons_succ] at hK ⊢
          unfold six
          go_simp
          have hb := (Below.refl _ y).alloc (Nat.le_refl _) (.cells (six x (.slice A7 x.stamp.length c7)) 30)
          unfold six at hb
          exact hK.out _ _ ⟨hM.trans (Mod.of_below hb []) (by simp), L0, (Mod.of_below hb []).whole hKO (by simp)⟩ (show ∃ q8 A8 c8, (updv vs 8 _) 8 = .slice (some ⟨q8, 0, none⟩) 1 1 ∧ wr.heap.size ≤ q8 ∧ Whole _ q8 30 (six x (.slice A8 x.stamp.length c8)) ∧ OwnI _ wr.heap.size (.slice A8 x.stamp.length c8) x.stamp from ⟨y.heap.size, A7, c7, rfl, hB.size, (Whole.new y _ _), ((Mod.of_below hb []).own hO7 (by simp))⟩) (fun j _ _ h => HKEEP.out vs y _ hb j h) (fun _ h => below_on h hb)
        refine EachAll.snoc (i := 7) (o := { dst := some 26, op := Op.call { callee := Callee.value (Operand.func 36), args := #[Operand.tmp 25], argTypes := #[30] }, type := 30, pos := _, after := #[{ on := 6, ground := Ground.data }], guard := none }) (l := [2, 3, 4, 5, 6]) (A := fun vs => Act.put (Act.put (Act.put (Act.put (Act.put (_) (some 25) (vs 6)) (some 24) (vs 5)) (some 23) (vs 4)) (some 22) (vs 3)) (some 21) (vs 2)) ?_ rfl rfl (fun _ => rfl) ?_
        rotate_left
        · intro vs y hI hJ hA K hK
          obtain ⟨hM, L0, hKO⟩ := hI
          have hB : Below wr.heap.size wr y := hJ (by decide)
          clear hJ
          have e6 : vs 6 = .agg (six x (.slice Ax x.stamp.length cx)) := hA 6 (by decide)
          clear hA
          refine Box.mk ?_
          try simp only [e6, allPut, puts, Act.put, List.setIfInBounds_toArray, List.set_cons_zero, List.set_cons_succ] at hK ⊢
          have hBw := below_on HS.out.below hB
          go_simp
          with_reducible refine (r_CopyGrant (.slice Ax x.stamp.length cx) x y (HFX.out.below hBw)).mono ?_
          rintro e w5 ⟨v5, rfl, ho, hb⟩
          obtain ⟨A5, c5, hv, _, _⟩ := own_shape ho
          subst hv
          unfold six
          go_simp
          exact hK.out _ _ ⟨hM.trans (Mod.of_below hb []) (by simp), L0, (Mod.of_below hb []).whole hKO (by simp)⟩ (show ∃ A7 c7, (updv vs 7 _) 7 = .agg (six x (.slice A7 x.stamp.length c7)) ∧ OwnI w5 wr.heap.size (.slice A7 x.stamp.length c7) x.stamp from ⟨A5, c5, rfl, (own_low ho hB.size)⟩) (fun j _ _ h => HKEEP.out vs y w5 hb j h) (fun _ h => below_on h hb)
        refine EachAll.snoc (i := 6) (o := { dst := some 25, op := Op.load 30 (Operand.tmp 24), type := 30, pos := _, after := #[{ on := 5, ground := Ground.data }], guard := none }) (l := [2, 3, 4, 5]) (A := fun vs => Act.put (Act.put (Act.put (Act.put (_) (some 24) (vs 5)) (some 23) (vs 4)) (some 22) (vs 3)) (some 21) (vs 2)) ?_ rfl rfl (fun _ => rfl) ?_
        rotate_left
        · intro vs y hI hJ hA K hK
          obtain ⟨hM, L0, hKO⟩ := hI
          have hB : Below wr.heap.size wr y := hJ (by decide)
          clear hJ
          have e5 : vs 5 = .pointer (some ⟨gb, go + k * 6, none⟩) := hA 5 (by decide)
          clear hA
          refine Box.mk ?_
          try simp only [e5, allPut, puts, Act.put, List.setIfInBounds_toArray, List.set_cons_zero, List.set_cons_succ] at hK ⊢
          have hBw := below_on HS.out.below hB
          have x0 := (hBw.cell (p := ⟨gb, go + k * 6, none⟩) HGB.out).trans HXC.out.1
          have x1 := (hBw.cell (p := ⟨gb, go + k * 6 + 1, none⟩) HGB.out).trans HXC.out.2.1
          have x2 := (hBw.cell (p := ⟨gb, go + k * 6 + 2, none⟩) HGB.out).trans HXC.out.2.2.1
          have x3 := (hBw.cell (p := ⟨gb, go + k * 6 + 3, none⟩) HGB.out).trans HXC.out.2.2.2.1
          have x4 := (hBw.cell (p := ⟨gb, go + k * 6 + 4, none⟩) HGB.out).trans HXC.out.2.2.2.2.1
          have x5 := (hBw.cell (p := ⟨gb, go + k * 6 + 5, none⟩) HGB.out).trans HXC.out.2.2.2.2.2
          clear hBw
          go_simp
          exact hK.out _ _ ⟨hM, L0, hKO⟩ (show (updv vs 6 _) 6 = .agg (six x (.slice Ax x.stamp.length cx)) from rfl) (fun _ _ _ h => h) (fun _ h => h)
        refine EachAll.snoc (i := 5) (o := { dst := some 24, op := Op.indexAddr 23 (Operand.tmp 22) (Operand.tmp 23), type := 0, pos := _, after := #[{ on := 3, ground := Ground.data }, { on := 4, ground := Ground.data }], guard := none }) (l := [2, 3, 4]) (A := fun vs => Act.put (Act.put (Act.put (_) (some 23) (vs 4)) (some 22) (vs 3)) (some 21) (vs 2)) ?_ rfl rfl (fun _ => rfl) ?_
        rotate_left
        · intro vs y hI hJ hA K hK
          obtain ⟨hM, L0, hKO⟩ := hI
          have hB : Below wr.heap.size wr y := hJ (by decide)
          clear hJ
          have e3 : vs 3 = .slice (some ⟨gb, go, none⟩) n cG := hA 3 (by decide)
          have e4 : vs 4 = .int .i64 (k : Int) := hA 4 (by decide)
          clear hA
          refine Box.mk ?_
          try simp only [e3, e4, allPut, puts, Act.put, List.setIfInBounds_toArray, List.set_cons_zero, List.set_cons_succ] at hK ⊢
          go_simp
          exact hK.out _ _ ⟨hM, L0, hKO⟩ (show (updv vs 5 _) 5 = .pointer (some ⟨gb, go + k * 6, none⟩) from rfl) (fun _ _ _ h => h) (fun _ h => h)
        refine EachAll.snoc (i := 4) (o := { dst := some 23, op := Op.move (Operand.tmp 4), type := 3, pos := _, after := #[], guard := none }) (l := []) (A := fun vs => _) ?_ rfl rfl (fun _ => rfl) ?_
        rotate_left
        · intro vs y hI hJ hA K hK
          obtain ⟨hM, L0, hKO⟩ := hI
          have hB : Below wr.heap.size wr y := hJ (by decide)
          clear hJ
          clear hA
          refine Box.mk ?_
          try simp only [allPut, puts, Act.put, List.setIfInBounds_toArray, List.set_cons_zero, List.set_cons_succ] at hK ⊢
          go_simp
          exact hK.out _ _ ⟨hM, L0, hKO⟩ (show (updv vs 4 _) 4 = .int .i64 (k : Int) from rfl) (fun _ _ _ h => h) (fun _ h => h)
        refine EachAll.snoc (i := 3) (o := { dst := some 22, op := Op.load 23 (Operand.tmp 21), type := 23, pos := _, after := #[{ on := 2, ground := Ground.data }], guard := none }) (l := [2]) (A := fun vs => Act.put (_) (some 21) (vs 2)) ?_ rfl rfl (fun _ => rfl) ?_
        rotate_left
        · intro vs y hI hJ hA K hK
          obtain ⟨hM, L0, hKO⟩ := hI
          have hB : Below wr.heap.size wr y := hJ (by decide)
          clear hJ
          have e2 : vs 2 = .pointer (some ⟨w.heap.size, 3, none⟩) := hA 2 (by decide)
          clear hA
          refine Box.mk ?_
          try simp only [e2, allPut, puts, Act.put, List.setIfInBounds_toArray, List.set_cons_zero, List.set_cons_succ] at hK ⊢
          have z3 : y.cell? ⟨w.heap.size, 3, none⟩ = some (.slice (some ⟨gb, go, none⟩) n cG)
            := ((Mod.of_below hB []).whole HS.out.kb (by simp)).cell 3
          go_simp
          exact hK.out _ _ ⟨hM, L0, hKO⟩ (show (updv vs 3 _) 3 = .slice (some ⟨gb, go, none⟩) n cG from rfl) (fun _ _ _ h => h) (fun _ h => h)
        refine EachAll.snoc (i := 2) (o := { dst := some 21, op := Op.fieldAddr 25 (Operand.tmp 1) 3, type := 0, pos := _, after := #[], guard := none }) (l := []) (A := fun vs => _) ?_ rfl rfl (fun _ => rfl) ?_
        rotate_left
        · intro vs y hI hJ hA K hK
          obtain ⟨hM, L0, hKO⟩ := hI
          have hB : Below wr.heap.size wr y := hJ (by decide)
          clear hJ
          clear hA
          refine Box.mk ?_
          try simp only [allPut, puts, Act.put, List.setIfInBounds_toArray, List.set_cons_zero, List.set_cons_succ] at hK ⊢
          go_simp
          exact hK.out _ _ ⟨hM, L0, hKO⟩ (show (updv vs 2 _) 2 = .pointer (some ⟨w.heap.size, 3, none⟩) from rfl) (fun _ _ _ h => h) (fun _ h => h)
        refine EachAll.snoc (i := 1) (o := { dst := some 20, op := Op.load 23 (Operand.tmp 19), type := 23, pos := _, after := #[{ on := 0, ground := Ground.data }], guard := none }) (l := [0]) (A := fun vs => Act.put (_) (some 19) (vs 0)) ?_ rfl rfl (fun _ => rfl) ?_
        rotate_left
        · intro vs y hI hJ hA K hK
          obtain ⟨hM, L0, hKO⟩ := hI
          have hB : Below wr.heap.size wr y := hJ (by decide)
          clear hJ
          have e0 : vs 0 = .pointer (some ⟨w.heap.size + 1 + 1, 3, none⟩) := hA 0 (by decide)
          clear hA
          refine Box.mk ?_
          try simp only [e0, allPut, puts, Act.put, List.setIfInBounds_toArray, List.set_cons_zero, List.set_cons_succ] at hK ⊢
          have z3 : y.cell? ⟨w.heap.size + 1 + 1, 3, none⟩ = some (.slice AO k cO)
            := ((Mod.of_below hB []).whole HS.out.ko (by simp)).cell 3
          go_simp
          exact hK.out _ _ ⟨hM, L0, hKO⟩ (show (updv vs 1 _) 1 = .slice AO k cO from rfl) (fun _ _ _ h => h) (fun _ h => h)
        refine EachAll.snoc (i := 0) (o := { dst := some 19, op := Op.fieldAddr 25 (Operand.tmp 3) 3, type := 0, pos := _, after := #[], guard := none }) (l := []) (A := fun vs => _) ?_ rfl rfl (fun _ => rfl) ?_
        rotate_left
        · intro vs y hI hJ hA K hK
          obtain ⟨hM, L0, hKO⟩ := hI
          have hB : Below wr.heap.size wr y := hJ (by decide)
          clear hJ
          clear hA
          refine Box.mk ?_
          try simp only [allPut, puts, Act.put, List.setIfInBounds_toArray, List.set_cons_zero, List.set_cons_succ] at hK ⊢
          go_simp
          exact hK.out _ _ ⟨hM, L0, hKO⟩ (show (updv vs 0 _) 0 = .pointer (some ⟨w.heap.size + 1 + 1, 3, none⟩) from rfl) (fun _ _ _ h => h) (fun _ h => h)
        exact EachAll.nil
      · intro vs y hI hall
        obtain ⟨hM, L0, hKO⟩ := hI
        have e0 : vs 0 = .pointer (some ⟨w.heap.size + 1 + 1, 3, none⟩) := hall 0 (by decide)
        have e1 : vs 1 = .slice AO k cO := hall 1 (by decide)
        have e2 : vs 2 = .pointer (some ⟨w.heap.size, 3, none⟩) := hall 2 (by decide)
        have e3 : vs 3 = .slice (some ⟨gb, go, none⟩) n cG := hall 3 (by decide)
        have e4 : vs 4 = .int .i64 (k : Int) := hall 4 (by decide)
        have e5 : vs 5 = .pointer (some ⟨gb, go + k * 6, none⟩) := hall 5 (by decide)
        have e6 : vs 6 = .agg (six x (.slice Ax x.stamp.length cx)) := hall 6 (by decide)
        have hF7 : ∃ A7 c7, vs 7 = .agg (six x (.slice A7 x.stamp.length c7)) ∧ OwnI y wr.heap.size (.slice A7 x.stamp.length c7) x.stamp := hall 7 (by decide)
        obtain ⟨A7, c7, e7, hO7⟩ := hF7
        have hF8 : ∃ q8 A8 c8, vs 8 = .slice (some ⟨q8, 0, none⟩) 1 1 ∧ wr.heap.size ≤ q8 ∧ Whole y q8 30 (six x (.slice A8 x.stamp.length c8)) ∧ OwnI y wr.heap.size (.slice A8 x.stamp.length c8) x.stamp := hall 8 (by decide)
        obtain ⟨q8, A8, c8, e8, hq8, hW8, hO8⟩ := hF8
        have hF9 : ∃ A9 c9 v9, vs 9 = .slice A9 (k + 1) c9 ∧ OwnG y (w.heap.size + 3) (.slice A9 (k + 1) c9) (ps ++ [(x, v9)]) := hall 9 (by decide)
        obtain ⟨A9, c9, v9, e9, hO9⟩ := hF9
        have e10 : vs 10 = .pointer (some ⟨w.heap.size + 1 + 1, 3, none⟩) := hall 10 (by decide)
        have hF11 : ∃ A11 c11 v11, Whole y (w.heap.size + 1 + 1) 25 (four b (.slice A11 (k + 1) c11)) ∧ OwnG y (w.heap.size + 3) (.slice A11 (k + 1) c11) (ps ++ [(x, v11)]) := hall 11 (by decide)
        obtain ⟨A11, c11, v11, hW11, hO11⟩ := hF11
        clear hall HKEEP
        refine Box.mk ?_
        simp only [e0, e1, e2, e3, e4, e5, e6, e7, e8, e9, e10, allPut, puts, Act.put, List.setIfInBounds_toArray, List.set_cons_zero, List.set_cons_succ]
        have HS9 := Lib.hid (HS.out.next hM hW11 hO11)
        clear e0 e1 e2 e3 e4 e5 e6 e7 e8 e9 e10 hO7 hq8 hW8 hO8 hO9 hW11 hO11 hM hKO
        go_wp2_with fail
        go_roundw
        case rel => exact ⟨k + 1, _, _, rfl, hlt, HS9, Lib.hid (by rw [List.map_append, HM.out, HTK.out]; rfl)⟩
        case measure => simp only [intOf]; omega
    · have HMM := Lib.hid (show ps.map Prod.fst = b.gs by rw [HM.out, List.take_of_length_le (by have := HN.out; omega)])
      obtain ⟨AO, cO, hL, _, _⟩ := own_shape HS.out.own.row
      subst hL
      obtain ⟨o0, o1, o2, o3⟩ := four_cells HS.out.ko
      obtain ⟨⟨z0, z1, z2, z3⟩, y0, y1, y2, y3⟩ := zero_cells HS.out.kz
      generalize ps.length = pl at HS o3
      go_wp2_with fail
      refine bodyPost_ret (v := .agg (four b (.slice AO pl cO))) (by simp [results, Try.results35, go_sem, z0, z1, z2, z3, four]) rfl ?_
      have hM := four_mod wr (w.heap.size + 1) (.int .i64 b.next) (.int .i64 b.boots) (.int .i64 b.longest) (.slice AO pl cO)
      exact ⟨_, ps, rfl, HMM.out, (HS.out.own.mod hM (by simp)).low (by omega), HS.out.below.trans (hM.below HS.out.below.size (by simp))⟩
set_option maxHeartbeats 4000000 in
theorem r_own (v : Value) (b : Bk) (w : World) (h : FitB w v b) : Calls Try.prog 13 #[.agg (four b v)] w (BkPost w b) := by
  have hH : w.heap.size + 1 = (w.alloc (.cells (four b v) 25)).heap.size := by simp
  have HX := Lib.hid (((Below.refl _ w).alloc (Nat.le_refl _) (.cells (four b v) 25)).alloc (by simp) (.cells z4 25))
  have HB := Lib.hid (h.below HX.out)
  have HK := Lib.hid ((Whole.new w 25 (four b v)).alloc (.cells z4 25))
  have HZ := Lib.hid (show Whole ((w.alloc (.cells (four b v) 25)).alloc (.cells z4 25)) (w.heap.size + 1) 25 z4 from by rw [hH]; exact Whole.new _ _ _)
  have HS := Lib.hid (show ((w.alloc (.cells (four b v) 25)).alloc (.cells z4 25)).heap.size = w.heap.size + 2 by simp)
  clear h hH
  obtain ⟨e0, e1, e2, e3⟩ := four_cells HK.out
  unfold z4 at HX HB HK HZ HS e0 e1 e2 e3
  go_enter Try.func13, Try.ntmps13
  go_wp2_with fail
  generalize ((w.alloc (.cells (four b v) 25)).alloc (.cells #[.int .i64 0, .int .i64 0, .int .i64 0, .slice none 0 0] 25)) = w1 at HX HB HK HZ HS e0 e1 e2 e3 ⊢
  refine (r_Copy v b w1 HB.out).mono ?_
  rintro e w2 ⟨L, ps, rfl, hm, ho, hb⟩
  obtain ⟨AO, cO, hL, _, _⟩ := own_shape ho.row
  subst hL
  have HM := Lib.hid hm
  have HO := Lib.hid (ho.low (show w.heap.size + 2 ≤ w1.heap.size by rw [HS.out]; exact Nat.le_refl _))
  have HX2 := Lib.hid (below_on HX.out hb)
  have HZ2 := Lib.hid (show Whole w2 (w.heap.size + 1) 25 z4 from (Mod.of_below hb []).whole HZ.out (by simp))
  clear hm ho hb e0 e1 e2 e3
  generalize ps.length = pl at HO ⊢
  obtain ⟨⟨z0, z1, z2, z3⟩, y0, y1, y2, y3⟩ := zero_cells HZ2.out
  unfold four
  go_wp2_with fail
  refine bodyPost_ret (v := .agg (four b (.slice AO pl cO))) (by simp [results, Try.results13, go_sem, z0, z1, z2, z3, four]) rfl ?_
  have hM := four_mod w2 (w.heap.size + 1) (.int .i64 b.next) (.int .i64 b.boots) (.int .i64 b.longest) (.slice AO pl cO)
  exact ⟨_, ps, rfl, HM.out, (HO.out.mod hM (by simp)).low (by omega), HX2.out.trans (hM.below HX2.out.size (by simp))⟩
end Go.Proofs.Ytdegamlnkleddaa
