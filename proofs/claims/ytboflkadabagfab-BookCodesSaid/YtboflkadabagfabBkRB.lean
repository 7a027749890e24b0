/- Texts that belong together: BkR2, BkR3. -/
import Derived.Test.YtboflkadabagfabBkR1
import Derived.Test.YtboflkadabagfabBkOw
import Derived.Test.YtboflkadabagfabBkW2
namespace Go.Proofs.Ytboflkadabagfab
open Go.RowKit
open BM (Gr Rc Bk g0 r0 b0)
set_option linter.unusedVariables false
set_option linter.unusedSimpArgs false
set_option maxRecDepth 100000
def k12 (k : Int) : Array Value := #[.int .i64 k, .int .i64 0, .int .i64 0, .string ⟨#[]⟩, .int .i64 0, .slice none 0 0, .int .i64 0, .int .i64 0, .slice none 0 0, .int .i64 0, .int .i64 0, .int .i64 0]
/-- The three boxes of the call: the record, the answer, the record under way. -/
structure UsSt (w0 : World) (r : Rc) (v u : Value) (w : World) : Prop where
  kr : Whole w w0.heap.size 28 (twelve r v u)
  kz : Whole w (w0.heap.size + 1) 28 z12
  ko : Whole w (w0.heap.size + 1 + 1) 28 (k12 r.kind)
  below : Below w0.heap.size w0 w
theorem UsSt.start (w : World) (r : Rc) (v u : Value) : UsSt w r v u (((w.alloc (.cells (twelve r v u) 28)).alloc (.cells z12 28)).alloc (.cells (k12 r.kind) 28)) := by
  have hH : w.heap.size + 1 = (w.alloc (.cells (twelve r v u) 28)).heap.size := by simp
  have hH2 : w.heap.size + 1 + 1 = ((w.alloc (.cells (twelve r v u) 28)).alloc (.cells z12 28)).heap.size := by simp
  exact ⟨((Whole.new w _ _).alloc _).alloc _, by rw [hH]; exact (Whole.new _ _ _).alloc _, by rw [hH2]; exact Whole.new _ _ _, (((Below.refl _ w).alloc (Nat.le_refl _) _).alloc (by simp) _).alloc (by simp; omega) _⟩
def UsedPost (w : World) (r : Rc) (e : Ending) (w' : World) : Prop := ∃ v u, e = .returned (.agg (twelve (BM.used r) v u)) ∧ FitR w' v u (BM.used r) ∧ Below w.heap.size w w'
theorem UsSt.done {w0 w : World} {r : Rc} {v u v' u' : Value} {q : Rc} (h : UsSt w0 r v u w) (hR : FitR w0 v u r) (hq : ∀ w', Below w0.heap.size w0 w' → FitR w' v' u' q) (he : BM.used r = q) {w' : World} (hM : Mod [w0.heap.size + 1, w0.heap.size + 1 + 1] w w') : UsedPost w0 r (.returned (.agg (twelve q v' u'))) w' := by
  have hb : Below w0.heap.size w0 w' := h.below.trans (hM.below h.below.size (by intro x hx; simp at hx; omega))
  subst he
  exact ⟨v', u', rfl, hq w' hb, hb⟩
set_option maxHeartbeats 8000000 in
theorem us_1 {A B : Option Addr} {c d : Nat} (r : Rc) (w : World) (h : FitR w (.slice A r.g.stamp.length c) (.slice B r.stamp.length d) r) (hk : r.kind = 1) :
    Calls Try.prog 47 #[.agg (twelve r (.slice A r.g.stamp.length c) (.slice B r.stamp.length d))] w (UsedPost w r) := by
  have HT := Lib.hid (UsSt.start w r (.slice A r.g.stamp.length c) (.slice B r.stamp.length d))
  have HR := Lib.hid h
  clear h
  have HU := Lib.hid (show BM.used r = { r0 with kind := 1, next := r.next, boots := r.boots } by unfold BM.used; simp [hk])
  have hs := HT.out.kr
  have HKK := Lib.hid hk
  clear hk
  have c0w : ((w.alloc (.cells (twelve r (.slice A r.g.stamp.length c) (.slice B r.stamp.length d)) 28)).alloc (.cells z12 28)).cell? ⟨w.heap.size, 0, none⟩ = some (.int .i64 r.kind) := ((Whole.new w _ _).alloc _).cell 0
  clear hs
  unfold z12 at c0w
  go_enter Try.func47, Try.ntmps47
  go_upto_region 2 with (fail)
  clear c0w
  unfold z12 k12 at HT
  generalize (((w.alloc (.cells (twelve r (.slice A r.g.stamp.length c) (.slice B r.stamp.length d)) 28)).alloc (.cells #[.int .i64 0, .int .i64 0, .int .i64 0, .string ⟨#[]⟩, .int .i64 0, .slice none 0 0, .int .i64 0, .int .i64 0, .slice none 0 0, .int .i64 0, .int .i64 0, .int .i64 0] 28)).alloc (.cells #[.int .i64 r.kind, .int .i64 0, .int .i64 0, .string ⟨#[]⟩, .int .i64 0, .slice none 0 0, .int .i64 0, .int .i64 0, .slice none 0 0, .int .i64 0, .int .i64 0, .int .i64 0] 28)) = w3 at HT ⊢
  obtain ⟨c0, c1, c2', c3, c4, c5, c6, c7, c8, c9, c10, c11⟩ := rec_cells HT.out.kr
  obtain ⟨z0, z1, z2, z3, z4, z5, z6, z7, z8, z9, z10, z11⟩ := zero12 HT.out.kz
  obtain ⟨y0, y1, y2, y3, y4, y5, y6, y7, y8, y9, y10, y11⟩ := frozen12 HT.out.kz
  obtain ⟨f0, f1, f2, f3, f4, f5, f6, f7, f8, f9, f10, f11⟩ := frozen12 HT.out.ko
  have o0 : w3.cell? ⟨w.heap.size + 1 + 1, 0, none⟩ = some (.int .i64 r.kind) := HT.out.ko.cell 0
  have o1 : w3.cell? ⟨w.heap.size + 1 + 1, 1, none⟩ = some (.int .i64 0) := HT.out.ko.cell 1
  have o2 : w3.cell? ⟨w.heap.size + 1 + 1, 2, none⟩ = some (.int .i64 0) := HT.out.ko.cell 2
  have o3 : w3.cell? ⟨w.heap.size + 1 + 1, 3, none⟩ = some (.string ⟨#[]⟩) := HT.out.ko.cell 3
  have o4 : w3.cell? ⟨w.heap.size + 1 + 1, 4, none⟩ = some (.int .i64 0) := HT.out.ko.cell 4
  have o5 : w3.cell? ⟨w.heap.size + 1 + 1, 5, none⟩ = some (.slice none 0 0) := HT.out.ko.cell 5
  have o6 : w3.cell? ⟨w.heap.size + 1 + 1, 6, none⟩ = some (.int .i64 0) := HT.out.ko.cell 6
  have o7 : w3.cell? ⟨w.heap.size + 1 + 1, 7, none⟩ = some (.int .i64 0) := HT.out.ko.cell 7
  have o8 : w3.cell? ⟨w.heap.size + 1 + 1, 8, none⟩ = some (.slice none 0 0) := HT.out.ko.cell 8
  have o9 : w3.cell? ⟨w.heap.size + 1 + 1, 9, none⟩ = some (.int .i64 0) := HT.out.ko.cell 9
  have o10 : w3.cell? ⟨w.heap.size + 1 + 1, 10, none⟩ = some (.int .i64 0) := HT.out.ko.cell 10
  have o11 : w3.cell? ⟨w.heap.size + 1 + 1, 11, none⟩ = some (.int .i64 0) := HT.out.ko.cell 11
  rw [HKK.out] at c0 o0
  go_wp2_with fail
  refine bodyPost_ret (v := .agg (twelve { r0 with kind := 1, next := r.next, boots := r.boots } (.slice none 0 0) (.slice none 0 0))) (by simp [results, Try.results47, go_sem, z0, z1, z2, z3, z4, z5, z6, z7, z8, z9, z10, z11, twelve, BM.r0, BM.g0]) rfl ?_
  exact HT.out.done (q := { r0 with kind := 1, next := r.next, boots := r.boots }) (v' := (.slice none 0 0)) (u' := (.slice none 0 0)) HR.out (fun w' hb => ⟨⟨HdI.nil, gw0⟩, HdI.nil, by unfold In64; simp, in0, HR.out.next, HR.out.boots, in0⟩) HU.out (((((((((((((((Mod.refl [w.heap.size + 1, w.heap.size + 1 + 1] w3).store (p := ⟨w.heap.size + 1 + 1, 9, none⟩) (.inl (by simp)) (.int .i64 r.next)).store (p := ⟨w.heap.size + 1 + 1, 10, none⟩) (.inl (by simp)) (.int .i64 r.boots)).store (p := ⟨w.heap.size + 1, 0, none⟩) (.inl (by simp)) (.int .i64 1)).store (p := ⟨w.heap.size + 1, 1, none⟩) (.inl (by simp)) (.int .i64 0)).store (p := ⟨w.heap.size + 1, 2, none⟩) (.inl (by simp)) (.int .i64 0)).store (p := ⟨w.heap.size + 1, 3, none⟩) (.inl (by simp)) (.string ⟨#[]⟩)).store (p := ⟨w.heap.size + 1, 4, none⟩) (.inl (by simp)) (.int .i64 0)).store (p := ⟨w.heap.size + 1, 5, none⟩) (.inl (by simp)) (.slice none 0 0)).store (p := ⟨w.heap.size + 1, 6, none⟩) (.inl (by simp)) (.int .i64 0)).store (p := ⟨w.heap.size + 1, 7, none⟩) (.inl (by simp)) (.int .i64 0)).store (p := ⟨w.heap.size + 1, 8, none⟩) (.inl (by simp)) (.slice none 0 0)).store (p := ⟨w.heap.size + 1, 9, none⟩) (.inl (by simp)) (.int .i64 r.next)).store (p := ⟨w.heap.size + 1, 10, none⟩) (.inl (by simp)) (.int .i64 r.boots)).store (p := ⟨w.heap.size + 1, 11, none⟩) (.inl (by simp)) (.int .i64 0))
set_option maxHeartbeats 8000000 in
theorem us_2 {A B : Option Addr} {c d : Nat} (r : Rc) (w : World) (h : FitR w (.slice A r.g.stamp.length c) (.slice B r.stamp.length d) r) (hk : r.kind = 2) :
    Calls Try.prog 47 #[.agg (twelve r (.slice A r.g.stamp.length c) (.slice B r.stamp.length d))] w (UsedPost w r) := by
  have HT := Lib.hid (UsSt.start w r (.slice A r.g.stamp.length c) (.slice B r.stamp.length d))
  have HR := Lib.hid h
  clear h
  have HU := Lib.hid (show BM.used r = { r0 with kind := 2, longest := r.longest } by unfold BM.used; simp [hk])
  have hs := HT.out.kr
  have HKK := Lib.hid hk
  clear hk
  have c0w : ((w.alloc (.cells (twelve r (.slice A r.g.stamp.length c) (.slice B r.stamp.length d)) 28)).alloc (.cells z12 28)).cell? ⟨w.heap.size, 0, none⟩ = some (.int .i64 r.kind) := ((Whole.new w _ _).alloc _).cell 0
  clear hs
  unfold z12 at c0w
  go_enter Try.func47, Try.ntmps47
  go_upto_region 2 with (fail)
  clear c0w
  unfold z12 k12 at HT
  generalize (((w.alloc (.cells (twelve r (.slice A r.g.stamp.length c) (.slice B r.stamp.length d)) 28)).alloc (.cells #[.int .i64 0, .int .i64 0, .int .i64 0, .string ⟨#[]⟩, .int .i64 0, .slice none 0 0, .int .i64 0, .int .i64 0, .slice none 0 0, .int .i64 0, .int .i64 0, .int .i64 0] 28)).alloc (.cells #[.int .i64 r.kind, .int .i64 0, .int .i64 0, .string ⟨#[]⟩, .int .i64 0, .slice none 0 0, .int .i64 0, .int .i64 0, .slice none 0 0, .int .i64 0, .int .i64 0, .int .i64 0] 28)) = w3 at HT ⊢
  obtain ⟨c0, c1, c2', c3, c4, c5, c6, c7, c8, c9, c10, c11⟩ := rec_cells HT.out.kr
  obtain ⟨z0, z1, z2, z3, z4, z5, z6, z7, z8, z9, z10, z11⟩ := zero12 HT.out.kz
  obtain ⟨y0, y1, y2, y3, y4, y5, y6, y7, y8, y9, y10, y11⟩ := frozen12 HT.out.kz
  obtain ⟨f0, f1, f2, f3, f4, f5, f6, f7, f8, f9, f10, f11⟩ := frozen12 HT.out.ko
  have o0 : w3.cell? ⟨w.heap.size + 1 + 1, 0, none⟩ = some (.int .i64 r.kind) := HT.out.ko.cell 0
  have o1 : w3.cell? ⟨w.heap.size + 1 + 1, 1, none⟩ = some (.int .i64 0) := HT.out.ko.cell 1
  have o2 : w3.cell? ⟨w.heap.size + 1 + 1, 2, none⟩ = some (.int .i64 0) := HT.out.ko.cell 2
  have o3 : w3.cell? ⟨w.heap.size + 1 + 1, 3, none⟩ = some (.string ⟨#[]⟩) := HT.out.ko.cell 3
  have o4 : w3.cell? ⟨w.heap.size + 1 + 1, 4, none⟩ = some (.int .i64 0) := HT.out.ko.cell 4
  have o5 : w3.cell? ⟨w.heap.size + 1 + 1, 5, none⟩ = some (.slice none 0 0) := HT.out.ko.cell 5
  have o6 : w3.cell? ⟨w.heap.size + 1 + 1, 6, none⟩ = some (.int .i64 0) := HT.out.ko.cell 6
  have o7 : w3.cell? ⟨w.heap.size + 1 + 1, 7, none⟩ = some (.int .i64 0) := HT.out.ko.cell 7
  have o8 : w3.cell? ⟨w.heap.size + 1 + 1, 8, none⟩ = some (.slice none 0 0) := HT.out.ko.cell 8
  have o9 : w3.cell? ⟨w.heap.size + 1 + 1, 9, none⟩ = some (.int .i64 0) := HT.out.ko.cell 9
  have o10 : w3.cell? ⟨w.heap.size + 1 + 1, 10, none⟩ = some (.int .i64 0) := HT.out.ko.cell 10
  have o11 : w3.cell? ⟨w.heap.size + 1 + 1, 11, none⟩ = some (.int .i64 0) := HT.out.ko.cell 11
  rw [HKK.out] at c0 o0
  go_wp2_with fail
  refine bodyPost_ret (v := .agg (twelve { r0 with kind := 2, longest := r.longest } (.slice none 0 0) (.slice none 0 0))) (by simp [results, Try.results47, go_sem, z0, z1, z2, z3, z4, z5, z6, z7, z8, z9, z10, z11, twelve, BM.r0, BM.g0]) rfl ?_
  exact HT.out.done (q := { r0 with kind := 2, longest := r.longest }) (v' := (.slice none 0 0)) (u' := (.slice none 0 0)) HR.out (fun w' hb => ⟨⟨HdI.nil, gw0⟩, HdI.nil, by unfold In64; simp, in0, in0, in0, HR.out.longest⟩) HU.out ((((((((((((((Mod.refl [w.heap.size + 1, w.heap.size + 1 + 1] w3).store (p := ⟨w.heap.size + 1 + 1, 11, none⟩) (.inl (by simp)) (.int .i64 r.longest)).store (p := ⟨w.heap.size + 1, 0, none⟩) (.inl (by simp)) (.int .i64 2)).store (p := ⟨w.heap.size + 1, 1, none⟩) (.inl (by simp)) (.int .i64 0)).store (p := ⟨w.heap.size + 1, 2, none⟩) (.inl (by simp)) (.int .i64 0)).store (p := ⟨w.heap.size + 1, 3, none⟩) (.inl (by simp)) (.string ⟨#[]⟩)).store (p := ⟨w.heap.size + 1, 4, none⟩) (.inl (by simp)) (.int .i64 0)).store (p := ⟨w.heap.size + 1, 5, none⟩) (.inl (by simp)) (.slice none 0 0)).store (p := ⟨w.heap.size + 1, 6, none⟩) (.inl (by simp)) (.int .i64 0)).store (p := ⟨w.heap.size + 1, 7, none⟩) (.inl (by simp)) (.int .i64 0)).store (p := ⟨w.heap.size + 1, 8, none⟩) (.inl (by simp)) (.slice none 0 0)).store (p := ⟨w.heap.size + 1, 9, none⟩) (.inl (by simp)) (.int .i64 0)).store (p := ⟨w.heap.size + 1, 10, none⟩) (.inl (by simp)) (.int .i64 0)).store (p := ⟨w.heap.size + 1, 11, none⟩) (.inl (by simp)) (.int .i64 r.longest))
set_option maxHeartbeats 8000000 in
theorem us_3 {A B : Option Addr} {c d : Nat} (r : Rc) (w : World) (h : FitR w (.slice A r.g.stamp.length c) (.slice B r.stamp.length d) r) (hk : r.kind = 3) :
    Calls Try.prog 47 #[.agg (twelve r (.slice A r.g.stamp.length c) (.slice B r.stamp.length d))] w (UsedPost w r) := by
  have HT := Lib.hid (UsSt.start w r (.slice A r.g.stamp.length c) (.slice B r.stamp.length d))
  have HR := Lib.hid h
  clear h
  have HU := Lib.hid (show BM.used r = { r0 with kind := 3, g := r.g } by unfold BM.used; simp [hk])
  have hs := HT.out.kr
  have HKK := Lib.hid hk
  clear hk
  have c0w : ((w.alloc (.cells (twelve r (.slice A r.g.stamp.length c) (.slice B r.stamp.length d)) 28)).alloc (.cells z12 28)).cell? ⟨w.heap.size, 0, none⟩ = some (.int .i64 r.kind) := ((Whole.new w _ _).alloc _).cell 0
  clear hs
  unfold z12 at c0w
  go_enter Try.func47, Try.ntmps47
  go_upto_region 2 with (fail)
  clear c0w
  unfold z12 k12 at HT
  generalize (((w.alloc (.cells (twelve r (.slice A r.g.stamp.length c) (.slice B r.stamp.length d)) 28)).alloc (.cells #[.int .i64 0, .int .i64 0, .int .i64 0, .string ⟨#[]⟩, .int .i64 0, .slice none 0 0, .int .i64 0, .int .i64 0, .slice none 0 0, .int .i64 0, .int .i64 0, .int .i64 0] 28)).alloc (.cells #[.int .i64 r.kind, .int .i64 0, .int .i64 0, .string ⟨#[]⟩, .int .i64 0, .slice none 0 0, .int .i64 0, .int .i64 0, .slice none 0 0, .int .i64 0, .int .i64 0, .int .i64 0] 28)) = w3 at HT ⊢
  obtain ⟨c0, c1, c2', c3, c4, c5, c6, c7, c8, c9, c10, c11⟩ := rec_cells HT.out.kr
  obtain ⟨z0, z1, z2, z3, z4, z5, z6, z7, z8, z9, z10, z11⟩ := zero12 HT.out.kz
  obtain ⟨y0, y1, y2, y3, y4, y5, y6, y7, y8, y9, y10, y11⟩ := frozen12 HT.out.kz
  obtain ⟨f0, f1, f2, f3, f4, f5, f6, f7, f8, f9, f10, f11⟩ := frozen12 HT.out.ko
  have o0 : w3.cell? ⟨w.heap.size + 1 + 1, 0, none⟩ = some (.int .i64 r.kind) := HT.out.ko.cell 0
  have o1 : w3.cell? ⟨w.heap.size + 1 + 1, 1, none⟩ = some (.int .i64 0) := HT.out.ko.cell 1
  have o2 : w3.cell? ⟨w.heap.size + 1 + 1, 2, none⟩ = some (.int .i64 0) := HT.out.ko.cell 2
  have o3 : w3.cell? ⟨w.heap.size + 1 + 1, 3, none⟩ = some (.string ⟨#[]⟩) := HT.out.ko.cell 3
  have o4 : w3.cell? ⟨w.heap.size + 1 + 1, 4, none⟩ = some (.int .i64 0) := HT.out.ko.cell 4
  have o5 : w3.cell? ⟨w.heap.size + 1 + 1, 5, none⟩ = some (.slice none 0 0) := HT.out.ko.cell 5
  have o6 : w3.cell? ⟨w.heap.size + 1 + 1, 6, none⟩ = some (.int .i64 0) := HT.out.ko.cell 6
  have o7 : w3.cell? ⟨w.heap.size + 1 + 1, 7, none⟩ = some (.int .i64 0) := HT.out.ko.cell 7
  have o8 : w3.cell? ⟨w.heap.size + 1 + 1, 8, none⟩ = some (.slice none 0 0) := HT.out.ko.cell 8
  have o9 : w3.cell? ⟨w.heap.size + 1 + 1, 9, none⟩ = some (.int .i64 0) := HT.out.ko.cell 9
  have o10 : w3.cell? ⟨w.heap.size + 1 + 1, 10, none⟩ = some (.int .i64 0) := HT.out.ko.cell 10
  have o11 : w3.cell? ⟨w.heap.size + 1 + 1, 11, none⟩ = some (.int .i64 0) := HT.out.ko.cell 11
  rw [HKK.out] at c0 o0
  go_wp2_with fail
  refine bodyPost_ret (v := .agg (twelve { r0 with kind := 3, g := r.g } (.slice A r.g.stamp.length c) (.slice none 0 0))) (by simp [results, Try.results47, go_sem, z0, z1, z2, z3, z4, z5, z6, z7, z8, z9, z10, z11, twelve, BM.r0, BM.g0]) rfl ?_
  exact HT.out.done (q := { r0 with kind := 3, g := r.g }) (v' := (.slice A r.g.stamp.length c)) (u' := (.slice none 0 0)) HR.out (fun w' hb => ⟨HR.out.g.below hb, HdI.nil, by unfold In64; simp, in0, in0, in0, in0⟩) HU.out (((((((((((((((((((Mod.refl [w.heap.size + 1, w.heap.size + 1 + 1] w3).store (p := ⟨w.heap.size + 1 + 1, 1, none⟩) (.inl (by simp)) (.int .i64 r.g.id)).store (p := ⟨w.heap.size + 1 + 1, 2, none⟩) (.inl (by simp)) (.int .i64 r.g.holder)).store (p := ⟨w.heap.size + 1 + 1, 3, none⟩) (.inl (by simp)) (.string r.g.path)).store (p := ⟨w.heap.size + 1 + 1, 4, none⟩) (.inl (by simp)) (.int .i64 r.g.mode)).store (p := ⟨w.heap.size + 1 + 1, 5, none⟩) (.inl (by simp)) (.slice A r.g.stamp.length c)).store (p := ⟨w.heap.size + 1 + 1, 6, none⟩) (.inl (by simp)) (.int .i64 r.g.term)).store (p := ⟨w.heap.size + 1, 0, none⟩) (.inl (by simp)) (.int .i64 3)).store (p := ⟨w.heap.size + 1, 1, none⟩) (.inl (by simp)) (.int .i64 r.g.id)).store (p := ⟨w.heap.size + 1, 2, none⟩) (.inl (by simp)) (.int .i64 r.g.holder)).store (p := ⟨w.heap.size + 1, 3, none⟩) (.inl (by simp)) (.string r.g.path)).store (p := ⟨w.heap.size + 1, 4, none⟩) (.inl (by simp)) (.int .i64 r.g.mode)).store (p := ⟨w.heap.size + 1, 5, none⟩) (.inl (by simp)) (.slice A r.g.stamp.length c)).store (p := ⟨w.heap.size + 1, 6, none⟩) (.inl (by simp)) (.int .i64 r.g.term)).store (p := ⟨w.heap.size + 1, 7, none⟩) (.inl (by simp)) (.int .i64 0)).store (p := ⟨w.heap.size + 1, 8, none⟩) (.inl (by simp)) (.slice none 0 0)).store (p := ⟨w.heap.size + 1, 9, none⟩) (.inl (by simp)) (.int .i64 0)).store (p := ⟨w.heap.size + 1, 10, none⟩) (.inl (by simp)) (.int .i64 0)).store (p := ⟨w.heap.size + 1, 11, none⟩) (.inl (by simp)) (.int .i64 0))
set_option maxHeartbeats 8000000 in
theorem us_4 {A B : Option Addr} {c d : Nat} (r : Rc) (w : World) (h : FitR w (.slice A r.g.stamp.length c) (.slice B r.stamp.length d) r) (hk : r.kind = 4) :
    Calls Try.prog 47 #[.agg (twelve r (.slice A r.g.stamp.length c) (.slice B r.stamp.length d))] w (UsedPost w r) := by
  have HT := Lib.hid (UsSt.start w r (.slice A r.g.stamp.length c) (.slice B r.stamp.length d))
  have HR := Lib.hid h
  clear h
  have HU := Lib.hid (show BM.used r = { r0 with kind := 4, g := r.g } by unfold BM.used; simp [hk])
  have hs := HT.out.kr
  have HKK := Lib.hid hk
  clear hk
  have c0w : ((w.alloc (.cells (twelve r (.slice A r.g.stamp.length c) (.slice B r.stamp.length d)) 28)).alloc (.cells z12 28)).cell? ⟨w.heap.size, 0, none⟩ = some (.int .i64 r.kind) := ((Whole.new w _ _).alloc _).cell 0
  clear hs
  unfold z12 at c0w
  go_enter Try.func47, Try.ntmps47
  go_upto_region 2 with (fail)
  clear c0w
  unfold z12 k12 at HT
  generalize (((w.alloc (.cells (twelve r (.slice A r.g.stamp.length c) (.slice B r.stamp.length d)) 28)).alloc (.cells #[.int .i64 0, .int .i64 0, .int .i64 0, .string ⟨#[]⟩, .int .i64 0, .slice none 0 0, .int .i64 0, .int .i64 0, .slice none 0 0, .int .i64 0, .int .i64 0, .int .i64 0] 28)).alloc (.cells #[.int .i64 r.kind, .int .i64 0, .int .i64 0, .string ⟨#[]⟩, .int .i64 0, .slice none 0 0, .int .i64 0, .int .i64 0, .slice none 0 0, .int .i64 0, .int .i64 0, .int .i64 0] 28)) = w3 at HT ⊢
  obtain ⟨c0, c1, c2', c3, c4, c5, c6, c7, c8, c9, c10, c11⟩ := rec_cells HT.out.kr
  obtain ⟨z0, z1, z2, z3, z4, z5, z6, z7, z8, z9, z10, z11⟩ := zero12 HT.out.kz
  obtain ⟨y0, y1, y2, y3, y4, y5, y6, y7, y8, y9, y10, y11⟩ := frozen12 HT.out.kz
  obtain ⟨f0, f1, f2, f3, f4, f5, f6, f7, f8, f9, f10, f11⟩ := frozen12 HT.out.ko
  have o0 : w3.cell? ⟨w.heap.size + 1 + 1, 0, none⟩ = some (.int .i64 r.kind) := HT.out.ko.cell 0
  have o1 : w3.cell? ⟨w.heap.size + 1 + 1, 1, none⟩ = some (.int .i64 0) := HT.out.ko.cell 1
  have o2 : w3.cell? ⟨w.heap.size + 1 + 1, 2, none⟩ = some (.int .i64 0) := HT.out.ko.cell 2
  have o3 : w3.cell? ⟨w.heap.size + 1 + 1, 3, none⟩ = some (.string ⟨#[]⟩) := HT.out.ko.cell 3
  have o4 : w3.cell? ⟨w.heap.size + 1 + 1, 4, none⟩ = some (.int .i64 0) := HT.out.ko.cell 4
  have o5 : w3.cell? ⟨w.heap.size + 1 + 1, 5, none⟩ = some (.slice none 0 0) := HT.out.ko.cell 5
  have o6 : w3.cell? ⟨w.heap.size + 1 + 1, 6, none⟩ = some (.int .i64 0) := HT.out.ko.cell 6
  have o7 : w3.cell? ⟨w.heap.size + 1 + 1, 7, none⟩ = some (.int .i64 0) := HT.out.ko.cell 7
  have o8 : w3.cell? ⟨w.heap.size + 1 + 1, 8, none⟩ = some (.slice none 0 0) := HT.out.ko.cell 8
  have o9 : w3.cell? ⟨w.heap.size + 1 + 1, 9, none⟩ = some (.int .i64 0) := HT.out.ko.cell 9
  have o10 : w3.cell? ⟨w.heap.size + 1 + 1, 10, none⟩ = some (.int .i64 0) := HT.out.ko.cell 10
  have o11 : w3.cell? ⟨w.heap.size + 1 + 1, 11, none⟩ = some (.int .i64 0) := HT.out.ko.cell 11
  rw [HKK.out] at c0 o0
  go_wp2_with fail
  refine bodyPost_ret (v := .agg (twelve { r0 with kind := 4, g := r.g } (.slice A r.g.stamp.length c) (.slice none 0 0))) (by simp [results, Try.results47, go_sem, z0, z1, z2, z3, z4, z5, z6, z7, z8, z9, z10, z11, twelve, BM.r0, BM.g0]) rfl ?_
  exact HT.out.done (q := { r0 with kind := 4, g := r.g }) (v' := (.slice A r.g.stamp.length c)) (u' := (.slice none 0 0)) HR.out (fun w' hb => ⟨HR.out.g.below hb, HdI.nil, by unfold In64; simp, in0, in0, in0, in0⟩) HU.out (((((((((((((((((((Mod.refl [w.heap.size + 1, w.heap.size + 1 + 1] w3).store (p := ⟨w.heap.size + 1 + 1, 1, none⟩) (.inl (by simp)) (.int .i64 r.g.id)).store (p := ⟨w.heap.size + 1 + 1, 2, none⟩) (.inl (by simp)) (.int .i64 r.g.holder)).store (p := ⟨w.heap.size + 1 + 1, 3, none⟩) (.inl (by simp)) (.string r.g.path)).store (p := ⟨w.heap.size + 1 + 1, 4, none⟩) (.inl (by simp)) (.int .i64 r.g.mode)).store (p := ⟨w.heap.size + 1 + 1, 5, none⟩) (.inl (by simp)) (.slice A r.g.stamp.length c)).store (p := ⟨w.heap.size + 1 + 1, 6, none⟩) (.inl (by simp)) (.int .i64 r.g.term)).store (p := ⟨w.heap.size + 1, 0, none⟩) (.inl (by simp)) (.int .i64 4)).store (p := ⟨w.heap.size + 1, 1, none⟩) (.inl (by simp)) (.int .i64 r.g.id)).store (p := ⟨w.heap.size + 1, 2, none⟩) (.inl (by simp)) (.int .i64 r.g.holder)).store (p := ⟨w.heap.size + 1, 3, none⟩) (.inl (by simp)) (.string r.g.path)).store (p := ⟨w.heap.size + 1, 4, none⟩) (.inl (by simp)) (.int .i64 r.g.mode)).store (p := ⟨w.heap.size + 1, 5, none⟩) (.inl (by simp)) (.slice A r.g.stamp.length c)).store (p := ⟨w.heap.size + 1, 6, none⟩) (.inl (by simp)) (.int .i64 r.g.term)).store (p := ⟨w.heap.size + 1, 7, none⟩) (.inl (by simp)) (.int .i64 0)).store (p := ⟨w.heap.size + 1, 8, none⟩) (.inl (by simp)) (.slice none 0 0)).store (p := ⟨w.heap.size + 1, 9, none⟩) (.inl (by simp)) (.int .i64 0)).store (p := ⟨w.heap.size + 1, 10, none⟩) (.inl (by simp)) (.int .i64 0)).store (p := ⟨w.heap.size + 1, 11, none⟩) (.inl (by simp)) (.int .i64 0))
set_option maxHeartbeats 8000000 in
theorem us_5 {A B : Option Addr} {c d : Nat} (r : Rc) (w : World) (h : FitR w (.slice A r.g.stamp.length c) (.slice B r.stamp.length d) r) (hk : r.kind = 5) :
    Calls Try.prog 47 #[.agg (twelve r (.slice A r.g.stamp.length c) (.slice B r.stamp.length d))] w (UsedPost w r) := by
  have HT := Lib.hid (UsSt.start w r (.slice A r.g.stamp.length c) (.slice B r.stamp.length d))
  have HR := Lib.hid h
  clear h
  have HU := Lib.hid (show BM.used r = { r0 with kind := 5, id := r.id, stamp := r.stamp } by unfold BM.used; simp [hk])
  have hs := HT.out.kr
  have HKK := Lib.hid hk
  clear hk
  have c0w : ((w.alloc (.cells (twelve r (.slice A r.g.stamp.length c) (.slice B r.stamp.length d)) 28)).alloc (.cells z12 28)).cell? ⟨w.heap.size, 0, none⟩ = some (.int .i64 r.kind) := ((Whole.new w _ _).alloc _).cell 0
  clear hs
  unfold z12 at c0w
  go_enter Try.func47, Try.ntmps47
  go_upto_region 2 with (fail)
  clear c0w
  unfold z12 k12 at HT
  generalize (((w.alloc (.cells (twelve r (.slice A r.g.stamp.length c) (.slice B r.stamp.length d)) 28)).alloc (.cells #[.int .i64 0, .int .i64 0, .int .i64 0, .string ⟨#[]⟩, .int .i64 0, .slice none 0 0, .int .i64 0, .int .i64 0, .slice none 0 0, .int .i64 0, .int .i64 0, .int .i64 0] 28)).alloc (.cells #[.int .i64 r.kind, .int .i64 0, .int .i64 0, .string ⟨#[]⟩, .int .i64 0, .slice none 0 0, .int .i64 0, .int .i64 0, .slice none 0 0, .int .i64 0, .int .i64 0, .int .i64 0] 28)) = w3 at HT ⊢
  obtain ⟨c0, c1, c2', c3, c4, c5, c6, c7, c8, c9, c10, c11⟩ := rec_cells HT.out.kr
  obtain ⟨z0, z1, z2, z3, z4, z5, z6, z7, z8, z9, z10, z11⟩ := zero12 HT.out.kz
  obtain ⟨y0, y1, y2, y3, y4, y5, y6, y7, y8, y9, y10, y11⟩ := frozen12 HT.out.kz
  obtain ⟨f0, f1, f2, f3, f4, f5, f6, f7, f8, f9, f10, f11⟩ := frozen12 HT.out.ko
  have o0 : w3.cell? ⟨w.heap.size + 1 + 1, 0, none⟩ = some (.int .i64 r.kind) := HT.out.ko.cell 0
  have o1 : w3.cell? ⟨w.heap.size + 1 + 1, 1, none⟩ = some (.int .i64 0) := HT.out.ko.cell 1
  have o2 : w3.cell? ⟨w.heap.size + 1 + 1, 2, none⟩ = some (.int .i64 0) := HT.out.ko.cell 2
  have o3 : w3.cell? ⟨w.heap.size + 1 + 1, 3, none⟩ = some (.string ⟨#[]⟩) := HT.out.ko.cell 3
  have o4 : w3.cell? ⟨w.heap.size + 1 + 1, 4, none⟩ = some (.int .i64 0) := HT.out.ko.cell 4
  have o5 : w3.cell? ⟨w.heap.size + 1 + 1, 5, none⟩ = some (.slice none 0 0) := HT.out.ko.cell 5
  have o6 : w3.cell? ⟨w.heap.size + 1 + 1, 6, none⟩ = some (.int .i64 0) := HT.out.ko.cell 6
  have o7 : w3.cell? ⟨w.heap.size + 1 + 1, 7, none⟩ = some (.int .i64 0) := HT.out.ko.cell 7
  have o8 : w3.cell? ⟨w.heap.size + 1 + 1, 8, none⟩ = some (.slice none 0 0) := HT.out.ko.cell 8
  have o9 : w3.cell? ⟨w.heap.size + 1 + 1, 9, none⟩ = some (.int .i64 0) := HT.out.ko.cell 9
  have o10 : w3.cell? ⟨w.heap.size + 1 + 1, 10, none⟩ = some (.int .i64 0) := HT.out.ko.cell 10
  have o11 : w3.cell? ⟨w.heap.size + 1 + 1, 11, none⟩ = some (.int .i64 0) := HT.out.ko.cell 11
  rw [HKK.out] at c0 o0
  go_wp2_with fail
  refine bodyPost_ret (v := .agg (twelve { r0 with kind := 5, id := r.id, stamp := r.stamp } (.slice none 0 0) (.slice B r.stamp.length d))) (by simp [results, Try.results47, go_sem, z0, z1, z2, z3, z4, z5, z6, z7, z8, z9, z10, z11, twelve, BM.r0, BM.g0]) rfl ?_
  exact HT.out.done (q := { r0 with kind := 5, id := r.id, stamp := r.stamp }) (v' := (.slice none 0 0)) (u' := (.slice B r.stamp.length d)) HR.out (fun w' hb => ⟨⟨HdI.nil, gw0⟩, HR.out.st.below hb, by unfold In64; simp, HR.out.id, in0, in0, in0⟩) HU.out (((((((((((((((Mod.refl [w.heap.size + 1, w.heap.size + 1 + 1] w3).store (p := ⟨w.heap.size + 1 + 1, 7, none⟩) (.inl (by simp)) (.int .i64 r.id)).store (p := ⟨w.heap.size + 1 + 1, 8, none⟩) (.inl (by simp)) (.slice B r.stamp.length d)).store (p := ⟨w.heap.size + 1, 0, none⟩) (.inl (by simp)) (.int .i64 5)).store (p := ⟨w.heap.size + 1, 1, none⟩) (.inl (by simp)) (.int .i64 0)).store (p := ⟨w.heap.size + 1, 2, none⟩) (.inl (by simp)) (.int .i64 0)).store (p := ⟨w.heap.size + 1, 3, none⟩) (.inl (by simp)) (.string ⟨#[]⟩)).store (p := ⟨w.heap.size + 1, 4, none⟩) (.inl (by simp)) (.int .i64 0)).store (p := ⟨w.heap.size + 1, 5, none⟩) (.inl (by simp)) (.slice none 0 0)).store (p := ⟨w.heap.size + 1, 6, none⟩) (.inl (by simp)) (.int .i64 0)).store (p := ⟨w.heap.size + 1, 7, none⟩) (.inl (by simp)) (.int .i64 r.id)).store (p := ⟨w.heap.size + 1, 8, none⟩) (.inl (by simp)) (.slice B r.stamp.length d)).store (p := ⟨w.heap.size + 1, 9, none⟩) (.inl (by simp)) (.int .i64 0)).store (p := ⟨w.heap.size + 1, 10, none⟩) (.inl (by simp)) (.int .i64 0)).store (p := ⟨w.heap.size + 1, 11, none⟩) (.inl (by simp)) (.int .i64 0))
set_option maxHeartbeats 8000000 in
theorem us_6 {A B : Option Addr} {c d : Nat} (r : Rc) (w : World) (h : FitR w (.slice A r.g.stamp.length c) (.slice B r.stamp.length d) r) (hk : r.kind = 6) :
    Calls Try.prog 47 #[.agg (twelve r (.slice A r.g.stamp.length c) (.slice B r.stamp.length d))] w (UsedPost w r) := by
  have HT := Lib.hid (UsSt.start w r (.slice A r.g.stamp.length c) (.slice B r.stamp.length d))
  have HR := Lib.hid h
  clear h
  have HU := Lib.hid (show BM.used r = { r0 with kind := 6, id := r.id } by unfold BM.used; simp [hk])
  have hs := HT.out.kr
  have HKK := Lib.hid hk
  clear hk
  have c0w : ((w.alloc (.cells (twelve r (.slice A r.g.stamp.length c) (.slice B r.stamp.length d)) 28)).alloc (.cells z12 28)).cell? ⟨w.heap.size, 0, none⟩ = some (.int .i64 r.kind) := ((Whole.new w _ _).alloc _).cell 0
  clear hs
  unfold z12 at c0w
  go_enter Try.func47, Try.ntmps47
  go_upto_region 2 with (fail)
  clear c0w
  unfold z12 k12 at HT
  generalize (((w.alloc (.cells (twelve r (.slice A r.g.stamp.length c) (.slice B r.stamp.length d)) 28)).alloc (.cells #[.int .i64 0, .int .i64 0, .int .i64 0, .string ⟨#[]⟩, .int .i64 0, .slice none 0 0, .int .i64 0, .int .i64 0, .slice none 0 0, .int .i64 0, .int .i64 0, .int .i64 0] 28)).alloc (.cells #[.int .i64 r.kind, .int .i64 0, .int .i64 0, .string ⟨#[]⟩, .int .i64 0, .slice none 0 0, .int .i64 0, .int .i64 0, .slice none 0 0, .int .i64 0, .int .i64 0, .int .i64 0] 28)) = w3 at HT ⊢
  obtain ⟨c0, c1, c2', c3, c4, c5, c6, c7, c8, c9, c10, c11⟩ := rec_cells HT.out.kr
  obtain ⟨z0, z1, z2, z3, z4, z5, z6, z7, z8, z9, z10, z11⟩ := zero12 HT.out.kz
  obtain ⟨y0, y1, y2, y3, y4, y5, y6, y7, y8, y9, y10, y11⟩ := frozen12 HT.out.kz
  obtain ⟨f0, f1, f2, f3, f4, f5, f6, f7, f8, f9, f10, f11⟩ := frozen12 HT.out.ko
  have o0 : w3.cell? ⟨w.heap.size + 1 + 1, 0, none⟩ = some (.int .i64 r.kind) := HT.out.ko.cell 0
  have o1 : w3.cell? ⟨w.heap.size + 1 + 1, 1, none⟩ = some (.int .i64 0) := HT.out.ko.cell 1
  have o2 : w3.cell? ⟨w.heap.size + 1 + 1, 2, none⟩ = some (.int .i64 0) := HT.out.ko.cell 2
  have o3 : w3.cell? ⟨w.heap.size + 1 + 1, 3, none⟩ = some (.string ⟨#[]⟩) := HT.out.ko.cell 3
  have o4 : w3.cell? ⟨w.heap.size + 1 + 1, 4, none⟩ = some (.int .i64 0) := HT.out.ko.cell 4
  have o5 : w3.cell? ⟨w.heap.size + 1 + 1, 5, none⟩ = some (.slice none 0 0) := HT.out.ko.cell 5
  have o6 : w3.cell? ⟨w.heap.size + 1 + 1, 6, none⟩ = some (.int .i64 0) := HT.out.ko.cell 6
  have o7 : w3.cell? ⟨w.heap.size + 1 + 1, 7, none⟩ = some (.int .i64 0) := HT.out.ko.cell 7
  have o8 : w3.cell? ⟨w.heap.size + 1 + 1, 8, none⟩ = some (.slice none 0 0) := HT.out.ko.cell 8
  have o9 : w3.cell? ⟨w.heap.size + 1 + 1, 9, none⟩ = some (.int .i64 0) := HT.out.ko.cell 9
  have o10 : w3.cell? ⟨w.heap.size + 1 + 1, 10, none⟩ = some (.int .i64 0) := HT.out.ko.cell 10
  have o11 : w3.cell? ⟨w.heap.size + 1 + 1, 11, none⟩ = some (.int .i64 0) := HT.out.ko.cell 11
  rw [HKK.out] at c0 o0
  go_wp2_with fail
  refine bodyPost_ret (v := .agg (twelve { r0 with kind := 6, id := r.id } (.slice none 0 0) (.slice none 0 0))) (by simp [results, Try.results47, go_sem, z0, z1, z2, z3, z4, z5, z6, z7, z8, z9, z10, z11, twelve, BM.r0, BM.g0]) rfl ?_
  exact HT.out.done (q := { r0 with kind := 6, id := r.id }) (v' := (.slice none 0 0)) (u' := (.slice none 0 0)) HR.out (fun w' hb => ⟨⟨HdI.nil, gw0⟩, HdI.nil, by unfold In64; simp, HR.out.id, in0, in0, in0⟩) HU.out ((((((((((((((Mod.refl [w.heap.size + 1, w.heap.size + 1 + 1] w3).store (p := ⟨w.heap.size + 1 + 1, 7, none⟩) (.inl (by simp)) (.int .i64 r.id)).store (p := ⟨w.heap.size + 1, 0, none⟩) (.inl (by simp)) (.int .i64 6)).store (p := ⟨w.heap.size + 1, 1, none⟩) (.inl (by simp)) (.int .i64 0)).store (p := ⟨w.heap.size + 1, 2, none⟩) (.inl (by simp)) (.int .i64 0)).store (p := ⟨w.heap.size + 1, 3, none⟩) (.inl (by simp)) (.string ⟨#[]⟩)).store (p := ⟨w.heap.size + 1, 4, none⟩) (.inl (by simp)) (.int .i64 0)).store (p := ⟨w.heap.size + 1, 5, none⟩) (.inl (by simp)) (.slice none 0 0)).store (p := ⟨w.heap.size + 1, 6, none⟩) (.inl (by simp)) (.int .i64 0)).store (p := ⟨w.heap.size + 1, 7, none⟩) (.inl (by simp)) (.int .i64 r.id)).store (p := ⟨w.heap.size + 1, 8, none⟩) (.inl (by simp)) (.slice none 0 0)).store (p := ⟨w.heap.size + 1, 9, none⟩) (.inl (by simp)) (.int .i64 0)).store (p := ⟨w.heap.size + 1, 10, none⟩) (.inl (by simp)) (.int .i64 0)).store (p := ⟨w.heap.size + 1, 11, none⟩) (.inl (by simp)) (.int .i64 0))
set_option maxHeartbeats 8000000 in
theorem us_0 {A B : Option Addr} {c d : Nat} (r : Rc) (w : World) (h : FitR w (.slice A r.g.stamp.length c) (.slice B r.stamp.length d) r) (hk : r.kind ≠ 1 ∧ r.kind ≠ 2 ∧ r.kind ≠ 3 ∧ r.kind ≠ 4 ∧ r.kind ≠ 5 ∧ r.kind ≠ 6) :
    Calls Try.prog 47 #[.agg (twelve r (.slice A r.g.stamp.length c) (.slice B r.stamp.length d))] w (UsedPost w r) := by
  have HT := Lib.hid (UsSt.start w r (.slice A r.g.stamp.length c) (.slice B r.stamp.length d))
  have HR := Lib.hid h
  clear h
  have HU := Lib.hid (show BM.used r = { r0 with kind := r.kind } by unfold BM.used; simp [hk])
  have hs := HT.out.kr
  obtain ⟨h1, h2, h3, h4, h5, h6⟩ := hk
  have k1 : (r.kind == 1) = false := by simpa using h1
  have k2 : (r.kind == 2) = false := by simpa using h2
  have k3 : (r.kind == 3) = false := by simpa using h3
  have k4 : (r.kind == 4) = false := by simpa using h4
  have k5 : (r.kind == 5) = false := by simpa using h5
  have k6 : (r.kind == 6) = false := by simpa using h6
  clear h1 h2 h3 h4 h5 h6
  have c0w : ((w.alloc (.cells (twelve r (.slice A r.g.stamp.length c) (.slice B r.stamp.length d)) 28)).alloc (.cells z12 28)).cell? ⟨w.heap.size, 0, none⟩ = some (.int .i64 r.kind) := ((Whole.new w _ _).alloc _).cell 0
  clear hs
  unfold z12 at c0w
  go_enter Try.func47, Try.ntmps47
  go_upto_region 2 with (fail)
  clear c0w
  unfold z12 k12 at HT
  generalize (((w.alloc (.cells (twelve r (.slice A r.g.stamp.length c) (.slice B r.stamp.length d)) 28)).alloc (.cells #[.int .i64 0, .int .i64 0, .int .i64 0, .string ⟨#[]⟩, .int .i64 0, .slice none 0 0, .int .i64 0, .int .i64 0, .slice none 0 0, .int .i64 0, .int .i64 0, .int .i64 0] 28)).alloc (.cells #[.int .i64 r.kind, .int .i64 0, .int .i64 0, .string ⟨#[]⟩, .int .i64 0, .slice none 0 0, .int .i64 0, .int .i64 0, .slice none 0 0, .int .i64 0, .int .i64 0, .int .i64 0] 28)) = w3 at HT ⊢
  obtain ⟨c0, c1, c2', c3, c4, c5, c6, c7, c8, c9, c10, c11⟩ := rec_cells HT.out.kr
  obtain ⟨z0, z1, z2, z3, z4, z5, z6, z7, z8, z9, z10, z11⟩ := zero12 HT.out.kz
  obtain ⟨y0, y1, y2, y3, y4, y5, y6, y7, y8, y9, y10, y11⟩ := frozen12 HT.out.kz
  obtain ⟨f0, f1, f2, f3, f4, f5, f6, f7, f8, f9, f10, f11⟩ := frozen12 HT.out.ko
  have o0 : w3.cell? ⟨w.heap.size + 1 + 1, 0, none⟩ = some (.int .i64 r.kind) := HT.out.ko.cell 0
  have o1 : w3.cell? ⟨w.heap.size + 1 + 1, 1, none⟩ = some (.int .i64 0) := HT.out.ko.cell 1
  have o2 : w3.cell? ⟨w.heap.size + 1 + 1, 2, none⟩ = some (.int .i64 0) := HT.out.ko.cell 2
  have o3 : w3.cell? ⟨w.heap.size + 1 + 1, 3, none⟩ = some (.string ⟨#[]⟩) := HT.out.ko.cell 3
  have o4 : w3.cell? ⟨w.heap.size + 1 + 1, 4, none⟩ = some (.int .i64 0) := HT.out.ko.cell 4
  have o5 : w3.cell? ⟨w.heap.size + 1 + 1, 5, none⟩ = some (.slice none 0 0) := HT.out.ko.cell 5
  have o6 : w3.cell? ⟨w.heap.size + 1 + 1, 6, none⟩ = some (.int .i64 0) := HT.out.ko.cell 6
  have o7 : w3.cell? ⟨w.heap.size + 1 + 1, 7, none⟩ = some (.int .i64 0) := HT.out.ko.cell 7
  have o8 : w3.cell? ⟨w.heap.size + 1 + 1, 8, none⟩ = some (.slice none 0 0) := HT.out.ko.cell 8
  have o9 : w3.cell? ⟨w.heap.size + 1 + 1, 9, none⟩ = some (.int .i64 0) := HT.out.ko.cell 9
  have o10 : w3.cell? ⟨w.heap.size + 1 + 1, 10, none⟩ = some (.int .i64 0) := HT.out.ko.cell 10
  have o11 : w3.cell? ⟨w.heap.size + 1 + 1, 11, none⟩ = some (.int .i64 0) := HT.out.ko.cell 11
  go_wp2_with fail
  refine bodyPost_ret (v := .agg (twelve { r0 with kind := r.kind } (.slice none 0 0) (.slice none 0 0))) (by simp [results, Try.results47, go_sem, z0, z1, z2, z3, z4, z5, z6, z7, z8, z9, z10, z11, twelve, BM.r0, BM.g0]) rfl ?_
  exact HT.out.done (q := { r0 with kind := r.kind }) (v' := (.slice none 0 0)) (u' := (.slice none 0 0)) HR.out (fun w' hb => ⟨⟨HdI.nil, gw0⟩, HdI.nil, HR.out.kind, in0, in0, in0, in0⟩) HU.out (((((((((((((Mod.refl [w.heap.size + 1, w.heap.size + 1 + 1] w3).store (p := ⟨w.heap.size + 1, 0, none⟩) (.inl (by simp)) (.int .i64 r.kind)).store (p := ⟨w.heap.size + 1, 1, none⟩) (.inl (by simp)) (.int .i64 0)).store (p := ⟨w.heap.size + 1, 2, none⟩) (.inl (by simp)) (.int .i64 0)).store (p := ⟨w.heap.size + 1, 3, none⟩) (.inl (by simp)) (.string ⟨#[]⟩)).store (p := ⟨w.heap.size + 1, 4, none⟩) (.inl (by simp)) (.int .i64 0)).store (p := ⟨w.heap.size + 1, 5, none⟩) (.inl (by simp)) (.slice none 0 0)).store (p := ⟨w.heap.size + 1, 6, none⟩) (.inl (by simp)) (.int .i64 0)).store (p := ⟨w.heap.size + 1, 7, none⟩) (.inl (by simp)) (.int .i64 0)).store (p := ⟨w.heap.size + 1, 8, none⟩) (.inl (by simp)) (.slice none 0 0)).store (p := ⟨w.heap.size + 1, 9, none⟩) (.inl (by simp)) (.int .i64 0)).store (p := ⟨w.heap.size + 1, 10, none⟩) (.inl (by simp)) (.int .i64 0)).store (p := ⟨w.heap.size + 1, 11, none⟩) (.inl (by simp)) (.int .i64 0))
theorem r_used (v u : Value) (r : Rc) (w : World) (h : FitR w v u r) : Calls Try.prog 47 #[.agg (twelve r v u)] w (UsedPost w r) := by
  obtain ⟨A, c, hv, _⟩ := h.g.hd
  obtain ⟨B, d, hu, _⟩ := h.st
  subst hv hu
  by_cases h1 : r.kind = 1
  · exact us_1 r w h h1
  by_cases h2 : r.kind = 2
  · exact us_2 r w h h2
  by_cases h3 : r.kind = 3
  · exact us_3 r w h h3
  by_cases h4 : r.kind = 4
  · exact us_4 r w h h4
  by_cases h5 : r.kind = 5
  · exact us_5 r w h h5
  by_cases h6 : r.kind = 6
  · exact us_6 r w h h6
  exact us_0 r w h ⟨h1, h2, h3, h4, h5, h6⟩
end Go.Proofs.Ytboflkadabagfab
namespace Go.Proofs.Ytboflkadabagfab
open Go.RowKit
open BM (Gr Rc Bk g0 r0 b0)
set_option linter.unusedVariables false
set_option linter.unusedSimpArgs false
set_option maxRecDepth 100000
set_option maxHeartbeats 8000000 in
theorem r_Rec (v u : Value) (r : Rc) (w : World) (h : FitR w v u r) : Calls Try.prog 20 #[.agg (twelve r v u)] w fun e w' => e = .returned (.bool (BM.okRc r)) ∧ Below w.heap.size w w' := by
  obtain ⟨A, c, hv, _⟩ := h.g.hd
  obtain ⟨B, d, hu, _⟩ := h.st
  subst hv hu
  have HX := Lib.hid ((Below.refl _ w).alloc (Nat.le_refl _) (.cells (twelve r (.slice A r.g.stamp.length c) (.slice B r.stamp.length d)) 28))
  have HR := Lib.hid (h.below HX.out)
  have HK := Lib.hid (Whole.new w 28 (twelve r (.slice A r.g.stamp.length c) (.slice B r.stamp.length d)))
  clear h
  go_enter Try.func20, Try.ntmps20
  go_upto_region 1 with (fail)
  generalize w.alloc (.cells (twelve r (.slice A r.g.stamp.length c) (.slice B r.stamp.length d)) 28) = w0 at HX HR HK ⊢
  go_cut [7] (fun s wx => s = .bool (!decide (BM.used r = r)) ∧ Hid (Below w0.heap.size w0 wx))
  case first =>
    have hKeep : ∀ (us : Nat → Value) (wa wb : World), Below wa.heap.size wa wb → ∀ j, known [fun us y => us 0 = .agg (twelve r (.slice A r.g.stamp.length c) (.slice B r.stamp.length d)), fun us y => ∃ v1 u1, us 1 = .agg (twelve (BM.used r) v1 u1) ∧ FitR y v1 u1 (BM.used r), fun us y => us 2 = .agg (twelve r (.slice A r.g.stamp.length c) (.slice B r.stamp.length d)), fun us y => us 3 = .bool (decide (BM.used r = r)), fun us y => us 4 = .bool (!decide (BM.used r = r))] j us wa → known [fun us y => us 0 = .agg (twelve r (.slice A r.g.stamp.length c) (.slice B r.stamp.length d)), fun us y => ∃ v1 u1, us 1 = .agg (twelve (BM.used r) v1 u1) ∧ FitR y v1 u1 (BM.used r), fun us y => us 2 = .agg (twelve r (.slice A r.g.stamp.length c) (.slice B r.stamp.length d)), fun us y => us 3 = .bool (decide (BM.used r = r)), fun us y => us 4 = .bool (!decide (BM.used r = r))] j us wb := by
      intro us wa wb hb j h
      match j, h with
      | 0, h => exact h
      | 1, h => (obtain ⟨v1, u1, e1, hF1⟩ : ∃ v1 u1, us 1 = .agg (twelve (BM.used r) v1 u1) ∧ FitR wa v1 u1 (BM.used r) := h; exact (show ∃ v1 u1, us 1 = .agg (twelve (BM.used r) v1 u1) ∧ FitR wb v1 u1 (BM.used r) from ⟨v1, u1, e1, hF1.below hb⟩))
      | 2, h => exact h
      | 3, h => exact h
      | 4, h => exact h
      | q + 5, h => exact trivial
    have HKEEP := Lib.hid hKeep
    clear hKeep
    refine region_each (known [fun us y => us 0 = .agg (twelve r (.slice A r.g.stamp.length c) (.slice B r.stamp.length d)), fun us y => ∃ v1 u1, us 1 = .agg (twelve (BM.used r) v1 u1) ∧ FitR y v1 u1 (BM.used r), fun us y => us 2 = .agg (twelve r (.slice A r.g.stamp.length c) (.slice B r.stamp.length d)), fun us y => us 3 = .bool (decide (BM.used r = r)), fun us y => us 4 = .bool (!decide (BM.used r = r))]) (fun y => Below w0.heap.size w0 y) (fun y => True) [] [[], [0], [], [0, 1, 2], [0, 1, 2, 3]] (by
      intro j us us' y h hF
      match j, h, hF with
      | 0, h, hF => (have hF : us 0 = .agg (twelve r (.slice A r.g.stamp.length c) (.slice B r.stamp.length d)) := hF; rw [h 0 (.inl rfl)] at hF; exact hF)
      | 1, h, hF => (have hF : ∃ v1 u1, us 1 = .agg (twelve (BM.used r) v1 u1) ∧ FitR y v1 u1 (BM.used r) := hF; rw [h 1 (.inl rfl)] at hF; exact hF)
      | 2, h, hF => (have hF : us 2 = .agg (twelve r (.slice A r.g.stamp.length c) (.slice B r.stamp.length d)) := hF; rw [h 2 (.inl rfl)] at hF; exact hF)
      | 3, h, hF => (have hF : us 3 = .bool (decide (BM.used r = r)) := hF; rw [h 3 (.inl rfl)] at hF; exact hF)
      | 4, h, hF => (have hF : us 4 = .bool (!decide (BM.used r = r)) := hF; rw [h 4 (.inl rfl)] at hF; exact hF)
      | q + 5, h, hF => exact trivial) (by kernel_rfl) rfl (by kernel_rfl) (by exact (Below.refl _ _).drew) (trivial) (Z := fun vs => Act.put (Act.put (Act.put (Act.put (Act.put (_) (some 3) (vs 0)) (some 4) (vs 1)) (some 5) (vs 2)) (some 6) (vs 3)) (some 7) (vs 4)) (fun _ => rfl) ?_ ?_
    · skip
      refine EachAll.snoc (i := 4) (o := { dst := some 7, op := Op.unOp UnOp.not 4 (Operand.tmp 6), type := 4, pos := _, after := #[{ on := 3, ground := Ground.data }], guard := none }) (l := [0, 1, 2, 3]) (A := fun vs => Act.put (Act.put (Act.put (Act.put (_) (some 6) (vs 3)) (some 5) (vs 2)) (some 4) (vs 1)) (some 3) (vs 0)) ?_ rfl rfl (fun _ => rfl) ?_
      rotate_left
      · intro vs y hI hJ hA K hK
        have hB := hI
        clear hJ
        have e3 : vs 3 = .bool (decide (BM.used r = r)) := hA 3 (by decide)
        clear hA
        refine Box.mk ?_
        try simp only [e3, allPut, puts, Act.put, List.setIfInBounds_toArray, List.set_cons_zero, List.set_cons_succ] at hK ⊢
        go_simp
        exact hK.out _ _ hB (show (updv vs 4 _) 4 = .bool (!decide (BM.used r = r)) from rfl) (fun _ _ _ h => h) (fun _ h => h)
      refine EachAll.snoc (i := 3) (o := { dst := some 6, op := Op.call { callee := Callee.value (Operand.func 10), args := #[Operand.tmp 4, Operand.tmp 5], argTypes := #[28, 28] }, type := 4, pos := _, after := #[{ on := 1, ground := Ground.data }, { on := 2, ground := Ground.data }, { on := 1, ground := Ground.chain }], guard := none }) (l := [0, 1, 2]) (A := fun vs => Act.put (Act.put (Act.put (_) (some 5) (vs 2)) (some 4) (vs 1)) (some 3) (vs 0)) ?_ rfl rfl (fun _ => rfl) ?_
      rotate_left
      · intro vs y hI hJ hA K hK
        have hB := hI
        clear hJ
        have hF1 : ∃ v1 u1, vs 1 = .agg (twelve (BM.used r) v1 u1) ∧ FitR y v1 u1 (BM.used r) := hA 1 (by decide)
        obtain ⟨v1, u1, e1, hF1⟩ := hF1
        have e2 : vs 2 = .agg (twelve r (.slice A r.g.stamp.length c) (.slice B r.stamp.length d)) := hA 2 (by decide)
        clear hA
        refine Box.mk ?_
        try simp only [e1, e2, allPut, puts, Act.put, List.setIfInBounds_toArray, List.set_cons_zero, List.set_cons_succ] at hK ⊢
        clear e1 e2
        go_simp
        with_reducible refine (r_SameRec v1 u1 (.slice A r.g.stamp.length c) (.slice B r.stamp.length d) (BM.used r) r y hF1 (HR.out.below hB)).mono ?_
        rintro e w5 ⟨rfl, hb⟩
        go_simp
        exact hK.out _ _ (below_on hB hb) (show (updv vs 3 _) 3 = .bool (decide (BM.used r = r)) from rfl) (fun j _ _ h => HKEEP.out vs y w5 hb j h) (fun _ h => h)
      refine EachAll.snoc (i := 2) (o := { dst := some 5, op := Op.load 28 (Operand.tmp 1), type := 28, pos := _, after := #[], guard := none }) (l := []) (A := fun vs => _) ?_ rfl rfl (fun _ => rfl) ?_
      rotate_left
      · intro vs y hI hJ hA K hK
        have hB := hI
        clear hJ
        clear hA
        refine Box.mk ?_
        try simp only [allPut, puts, Act.put, List.setIfInBounds_toArray, List.set_cons_zero, List.set_cons_succ] at hK ⊢
        obtain ⟨x0, x1, x2, x3, x4, x5, x6, x7, x8, x9, x10, x11⟩ := rec_cells ((Mod.of_below hB []).whole HK.out (by simp))
        go_simp
        exact hK.out _ _ hB (show (updv vs 2 _) 2 = .agg (twelve r (.slice A r.g.stamp.length c) (.slice B r.stamp.length d)) from rfl) (fun _ _ _ h => h) (fun _ h => h)
      refine EachAll.snoc (i := 1) (o := { dst := some 4, op := Op.call { callee := Callee.value (Operand.func 47), args := #[Operand.tmp 3], argTypes := #[28] }, type := 28, pos := _, after := #[{ on := 0, ground := Ground.data }], guard := none }) (l := [0]) (A := fun vs => Act.put (_) (some 3) (vs 0)) ?_ rfl rfl (fun _ => rfl) ?_
      rotate_left
      · intro vs y hI hJ hA K hK
        have hB := hI
        clear hJ
        have e0 : vs 0 = .agg (twelve r (.slice A r.g.stamp.length c) (.slice B r.stamp.length d)) := hA 0 (by decide)
        clear hA
        refine Box.mk ?_
        try simp only [e0, allPut, puts, Act.put, List.setIfInBounds_toArray, List.set_cons_zero, List.set_cons_succ] at hK ⊢
        clear e0
        go_simp
        with_reducible refine (r_used (.slice A r.g.stamp.length c) (.slice B r.stamp.length d) r y (HR.out.below hB)).mono ?_
        rintro e w5 ⟨v5, u5, rfl, hf, hb⟩
        go_simp
        exact hK.out _ _ (below_on hB hb) (show ∃ v1 u1, (updv vs 1 _) 1 = .agg (twelve (BM.used r) v1 u1) ∧ FitR w5 v1 u1 (BM.used r) from ⟨v5, u5, rfl, hf⟩) (fun j _ _ h => HKEEP.out vs y w5 hb j h) (fun _ h => h)
      refine EachAll.snoc (i := 0) (o := { dst := some 3, op := Op.load 28 (Operand.tmp 1), type := 28, pos := _, after := #[], guard := none }) (l := []) (A := fun vs => _) ?_ rfl rfl (fun _ => rfl) ?_
      rotate_left
      · intro vs y hI hJ hA K hK
        have hB := hI
        clear hJ
        clear hA
        refine Box.mk ?_
        try simp only [allPut, puts, Act.put, List.setIfInBounds_toArray, List.set_cons_zero, List.set_cons_succ] at hK ⊢
        obtain ⟨x0, x1, x2, x3, x4, x5, x6, x7, x8, x9, x10, x11⟩ := rec_cells ((Mod.of_below hB []).whole HK.out (by simp))
        go_simp
        exact hK.out _ _ hB (show (updv vs 0 _) 0 = .agg (twelve r (.slice A r.g.stamp.length c) (.slice B r.stamp.length d)) from rfl) (fun _ _ _ h => h) (fun _ h => h)
      exact EachAll.nil
    · intro vs y hI hall
      have hB := hI
      have e0 : vs 0 = .agg (twelve r (.slice A r.g.stamp.length c) (.slice B r.stamp.length d)) := hall 0 (by decide)
      have hF1 : ∃ v1 u1, vs 1 = .agg (twelve (BM.used r) v1 u1) ∧ FitR y v1 u1 (BM.used r) := hall 1 (by decide)
      obtain ⟨v1, u1, e1, hF1⟩ := hF1
      have e2 : vs 2 = .agg (twelve r (.slice A r.g.stamp.length c) (.slice B r.stamp.length d)) := hall 2 (by decide)
      have e3 : vs 3 = .bool (decide (BM.used r = r)) := hall 3 (by decide)
      have e4 : vs 4 = .bool (!decide (BM.used r = r)) := hall 4 (by decide)
      clear hall HKEEP
      refine Box.mk ?_
      simp only [e0, e1, e2, e3, e4, allPut, puts, Act.put, List.setIfInBounds_toArray, List.set_cons_zero, List.set_cons_succ]
      have HBB := Lib.hid hB
      clear e0 e1 e2 e3 e4 hF1 hB
      go_wp2_with fail
      go_meet
      exact ⟨rfl, HBB⟩
  case rest =>
    obtain ⟨rfl, HB⟩ := hcut
    have HBW := Lib.hid (below_on HX.out HB.out)
    have HR1 := Lib.hid (HR.out.below HB.out)
    have HK1 := Lib.hid ((Mod.of_below HB.out []).whole HK.out (by simp))
    by_cases hu : BM.used r = r
    rotate_left
    · have HE := Lib.hid (show BM.okRc r = false by unfold BM.okRc; rw [decide_eq_false hu, Bool.and_false])
      rw [decide_eq_false hu]
      clear hu
      go_wp2_with fail
      go_ret
      exact bools HE.out.symm HBW.out
    have HE := Lib.hid (show BM.okRc r = BM.mayUse r by unfold BM.okRc; rw [decide_eq_true hu, Bool.and_true])
    rw [decide_eq_true hu]
    clear hu HX HR HK HB
    obtain ⟨c0, c1, c2', c3, c4, c5, c6, c7, c8, c9, c10, c11⟩ := rec_cells HK1.out
    by_cases h1 : r.kind = 1
    · have HM := Lib.hid (show BM.mayUse r = (BM.isNext r.next && BM.isBoots r.boots) by unfold BM.mayUse; simp [h1])
      rw [h1] at c0
      clear h1
      go_wp2_with fail
      all_goals
        go_ret
        exact bools (by rw [HE.out, HM.out]; unfold BM.isNext BM.isBoots; (first | (simp; omega) | (simp; done) | (rw [Bool.eq_iff_iff]; simp only [Bool.and_eq_true, decide_eq_true_eq]; omega))) HBW.out
    by_cases h2 : r.kind = 2
    · have HM := Lib.hid (show BM.mayUse r = TM.legal r.longest by unfold BM.mayUse; simp [h2])
      rw [h2] at c0
      clear h1 h2
      go_wp2_with fail
      refine (RefLegal_any r.longest wc HR1.out.longest).mono ?_
      rintro e w5 ⟨rfl, rfl⟩
      go_wp2_with fail
      go_ret
      exact bools (by rw [HE.out, HM.out]) HBW.out
    by_cases h3 : r.kind = 3
    · have HM := Lib.hid (show BM.mayUse r = BM.okGr r.g by unfold BM.mayUse; simp [h3])
      rw [h3] at c0
      clear h1 h2 h3
      go_wp2_with fail
      refine (r_Grant (.slice A r.g.stamp.length c) r.g wc HR1.out.g).mono ?_
      rintro e w5 ⟨rfl, hb5⟩
      have HB5 := Lib.hid (below_on HBW.out hb5)
      clear hb5 c0 c1 c2' c3 c4 c5 c6 c7 c8 c9 c10 c11
      go_wp2_with fail
      go_ret
      exact bools (by rw [HE.out, HM.out]) HB5.out
    by_cases h4 : r.kind = 4
    · have HM := Lib.hid (show BM.mayUse r = (BM.okGr r.g && decide (BM.last r.g.stamp = r.g.id)) by unfold BM.mayUse; simp [h4])
      rw [h4] at c0
      clear h1 h2 h3 h4
      go_upto_region 11 with (fail)
      clear c0 c1 c2' c3 c4 c5 c6 c7 c8 c9 c10 c11
      cases hg : BM.okGr r.g with
      | true =>
        have HG := Lib.hid hg
        clear hg
        go_cut [2] (fun s wx => s = .bool (decide (BM.last r.g.stamp = r.g.id)) ∧ Hid (Below wc.heap.size wc wx))
        case first =>
          have hKeep : ∀ (us : Nat → Value) (wa wb : World), Below wa.heap.size wa wb → ∀ j, known [fun us y => us 0 = .pointer (some ⟨w.heap.size, 1, none⟩), fun us y => us 1 = .agg (six r.g (.slice A r.g.stamp.length c)), fun us y => us 2 = .bool true, fun us y => us 3 = .bool true, fun us y => us 4 = .pointer (some ⟨w.heap.size, 1, none⟩), fun us y => us 5 = .pointer (some ⟨w.heap.size, 5, none⟩), fun us y => us 6 = (.slice A r.g.stamp.length c), fun us y => us 7 = .int .i64 (BM.last r.g.stamp), fun us y => us 8 = .pointer (some ⟨w.heap.size, 1, none⟩), fun us y => us 9 = .pointer (some ⟨w.heap.size, 1, none⟩), fun us y => us 10 = .int .i64 r.g.id, fun us y => us 11 = .bool (decide (BM.last r.g.stamp = r.g.id)), fun us y => us 12 = .bool (decide (BM.last r.g.stamp = r.g.id)), fun us y => us 13 = .bool (decide (BM.last r.g.stamp = r.g.id))] j us wa → known [fun us y => us 0 = .pointer (some ⟨w.heap.size, 1, none⟩), fun us y => us 1 = .agg (six r.g (.slice A r.g.stamp.length c)), fun us y => us 2 = .bool true, fun us y => us 3 = .bool true, fun us y => us 4 = .pointer (some ⟨w.heap.size, 1, none⟩), fun us y => us 5 = .pointer (some ⟨w.heap.size, 5, none⟩), fun us y => us 6 = (.slice A r.g.stamp.length c), fun us y => us 7 = .int .i64 (BM.last r.g.stamp), fun us y => us 8 = .pointer (some ⟨w.heap.size, 1, none⟩), fun us y => us 9 = .pointer (some ⟨w.heap.size, 1, none⟩), fun us y => us 10 = .int .i64 r.g.id, fun us y => us 11 = .bool (decide (BM.last r.g.stamp = r.g.id)), fun us y => us 12 = .bool (decide (BM.last r.g.stamp = r.g.id)), fun us y => us 13 = .bool (decide (BM.last r.g.stamp = r.g.id))] j us wb := by
            intro us wa wb hb j h
            match j, h with
            | 0, h => exact h
            | 1, h => exact h
            | 2, h => exact h
            | 3, h => exact h
            | 4, h => exact h
            | 5, h => exact h
            | 6, h => exact h
            | 7, h => exact h
            | 8, h => exact h
            | 9, h => exact h
            | 10, h => exact h
            | 11, h => exact h
            | 12, h => exact h
            | 13, h => exact h
            | q + 14, h => exact trivial
          have HKEEP := Lib.hid hKeep
          clear hKeep
          refine region_each (known [fun us y => us 0 = .pointer (some ⟨w.heap.size, 1, none⟩), fun us y => us 1 = .agg (six r.g (.slice A r.g.stamp.length c)), fun us y => us 2 = .bool true, fun us y => us 3 = .bool true, fun us y => us 4 = .pointer (some ⟨w.heap.size, 1, none⟩), fun us y => us 5 = .pointer (some ⟨w.heap.size, 5, none⟩), fun us y => us 6 = (.slice A r.g.stamp.length c), fun us y => us 7 = .int .i64 (BM.last r.g.stamp), fun us y => us 8 = .pointer (some ⟨w.heap.size, 1, none⟩), fun us y => us 9 = .pointer (some ⟨w.heap.size, 1, none⟩), fun us y => us 10 = .int .i64 r.g.id, fun us y => us 11 = .bool (decide (BM.last r.g.stamp = r.g.id)), fun us y => us 12 = .bool (decide (BM.last r.g.stamp = r.g.id)), fun us y => us 13 = .bool (decide (BM.last r.g.stamp = r.g.id))]) (fun y => Below wc.heap.size wc y) (fun y => True) [] [[], [0], [0, 1], [0, 1, 2], [0, 1, 2, 3], [0, 1, 2, 3, 4], [0, 1, 2, 3, 4, 5], [0, 1, 2, 3, 4, 5, 6], [0, 1, 2, 3], [0, 1, 2, 3, 8], [0, 1, 2, 3, 8, 9], [0, 1, 2, 3, 4, 5, 6, 7, 8, 9, 10], [0, 1, 2, 3, 4, 5, 6, 7, 8, 9, 10, 11], [0, 1, 2, 3, 4, 5, 6, 7, 8, 9, 10, 11, 12]] (by
            intro j us us' y h hF
            match j, h, hF with
            | 0, h, hF => (have hF : us 0 = .pointer (some ⟨w.heap.size, 1, none⟩) := hF; rw [h 0 (.inl rfl)] at hF; exact hF)
            | 1, h, hF => (have hF : us 1 = .agg (six r.g (.slice A r.g.stamp.length c)) := hF; rw [h 1 (.inl rfl)] at hF; exact hF)
            | 2, h, hF => (have hF : us 2 = .bool true := hF; rw [h 2 (.inl rfl)] at hF; exact hF)
            | 3, h, hF => (have hF : us 3 = .bool true := hF; rw [h 3 (.inl rfl)] at hF; exact hF)
            | 4, h, hF => (have hF : us 4 = .pointer (some ⟨w.heap.size, 1, none⟩) := hF; rw [h 4 (.inl rfl)] at hF; exact hF)
            | 5, h, hF => (have hF : us 5 = .pointer (some ⟨w.heap.size, 5, none⟩) := hF; rw [h 5 (.inl rfl)] at hF; exact hF)
            | 6, h, hF => (have hF : us 6 = (.slice A r.g.stamp.length c) := hF; rw [h 6 (.inl rfl)] at hF; exact hF)
            | 7, h, hF => (have hF : us 7 = .int .i64 (BM.last r.g.stamp) := hF; rw [h 7 (.inl rfl)] at hF; exact hF)
            | 8, h, hF => (have hF : us 8 = .pointer (some ⟨w.heap.size, 1, none⟩) := hF; rw [h 8 (.inl rfl)] at hF; exact hF)
            | 9, h, hF => (have hF : us 9 = .pointer (some ⟨w.heap.size, 1, none⟩) := hF; rw [h 9 (.inl rfl)] at hF; exact hF)
            | 10, h, hF => (have hF : us 10 = .int .i64 r.g.id := hF; rw [h 10 (.inl rfl)] at hF; exact hF)
            | 11, h, hF => (have hF : us 11 = .bool (decide (BM.last r.g.stamp = r.g.id)) := hF; rw [h 11 (.inl rfl)] at hF; exact hF)
            | 12, h, hF => (have hF : us 12 = .bool (decide (BM.last r.g.stamp = r.g.id)) := hF; rw [h 12 (.inl rfl)] at hF; exact hF)
            | 13, h, hF => (have hF : us 13 = .bool (decide (BM.last r.g.stamp = r.g.id)) := hF; rw [h 13 (.inl rfl)] at hF; exact hF)
            | q + 14, h, hF => exact trivial) (by kernel_rfl) rfl (by kernel_rfl) (by exact (Below.refl _ _).drew) (trivial) (Z := fun vs => Act.put (Act.put (Act.put (Act.put (Act.put (Act.put (Act.put (Act.put (Act.put (Act.put (Act.put (Act.put (Act.put (Act.put (_) (some 42) (vs 0)) (some 43) (vs 1)) (some 44) (vs 2)) (some 45) (vs 3)) (some 46) (vs 4)) (some 47) (vs 5)) (some 48) (vs 6)) (some 49) (vs 7)) (some 50) (vs 8)) (some 51) (vs 9)) (some 52) (vs 10)) (some 53) (vs 11)) (some 54) (vs 12)) (some 2) (vs 13)) (fun _ => rfl) ?_ ?_
          · skip
            refine EachAll.snoc (i := 13) (o := { dst := some 2, op := Op.assign (Operand.tmp 54), type := 4, pos := _, after := #[{ on := 12, ground := Ground.data }, { on := 7, ground := Ground.chain }, { on := 0, ground := Ground.phase }, { on := 1, ground := Ground.phase }, { on := 2, ground := Ground.phase }, { on := 3, ground := Ground.phase }, { on := 4, ground := Ground.phase }, { on := 5, ground := Ground.phase }, { on := 6, ground := Ground.phase }, { on := 7, ground := Ground.phase }, { on := 8, ground := Ground.phase }, { on := 9, ground := Ground.phase }, { on := 10, ground := Ground.phase }, { on := 11, ground := Ground.phase }, { on := 12, ground := Ground.phase }], guard := none }) (l := [0, 1, 2, 3, 4, 5, 6, 7, 8, 9, 10, 11, 12]) (A := fun vs => Act.put (Act.put (Act.put (Act.put (Act.put (Act.put (Act.put (Act.put (Act.put (Act.put (Act.put (Act.put (Act.put (_) (some 54) (vs 12)) (some 53) (vs 11)) (some 52) (vs 10)) (some 51) (vs 9)) (some 50) (vs 8)) (some 49) (vs 7)) (some 48) (vs 6)) (some 47) (vs 5)) (some 46) (vs 4)) (some 45) (vs 3)) (some 44) (vs 2)) (some 43) (vs 1)) (some 42) (vs 0)) ?_ rfl rfl (fun _ => rfl) ?_
            rotate_left
            · intro vs y hI hJ hA K hK
              have hB := hI
              clear hJ
              have e12 : vs 12 = .bool (decide (BM.last r.g.stamp = r.g.id)) := hA 12 (by decide)
              clear hA
              refine Box.mk ?_
              try simp only [e12, allPut, puts, Act.put, List.setIfInBounds_toArray, List.set_cons_zero, List.set_cons_succ] at hK ⊢
              go_simp
              exact hK.out _ _ hB (show (updv vs 13 _) 13 = .bool (decide (BM.last r.g.stamp = r.g.id)) from rfl) (fun _ _ _ h => h) (fun _ h => h)
            refine EachAll.snoc (i := 12) (o := { dst := some 54, op := Op.pick (Operand.tmp 45) (Operand.tmp 53) (Operand.const (Value.bool false)), type := 4, pos := _, after := #[{ on := 3, ground := Ground.data }, { on := 11, ground := Ground.data }], guard := none }) (l := [0, 1, 2, 3, 4, 5, 6, 7, 8, 9, 10, 11]) (A := fun vs => Act.put (Act.put (Act.put (Act.put (Act.put (Act.put (Act.put (Act.put (Act.put (Act.put (Act.put (Act.put (_) (some 53) (vs 11)) (some 52) (vs 10)) (some 51) (vs 9)) (some 50) (vs 8)) (some 49) (vs 7)) (some 48) (vs 6)) (some 47) (vs 5)) (some 46) (vs 4)) (some 45) (vs 3)) (some 44) (vs 2)) (some 43) (vs 1)) (some 42) (vs 0)) ?_ rfl rfl (fun _ => rfl) ?_
            rotate_left
            · intro vs y hI hJ hA K hK
              have hB := hI
              clear hJ
              have e3 : vs 3 = .bool true := hA 3 (by decide)
              have e11 : vs 11 = .bool (decide (BM.last r.g.stamp = r.g.id)) := hA 11 (by decide)
              clear hA
              refine Box.mk ?_
              try simp only [e3, e11, allPut, puts, Act.put, List.setIfInBounds_toArray, List.set_cons_zero, List.set_cons_succ] at hK ⊢
              go_simp
              exact hK.out _ _ hB (show (updv vs 12 _) 12 = .bool (decide (BM.last r.g.stamp = r.g.id)) from rfl) (fun _ _ _ h => h) (fun _ h => h)
            refine EachAll.snoc (i := 11) (o := { dst := some 53, op := Op.binOp BinOp.eql 3 (Operand.tmp 49) (Operand.tmp 52) 3, type := 4, pos := _, after := #[{ on := 7, ground := Ground.data }, { on := 10, ground := Ground.data }, { on := 3, ground := Ground.guard }], guard := some (3, true) }) (l := [0, 1, 2, 3, 4, 5, 6, 7, 8, 9, 10]) (A := fun vs => Act.put (Act.put (Act.put (Act.put (Act.put (Act.put (Act.put (Act.put (Act.put (Act.put (Act.put (_) (some 52) (vs 10)) (some 51) (vs 9)) (some 50) (vs 8)) (some 49) (vs 7)) (some 48) (vs 6)) (some 47) (vs 5)) (some 46) (vs 4)) (some 45) (vs 3)) (some 44) (vs 2)) (some 43) (vs 1)) (some 42) (vs 0)) ?_ rfl rfl (fun _ => rfl) ?_
            rotate_left
            · intro vs y hI hJ hA K hK
              have hB := hI
              clear hJ
              have e3 : vs 3 = .bool true := hA 3 (by decide)
              have e7 : vs 7 = .int .i64 (BM.last r.g.stamp) := hA 7 (by decide)
              have e10 : vs 10 = .int .i64 r.g.id := hA 10 (by decide)
              clear hA
              refine Box.mk ?_
              try simp only [e3, e7, e10, allPut, puts, Act.put, List.setIfInBounds_toArray, List.set_cons_zero, List.set_cons_succ] at hK ⊢
              go_simp
              exact hK.out _ _ hB (show (updv vs 11 _) 11 = .bool (decide (BM.last r.g.stamp = r.g.id)) from rfl) (fun _ _ _ h => h) (fun _ h => h)
            refine EachAll.snoc (i := 10) (o := { dst := some 52, op := Op.load 3 (Operand.tmp 51), type := 3, pos := _, after := #[{ on := 9, ground := Ground.data }, { on := 3, ground := Ground.guard }], guard := some (3, true) }) (l := [0, 1, 2, 3, 8, 9]) (A := fun vs => Act.put (Act.put (Act.put (Act.put (Act.put (Act.put (_) (some 51) (vs 9)) (some 50) (vs 8)) (some 45) (vs 3)) (some 44) (vs 2)) (some 43) (vs 1)) (some 42) (vs 0)) ?_ rfl rfl (fun _ => rfl) ?_
            rotate_left
            · intro vs y hI hJ hA K hK
              have hB := hI
              clear hJ
              have e3 : vs 3 = .bool true := hA 3 (by decide)
              have e9 : vs 9 = .pointer (some ⟨w.heap.size, 1, none⟩) := hA 9 (by decide)
              clear hA
              refine Box.mk ?_
              try simp only [e3, e9, allPut, puts, Act.put, List.setIfInBounds_toArray, List.set_cons_zero, List.set_cons_succ] at hK ⊢
              obtain ⟨x0, x1, x2, x3, x4, x5, x6, x7, x8, x9, x10, x11⟩ := rec_cells ((Mod.of_below hB []).whole HK1.out (by simp))
              go_simp
              exact hK.out _ _ hB (show (updv vs 10 _) 10 = .int .i64 r.g.id from rfl) (fun _ _ _ h => h) (fun _ h => h)
            refine EachAll.snoc (i := 9) (o := { dst := some 51, op := Op.fieldAddr 26 (Operand.tmp 50) 0, type := 0, pos := _, after := #[{ on := 8, ground := Ground.data }, { on := 3, ground := Ground.guard }], guard := some (3, true) }) (l := [0, 1, 2, 3, 8]) (A := fun vs => Act.put (Act.put (Act.put (Act.put (Act.put (_) (some 50) (vs 8)) (some 45) (vs 3)) (some 44) (vs 2)) (some 43) (vs 1)) (some 42) (vs 0)) ?_ rfl rfl (fun _ => rfl) ?_
            rotate_left
            · intro vs y hI hJ hA K hK
              have hB := hI
              clear hJ
              have e3 : vs 3 = .bool true := hA 3 (by decide)
              have e8 : vs 8 = .pointer (some ⟨w.heap.size, 1, none⟩) := hA 8 (by decide)
              clear hA
              refine Box.mk ?_
              try simp only [e3, e8, allPut, puts, Act.put, List.setIfInBounds_toArray, List.set_cons_zero, List.set_cons_succ] at hK ⊢
              go_simp
              exact hK.out _ _ hB (show (updv vs 9 _) 9 = .pointer (some ⟨w.heap.size, 1, none⟩) from rfl) (fun _ _ _ h => h) (fun _ h => h)
            refine EachAll.snoc (i := 8) (o := { dst := some 50, op := Op.fieldAddr 28 (Operand.tmp 1) 1, type := 0, pos := _, after := #[{ on := 3, ground := Ground.guard }], guard := some (3, true) }) (l := [0, 1, 2, 3]) (A := fun vs => Act.put (Act.put (Act.put (Act.put (_) (some 45) (vs 3)) (some 44) (vs 2)) (some 43) (vs 1)) (some 42) (vs 0)) ?_ rfl rfl (fun _ => rfl) ?_
            rotate_left
            · intro vs y hI hJ hA K hK
              have hB := hI
              clear hJ
              have e3 : vs 3 = .bool true := hA 3 (by decide)
              clear hA
              refine Box.mk ?_
              try simp only [e3, allPut, puts, Act.put, List.setIfInBounds_toArray, List.set_cons_zero, List.set_cons_succ] at hK ⊢
              go_simp
              exact hK.out _ _ hB (show (updv vs 8 _) 8 = .pointer (some ⟨w.heap.size, 1, none⟩) from rfl) (fun _ _ _ h => h) (fun _ h => h)
            refine EachAll.snoc (i := 7) (o := { dst := some 49, op := Op.call { callee := Callee.value (Operand.func 50), args := #[Operand.tmp 48], argTypes := #[24] }, type := 3, pos := _, after := #[{ on := 6, ground := Ground.data }, { on := 3, ground := Ground.chain }, { on := 3, ground := Ground.guard }], guard := some (3, true) }) (l := [0, 1, 2, 3, 4, 5, 6]) (A := fun vs => Act.put (Act.put (Act.put (Act.put (Act.put (Act.put (Act.put (_) (some 48) (vs 6)) (some 47) (vs 5)) (some 46) (vs 4)) (some 45) (vs 3)) (some 44) (vs 2)) (some 43) (vs 1)) (some 42) (vs 0)) ?_ rfl rfl (fun _ => rfl) ?_
            rotate_left
            · intro vs y hI hJ hA K hK
              have hB := hI
              clear hJ
              have e3 : vs 3 = .bool true := hA 3 (by decide)
              have e6 : vs 6 = (.slice A r.g.stamp.length c) := hA 6 (by decide)
              clear hA
              refine Box.mk ?_
              try simp only [e3, e6, allPut, puts, Act.put, List.setIfInBounds_toArray, List.set_cons_zero, List.set_cons_succ] at hK ⊢
              go_simp
              with_reducible refine (r_last (.slice A r.g.stamp.length c) r.g.stamp y (HR1.out.g.hd.below hB)).mono ?_
              rintro e w5 ⟨rfl, rfl⟩
              go_simp
              exact hK.out _ _ hB (show (updv vs 7 _) 7 = .int .i64 (BM.last r.g.stamp) from rfl) (fun _ _ _ h => h) (fun _ h => h)
            refine EachAll.snoc (i := 6) (o := { dst := some 48, op := Op.load 24 (Operand.tmp 47), type := 24, pos := _, after := #[{ on := 5, ground := Ground.data }, { on := 3, ground := Ground.guard }], guard := some (3, true) }) (l := [0, 1, 2, 3, 4, 5]) (A := fun vs => Act.put (Act.put (Act.put (Act.put (Act.put (Act.put (_) (some 47) (vs 5)) (some 46) (vs 4)) (some 45) (vs 3)) (some 44) (vs 2)) (some 43) (vs 1)) (some 42) (vs 0)) ?_ rfl rfl (fun _ => rfl) ?_
            rotate_left
            · intro vs y hI hJ hA K hK
              have hB := hI
              clear hJ
              have e3 : vs 3 = .bool true := hA 3 (by decide)
              have e5 : vs 5 = .pointer (some ⟨w.heap.size, 5, none⟩) := hA 5 (by decide)
              clear hA
              refine Box.mk ?_
              try simp only [e3, e5, allPut, puts, Act.put, List.setIfInBounds_toArray, List.set_cons_zero, List.set_cons_succ] at hK ⊢
              obtain ⟨x0, x1, x2, x3, x4, x5, x6, x7, x8, x9, x10, x11⟩ := rec_cells ((Mod.of_below hB []).whole HK1.out (by simp))
              go_simp
              exact hK.out _ _ hB (show (updv vs 6 _) 6 = (.slice A r.g.stamp.length c) from rfl) (fun _ _ _ h => h) (fun _ h => h)
            refine EachAll.snoc (i := 5) (o := { dst := some 47, op := Op.fieldAddr 26 (Operand.tmp 46) 4, type := 0, pos := _, after := #[{ on := 4, ground := Ground.data }, { on := 3, ground := Ground.guard }], guard := some (3, true) }) (l := [0, 1, 2, 3, 4]) (A := fun vs => Act.put (Act.put (Act.put (Act.put (Act.put (_) (some 46) (vs 4)) (some 45) (vs 3)) (some 44) (vs 2)) (some 43) (vs 1)) (some 42) (vs 0)) ?_ rfl rfl (fun _ => rfl) ?_
            rotate_left
            · intro vs y hI hJ hA K hK
              have hB := hI
              clear hJ
              have e3 : vs 3 = .bool true := hA 3 (by decide)
              have e4 : vs 4 = .pointer (some ⟨w.heap.size, 1, none⟩) := hA 4 (by decide)
              clear hA
              refine Box.mk ?_
              try simp only [e3, e4, allPut, puts, Act.put, List.setIfInBounds_toArray, List.set_cons_zero, List.set_cons_succ] at hK ⊢
              go_simp
              exact hK.out _ _ hB (show (updv vs 5 _) 5 = .pointer (some ⟨w.heap.size, 5, none⟩) from rfl) (fun _ _ _ h => h) (fun _ h => h)
            refine EachAll.snoc (i := 4) (o := { dst := some 46, op := Op.fieldAddr 28 (Operand.tmp 1) 1, type := 0, pos := _, after := #[{ on := 3, ground := Ground.guard }], guard := some (3, true) }) (l := [0, 1, 2, 3]) (A := fun vs => Act.put (Act.put (Act.put (Act.put (_) (some 45) (vs 3)) (some 44) (vs 2)) (some 43) (vs 1)) (some 42) (vs 0)) ?_ rfl rfl (fun _ => rfl) ?_
            rotate_left
            · intro vs y hI hJ hA K hK
              have hB := hI
              clear hJ
              have e3 : vs 3 = .bool true := hA 3 (by decide)
              clear hA
              refine Box.mk ?_
              try simp only [e3, allPut, puts, Act.put, List.setIfInBounds_toArray, List.set_cons_zero, List.set_cons_succ] at hK ⊢
              go_simp
              exact hK.out _ _ hB (show (updv vs 4 _) 4 = .pointer (some ⟨w.heap.size, 1, none⟩) from rfl) (fun _ _ _ h => h) (fun _ h => h)
            refine EachAll.snoc (i := 3) (o := { dst := some 45, op := Op.move (Operand.tmp 44), type := 4, pos := _, after := #[{ on := 2, ground := Ground.data }, { on := 2, ground := Ground.chain }], guard := none }) (l := [0, 1, 2]) (A := fun vs => Act.put (Act.put (Act.put (_) (some 44) (vs 2)) (some 43) (vs 1)) (some 42) (vs 0)) ?_ rfl rfl (fun _ => rfl) ?_
            rotate_left
            · intro vs y hI hJ hA K hK
              have hB := hI
              clear hJ
              have e2 : vs 2 = .bool true := hA 2 (by decide)
              clear hA
              refine Box.mk ?_
              try simp only [e2, allPut, puts, Act.put, List.setIfInBounds_toArray, List.set_cons_zero, List.set_cons_succ] at hK ⊢
              go_simp
              exact hK.out _ _ hB (show (updv vs 3 _) 3 = .bool true from rfl) (fun _ _ _ h => h) (fun _ h => h)
            refine EachAll.snoc (i := 2) (o := { dst := some 44, op := Op.call { callee := Callee.value (Operand.func 49), args := #[Operand.tmp 43], argTypes := #[26] }, type := 4, pos := _, after := #[{ on := 1, ground := Ground.data }], guard := none }) (l := [0, 1]) (A := fun vs => Act.put (Act.put (_) (some 43) (vs 1)) (some 42) (vs 0)) ?_ rfl rfl (fun _ => rfl) ?_
            rotate_left
            · intro vs y hI hJ hA K hK
              have hB := hI
              clear hJ
              have e1 : vs 1 = .agg (six r.g (.slice A r.g.stamp.length c)) := hA 1 (by decide)
              clear hA
              refine Box.mk ?_
              try simp only [e1, allPut, puts, Act.put, List.setIfInBounds_toArray, List.set_cons_zero, List.set_cons_succ] at hK ⊢
              clear e1
              go_simp
              with_reducible refine (r_Grant (.slice A r.g.stamp.length c) r.g y (HR1.out.g.below hB)).mono ?_
              rw [HG.out]
              rintro e w5 ⟨rfl, hb⟩
              go_simp
              exact hK.out _ _ (below_on hB hb) (show (updv vs 2 _) 2 = .bool true from rfl) (fun j _ _ h => HKEEP.out vs y w5 hb j h) (fun _ h => h)
            refine EachAll.snoc (i := 1) (o := { dst := some 43, op := Op.load 26 (Operand.tmp 42), type := 26, pos := _, after := #[{ on := 0, ground := Ground.data }], guard := none }) (l := [0]) (A := fun vs => Act.put (_) (some 42) (vs 0)) ?_ rfl rfl (fun _ => rfl) ?_
            rotate_left
            · intro vs y hI hJ hA K hK
              have hB := hI
              clear hJ
              have e0 : vs 0 = .pointer (some ⟨w.heap.size, 1, none⟩) := hA 0 (by decide)
              clear hA
              refine Box.mk ?_
              try simp only [e0, allPut, puts, Act.put, List.setIfInBounds_toArray, List.set_cons_zero, List.set_cons_succ] at hK ⊢
              obtain ⟨x0, x1, x2, x3, x4, x5, x6, x7, x8, x9, x10, x11⟩ := rec_cells ((Mod.of_below hB []).whole HK1.out (by simp))
              go_simp
              exact hK.out _ _ hB (show (updv vs 1 _) 1 = .agg (six r.g (.slice A r.g.stamp.length c)) from rfl) (fun _ _ _ h => h) (fun _ h => h)
            refine EachAll.snoc (i := 0) (o := { dst := some 42, op := Op.fieldAddr 28 (Operand.tmp 1) 1, type := 0, pos := _, after := #[], guard := none }) (l := []) (A := fun vs => _) ?_ rfl rfl (fun _ => rfl) ?_
            rotate_left
            · intro vs y hI hJ hA K hK
              have hB := hI
              clear hJ
              clear hA
              refine Box.mk ?_
              try simp only [allPut, puts, Act.put, List.setIfInBounds_toArray, List.set_cons_zero, List.set_cons_succ] at hK ⊢
              go_simp
              exact hK.out _ _ hB (show (updv vs 0 _) 0 = .pointer (some ⟨w.heap.size, 1, none⟩) from rfl) (fun _ _ _ h => h) (fun _ h => h)
            exact EachAll.nil
          · intro vs y hI hall
            have hB := hI
            have e0 : vs 0 = .pointer (some ⟨w.heap.size, 1, none⟩) := hall 0 (by decide)
            have e1 : vs 1 = .agg (six r.g (.slice A r.g.stamp.length c)) := hall 1 (by decide)
            have e2 : vs 2 = .bool true := hall 2 (by decide)
            have e3 : vs 3 = .bool true := hall 3 (by decide)
            have e4 : vs 4 = .pointer (some ⟨w.heap.size, 1, none⟩) := hall 4 (by decide)
            have e5 : vs 5 = .pointer (some ⟨w.heap.size, 5, none⟩) := hall 5 (by decide)
            have e6 : vs 6 = (.slice A r.g.stamp.length c) := hall 6 (by decide)
            have e7 : vs 7 = .int .i64 (BM.last r.g.stamp) := hall 7 (by decide)
            have e8 : vs 8 = .pointer (some ⟨w.heap.size, 1, none⟩) := hall 8 (by decide)
            have e9 : vs 9 = .pointer (some ⟨w.heap.size, 1, none⟩) := hall 9 (by decide)
            have e10 : vs 10 = .int .i64 r.g.id := hall 10 (by decide)
            have e11 : vs 11 = .bool (decide (BM.last r.g.stamp = r.g.id)) := hall 11 (by decide)
            have e12 : vs 12 = .bool (decide (BM.last r.g.stamp = r.g.id)) := hall 12 (by decide)
            have e13 : vs 13 = .bool (decide (BM.last r.g.stamp = r.g.id)) := hall 13 (by decide)
            clear hall HKEEP
            refine Box.mk ?_
            simp only [e0, e1, e2, e3, e4, e5, e6, e7, e8, e9, e10, e11, e12, e13, allPut, puts, Act.put, List.setIfInBounds_toArray, List.set_cons_zero, List.set_cons_succ]
            have HBB := Lib.hid hB
            clear e0 e1 e2 e3 e4 e5 e6 e7 e8 e9 e10 e11 e12 e13 hB
            go_wp2_with fail
            go_meet
            exact ⟨rfl, HBB⟩
        case rest =>
          obtain ⟨rfl, HB5⟩ := hcut
          go_wp2_with fail
          go_ret
          exact bools (by rw [HE.out, HM.out, HG.out, Bool.true_and]) (below_on HBW.out HB5.out)
      | false =>
        have HG := Lib.hid hg
        clear hg
        go_cut [2] (fun s wx => s = .bool false ∧ Hid (Below wc.heap.size wc wx))
        case first =>
          have hKeep : ∀ (us : Nat → Value) (wa wb : World), Below wa.heap.size wa wb → ∀ j, known [fun us y => us 0 = .pointer (some ⟨w.heap.size, 1, none⟩), fun us y => us 1 = .agg (six r.g (.slice A r.g.stamp.length c)), fun us y => us 2 = .bool false, fun us y => us 3 = .bool false, fun us y => us 4 = undef, fun us y => us 5 = undef, fun us y => us 6 = undef, fun us y => us 7 = undef, fun us y => us 8 = undef, fun us y => us 9 = undef, fun us y => us 10 = undef, fun us y => us 11 = undef, fun us y => us 12 = .bool false, fun us y => us 13 = .bool false] j us wa → known [fun us y => us 0 = .pointer (some ⟨w.heap.size, 1, none⟩), fun us y => us 1 = .agg (six r.g (.slice A r.g.stamp.length c)), fun us y => us 2 = .bool false, fun us y => us 3 = .bool false, fun us y => us 4 = undef, fun us y => us 5 = undef, fun us y => us 6 = undef, fun us y => us 7 = undef, fun us y => us 8 = undef, fun us y => us 9 = undef, fun us y => us 10 = undef, fun us y => us 11 = undef, fun us y => us 12 = .bool false, fun us y => us 13 = .bool false] j us wb := by
            intro us wa wb hb j h
            match j, h with
            | 0, h => exact h
            | 1, h => exact h
            | 2, h => exact h
            | 3, h => exact h
            | 4, h => exact h
            | 5, h => exact h
            | 6, h => exact h
            | 7, h => exact h
            | 8, h => exact h
            | 9, h => exact h
            | 10, h => exact h
            | 11, h => exact h
            | 12, h => exact h
            | 13, h => exact h
            | q + 14, h => exact trivial
          have HKEEP := Lib.hid hKeep
          clear hKeep
          refine region_each (known [fun us y => us 0 = .pointer (some ⟨w.heap.size, 1, none⟩), fun us y => us 1 = .agg (six r.g (.slice A r.g.stamp.length c)), fun us y => us 2 = .bool false, fun us y => us 3 = .bool false, fun us y => us 4 = undef, fun us y => us 5 = undef, fun us y => us 6 = undef, fun us y => us 7 = undef, fun us y => us 8 = undef, fun us y => us 9 = undef, fun us y => us 10 = undef, fun us y => us 11 = undef, fun us y => us 12 = .bool false, fun us y => us 13 = .bool false]) (fun y => Below wc.heap.size wc y) (fun y => True) [] [[], [0], [0, 1], [0, 1, 2], [0, 1, 2, 3], [0, 1, 2, 3, 4], [0, 1, 2, 3, 4, 5], [0, 1, 2, 3, 4, 5, 6], [0, 1, 2, 3], [0, 1, 2, 3, 8], [0, 1, 2, 3, 8, 9], [0, 1, 2, 3, 4, 5, 6, 7, 8, 9, 10], [0, 1, 2, 3, 4, 5, 6, 7, 8, 9, 10, 11], [0, 1, 2, 3, 4, 5, 6, 7, 8, 9, 10, 11, 12]] (by
            intro j us us' y h hF
            match j, h, hF with
            | 0, h, hF => (have hF : us 0 = .pointer (some ⟨w.heap.size, 1, none⟩) := hF; rw [h 0 (.inl rfl)] at hF; exact hF)
            | 1, h, hF => (have hF : us 1 = .agg (six r.g (.slice A r.g.stamp.length c)) := hF; rw [h 1 (.inl rfl)] at hF; exact hF)
            | 2, h, hF => (have hF : us 2 = .bool false := hF; rw [h 2 (.inl rfl)] at hF; exact hF)
            | 3, h, hF => (have hF : us 3 = .bool false := hF; rw [h 3 (.inl rfl)] at hF; exact hF)
            | 4, h, hF => (have hF : us 4 = undef := hF; rw [h 4 (.inl rfl)] at hF; exact hF)
            | 5, h, hF => (have hF : us 5 = undef := hF; rw [h 5 (.inl rfl)] at hF; exact hF)
            | 6, h, hF => (have hF : us 6 = undef := hF; rw [h 6 (.inl rfl)] at hF; exact hF)
            | 7, h, hF => (have hF : us 7 = undef := hF; rw [h 7 (.inl rfl)] at hF; exact hF)
            | 8, h, hF => (have hF : us 8 = undef := hF; rw [h 8 (.inl rfl)] at hF; exact hF)
            | 9, h, hF => (have hF : us 9 = undef := hF; rw [h 9 (.inl rfl)] at hF; exact hF)
            | 10, h, hF => (have hF : us 10 = undef := hF; rw [h 10 (.inl rfl)] at hF; exact hF)
            | 11, h, hF => (have hF : us 11 = undef := hF; rw [h 11 (.inl rfl)] at hF; exact hF)
            | 12, h, hF => (have hF : us 12 = .bool false := hF; rw [h 12 (.inl rfl)] at hF; exact hF)
            | 13, h, hF => (have hF : us 13 = .bool false := hF; rw [h 13 (.inl rfl)] at hF; exact hF)
            | q + 14, h, hF => exact trivial) (by kernel_rfl) rfl (by kernel_rfl) (by exact (Below.refl _ _).drew) (trivial) (Z := fun vs => Act.put (Act.put (Act.put (Act.put (Act.put (Act.put (Act.put (Act.put (Act.put (Act.put (Act.put (Act.put (Act.put (Act.put (_) (some 42) (vs 0)) (some 43) (vs 1)) (some 44) (vs 2)) (some 45) (vs 3)) (some 46) (vs 4)) (some 47) (vs 5)) (some 48) (vs 6)) (some 49) (vs 7)) (some 50) (vs 8)) (some 51) (vs 9)) (some 52) (vs 10)) (some 53) (vs 11)) (some 54) (vs 12)) (some 2) (vs 13)) (fun _ => rfl) ?_ ?_
          · skip
            refine EachAll.snoc (i := 13) (o := { dst := some 2, op := Op.assign (Operand.tmp 54), type := 4, pos := _, after := #[{ on := 12, ground := Ground.data }, { on := 7, ground := Ground.chain }, { on := 0, ground := Ground.phase }, { on := 1, ground := Ground.phase }, { on := 2, ground := Ground.phase }, { on := 3, ground := Ground.phase }, { on := 4, ground := Ground.phase }, { on := 5, ground := Ground.phase }, { on := 6, ground := Ground.phase }, { on := 7, ground := Ground.phase }, { on := 8, ground := Ground.phase }, { on := 9, ground := Ground.phase }, { on := 10, ground := Ground.phase }, { on := 11, ground := Ground.phase }, { on := 12, ground := Ground.phase }], guard := none }) (l := [0, 1, 2, 3, 4, 5, 6, 7, 8, 9, 10, 11, 12]) (A := fun vs => Act.put (Act.put (Act.put (Act.put (Act.put (Act.put (Act.put (Act.put (Act.put (Act.put (Act.put (Act.put (Act.put (_) (some 54) (vs 12)) (some 53) (vs 11)) (some 52) (vs 10)) (some 51) (vs 9)) (some 50) (vs 8)) (some 49) (vs 7)) (some 48) (vs 6)) (some 47) (vs 5)) (some 46) (vs 4)) (some 45) (vs 3)) (some 44) (vs 2)) (some 43) (vs 1)) (some 42) (vs 0)) ?_ rfl rfl (fun _ => rfl) ?_
            rotate_left
            · intro vs y hI hJ hA K hK
              have hB := hI
              clear hJ
              have e12 : vs 12 = .bool false := hA 12 (by decide)
              clear hA
              refine Box.mk ?_
              try simp only [e12, allPut, puts, Act.put, List.setIfInBounds_toArray, List.set_cons_zero, List.set_cons_succ] at hK ⊢
              go_simp
              exact hK.out _ _ hB (show (updv vs 13 _) 13 = .bool false from rfl) (fun _ _ _ h => h) (fun _ h => h)
            refine EachAll.snoc (i := 12) (o := { dst := some 54, op := Op.pick (Operand.tmp 45) (Operand.tmp 53) (Operand.const (Value.bool false)), type := 4, pos := _, after := #[{ on := 3, ground := Ground.data }, { on := 11, ground := Ground.data }], guard := none }) (l := [0, 1, 2, 3, 4, 5, 6, 7, 8, 9, 10, 11]) (A := fun vs => Act.put (Act.put (Act.put (Act.put (Act.put (Act.put (Act.put (Act.put (Act.put (Act.put (Act.put (Act.put (_) (some 53) (vs 11)) (some 52) (vs 10)) (some 51) (vs 9)) (some 50) (vs 8)) (some 49) (vs 7)) (some 48) (vs 6)) (some 47) (vs 5)) (some 46) (vs 4)) (some 45) (vs 3)) (some 44) (vs 2)) (some 43) (vs 1)) (some 42) (vs 0)) ?_ rfl rfl (fun _ => rfl) ?_
            rotate_left
            · intro vs y hI hJ hA K hK
              have hB := hI
              clear hJ
              have e3 : vs 3 = .bool false := hA 3 (by decide)
              have e11 : vs 11 = undef := hA 11 (by decide)
              clear hA
              refine Box.mk ?_
              try simp only [e3, e11, allPut, puts, Act.put, List.setIfInBounds_toArray, List.set_cons_zero, List.set_cons_succ] at hK ⊢
              go_simp
              exact hK.out _ _ hB (show (updv vs 12 _) 12 = .bool false from rfl) (fun _ _ _ h => h) (fun _ h => h)
            refine EachAll.snoc (i := 11) (o := { dst := some 53, op := Op.binOp BinOp.eql 3 (Operand.tmp 49) (Operand.tmp 52) 3, type := 4, pos := _, after := #[{ on := 7, ground := Ground.data }, { on := 10, ground := Ground.data }, { on := 3, ground := Ground.guard }], guard := some (3, true) }) (l := [0, 1, 2, 3, 4, 5, 6, 7, 8, 9, 10]) (A := fun vs => Act.put (Act.put (Act.put (Act.put (Act.put (Act.put (Act.put (Act.put (Act.put (Act.put (Act.put (_) (some 52) (vs 10)) (some 51) (vs 9)) (some 50) (vs 8)) (some 49) (vs 7)) (some 48) (vs 6)) (some 47) (vs 5)) (some 46) (vs 4)) (some 45) (vs 3)) (some 44) (vs 2)) (some 43) (vs 1)) (some 42) (vs 0)) ?_ rfl rfl (fun _ => rfl) ?_
            rotate_left
            · intro vs y hI hJ hA K hK
              have hB := hI
              clear hJ
              have e3 : vs 3 = .bool false := hA 3 (by decide)
              have e7 : vs 7 = undef := hA 7 (by decide)
              have e10 : vs 10 = undef := hA 10 (by decide)
              clear hA
              refine Box.mk ?_
              try simp only [e3, e7, e10, allPut, puts, Act.put, List.setIfInBounds_toArray, List.set_cons_zero, List.set_cons_succ] at hK ⊢
              go_simp
              exact hK.out _ _ hB (show (updv vs 11 _) 11 = undef from rfl) (fun _ _ _ h => h) (fun _ h => h)
            refine EachAll.snoc (i := 10) (o := { dst := some 52, op := Op.load 3 (Operand.tmp 51), type := 3, pos := _, after := #[{ on := 9, ground := Ground.data }, { on := 3, ground := Ground.guard }], guard := some (3, true) }) (l := [0, 1, 2, 3, 8, 9]) (A := fun vs => Act.put (Act.put (Act.put (Act.put (Act.put (Act.put (_) (some 51) (vs 9)) (some 50) (vs 8)) (some 45) (vs 3)) (some 44) (vs 2)) (some 43) (vs 1)) (some 42) (vs 0)) ?_ rfl rfl (fun _ => rfl) ?_
            rotate_left
            · intro vs y hI hJ hA K hK
              have hB := hI
              clear hJ
              have e3 : vs 3 = .bool false := hA 3 (by decide)
              have e9 : vs 9 = undef := hA 9 (by decide)
              clear hA
              refine Box.mk ?_
              try simp only [e3, e9, allPut, puts, Act.put, List.setIfInBounds_toArray, List.set_cons_zero, List.set_cons_succ] at hK ⊢
              go_simp
              exact hK.out _ _ hB (show (updv vs 10 _) 10 = undef from rfl) (fun _ _ _ h => h) (fun _ h => h)
            refine EachAll.snoc (i := 9) (o := { dst := some 51, op := Op.fieldAddr 26 (Operand.tmp 50) 0, type := 0, pos := _, after := #[{ on := 8, ground := Ground.data }, { on := 3, ground := Ground.guard }], guard := some (3, true) }) (l := [0, 1, 2, 3, 8]) (A := fun vs => Act.put (Act.put (Act.put (Act.put (Act.put (_) (some 50) (vs 8)) (some 45) (vs 3)) (some 44) (vs 2)) (some 43) (vs 1)) (some 42) (vs 0)) ?_ rfl rfl (fun _ => rfl) ?_
            rotate_left
            · intro vs y hI hJ hA K hK
              have hB := hI
              clear hJ
              have e3 : vs 3 = .bool false := hA 3 (by decide)
              have e8 : vs 8 = undef := hA 8 (by decide)
              clear hA
              refine Box.mk ?_
              try simp only [e3, e8, allPut, puts, Act.put, List.setIfInBounds_toArray, List.set_cons_zero, List.set_cons_succ] at hK ⊢
              go_simp
              exact hK.out _ _ hB (show (updv vs 9 _) 9 = undef from rfl) (fun _ _ _ h => h) (fun _ h => h)
            refine EachAll.snoc (i := 8) (o := { dst := some 50, op := Op.fieldAddr 28 (Operand.tmp 1) 1, type := 0, pos := _, after := #[{ on := 3, ground := Ground.guard }], guard := some (3, true) }) (l := [0, 1, 2, 3]) (A := fun vs => Act.put (Act.put (Act.put (Act.put (_) (some 45) (vs 3)) (some 44) (vs 2)) (some 43) (vs 1)) (some 42) (vs 0)) ?_ rfl rfl (fun _ => rfl) ?_
            rotate_left
            · intro vs y hI hJ hA K hK
              have hB := hI
              clear hJ
              have e3 : vs 3 = .bool false := hA 3 (by decide)
              clear hA
              refine Box.mk ?_
              try simp only [e3, allPut, puts, Act.put, List.setIfInBounds_toArray, List.set_cons_zero, List.set_cons_succ] at hK ⊢
              go_simp
              exact hK.out _ _ hB (show (updv vs 8 _) 8 = undef from rfl) (fun _ _ _ h => h) (fun _ h => h)
            refine EachAll.snoc (i := 7) (o := { dst := some 49, op := Op.call { callee := Callee.value (Operand.func 50), args := #[Operand.tmp 48], argTypes := #[24] }, type := 3, pos := _, after := #[{ on := 6, ground := Ground.data }, { on := 3, ground := Ground.chain }, { on := 3, ground := Ground.guard }], guard := some (3, true) }) (l := [0, 1, 2, 3, 4, 5, 6]) (A := fun vs => Act.put (Act.put (Act.put (Act.put (Act.put (Act.put (Act.put (_) (some 48) (vs 6)) (some 47) (vs 5)) (some 46) (vs 4)) (some 45) (vs 3)) (some 44) (vs 2)) (some 43) (vs 1)) (some 42) (vs 0)) ?_ rfl rfl (fun _ => rfl) ?_
            rotate_left
            · intro vs y hI hJ hA K hK
              have hB := hI
              clear hJ
              have e3 : vs 3 = .bool false := hA 3 (by decide)
              have e6 : vs 6 = undef := hA 6 (by decide)
              clear hA
              refine Box.mk ?_
              try simp only [e3, e6, allPut, puts, Act.put, List.setIfInBounds_toArray, List.set_cons_zero, List.set_cons_succ] at hK ⊢
              go_simp
              exact hK.out _ _ hB (show (updv vs 7 _) 7 = undef from rfl) (fun _ _ _ h => h) (fun _ h => h)
            refine EachAll.snoc (i := 6) (o := { dst := some 48, op := Op.load 24 (Operand.tmp 47), type := 24, pos := _, after := #[{ on := 5, ground := Ground.data }, { on := 3, ground := Ground.guard }], guard := some (3, true) }) (l := [0, 1, 2, 3, 4, 5]) (A := fun vs => Act.put (Act.put (Act.put (Act.put (Act.put (Act.put (_) (some 47) (vs 5)) (some 46) (vs 4)) (some 45) (vs 3)) (some 44) (vs 2)) (some 43) (vs 1)) (some 42) (vs 0)) ?_ rfl rfl (fun _ => rfl) ?_
            rotate_left
            · intro vs y hI hJ hA K hK
              have hB := hI
              clear hJ
              have e3 : vs 3 = .bool false := hA 3 (by decide)
              have e5 : vs 5 = undef := hA 5 (by decide)
              clear hA
              refine Box.mk ?_
              try simp only [e3, e5, allPut, puts, Act.put, List.setIfInBounds_toArray, List.set_cons_zero, List.set_cons_succ] at hK ⊢
              go_simp
              exact hK.out _ _ hB (show (updv vs 6 _) 6 = undef from rfl) (fun _ _ _ h => h) (fun _ h => h)
            refine EachAll.snoc (i := 5) (o := { dst := some 47, op := Op.fieldAddr 26 (Operand.tmp 46) 4, type := 0, pos := _, after := #[{ on := 4, ground := Ground.data }, { on := 3, ground := Ground.guard }], guard := some (3, true) }) (l := [0, 1, 2, 3, 4]) (A := fun vs => Act.put (Act.put (Act.put (Act.put (Act.put (_) (some 46) (vs 4)) (some 45) (vs 3)) (some 44) (vs 2)) (some 43) (vs 1)) (some 42) (vs 0)) ?_ rfl rfl (fun _ => rfl) ?_
            rotate_left
            · intro vs y hI hJ hA K hK
              have hB := hI
              clear hJ
              have e3 : vs 3 = .bool false := hA 3 (by decide)
              have e4 : vs 4 = undef := hA 4 (by decide)
              clear hA
              refine Box.mk ?_
              try simp only [e3, e4, allPut, puts, Act.put, List.setIfInBounds_toArray, List.set_cons_zero, List.set_cons_succ] at hK ⊢
              go_simp
              exact hK.out _ _ hB (show (updv vs 5 _) 5 = undef from rfl) (fun _ _ _ h => h) (fun _ h => h)
            refine EachAll.snoc (i := 4) (o := { dst := some 46, op := Op.fieldAddr 28 (Operand.tmp 1) 1, type := 0, pos := _, after := #[{ on := 3, ground := Ground.guard }], guard := some (3, true) }) (l := [0, 1, 2, 3]) (A := fun vs => Act.put (Act.put (Act.put (Act.put (_) (some 45) (vs 3)) (some 44) (vs 2)) (some 43) (vs 1)) (some 42) (vs 0)) ?_ rfl rfl (fun _ => rfl) ?_
            rotate_left
            · intro vs y hI hJ hA K hK
              have hB := hI
              clear hJ
              have e3 : vs 3 = .bool false := hA 3 (by decide)
              clear hA
              refine Box.mk ?_
              try simp only [e3, allPut, puts, Act.put, List.setIfInBounds_toArray, List.set_cons_zero, List.set_cons_succ] at hK ⊢
              go_simp
              exact hK.out _ _ hB (show (updv vs 4 _) 4 = undef from rfl) (fun _ _ _ h => h) (fun _ h => h)
            refine EachAll.snoc (i := 3) (o := { dst := some 45, op := Op.move (Operand.tmp 44), type := 4, pos := _, after := #[{ on := 2, ground := Ground.data }, { on := 2, ground := Ground.chain }], guard := none }) (l := [0, 1, 2]) (A := fun vs => Act.put (Act.put (Act.put (_) (some 44) (vs 2)) (some 43) (vs 1)) (some 42) (vs 0)) ?_ rfl rfl (fun _ => rfl) ?_
            rotate_left
            · intro vs y hI hJ hA K hK
              have hB := hI
              clear hJ
              have e2 : vs 2 = .bool false := hA 2 (by decide)
              clear hA
              refine Box.mk ?_
              try simp only [e2, allPut, puts, Act.put, List.setIfInBounds_toArray, List.set_cons_zero, List.set_cons_succ] at hK ⊢
              go_simp
              exact hK.out _ _ hB (show (updv vs 3 _) 3 = .bool false from rfl) (fun _ _ _ h => h) (fun _ h => h)
            refine EachAll.snoc (i := 2) (o := { dst := some 44, op := Op.call { callee := Callee.value (Operand.func 49), args := #[Operand.tmp 43], argTypes := #[26] }, type := 4, pos := _, after := #[{ on := 1, ground := Ground.data }], guard := none }) (l := [0, 1]) (A := fun vs => Act.put (Act.put (_) (some 43) (vs 1)) (some 42) (vs 0)) ?_ rfl rfl (fun _ => rfl) ?_
            rotate_left
            · intro vs y hI hJ hA K hK
              have hB := hI
              clear hJ
              have e1 : vs 1 = .agg (six r.g (.slice A r.g.stamp.length c)) := hA 1 (by decide)
              clear hA
              refine Box.mk ?_
              try simp only [e1, allPut, puts, Act.put, List.setIfInBounds_toArray, List.set_cons_zero, List.set_cons_succ] at hK ⊢
              clear e1
              go_simp
              with_reducible refine (r_Grant (.slice A r.g.stamp.length c) r.g y (HR1.out.g.below hB)).mono ?_
              rw [HG.out]
              rintro e w5 ⟨rfl, hb⟩
              go_simp
              exact hK.out _ _ (below_on hB hb) (show (updv vs 2 _) 2 = .bool false from rfl) (fun j _ _ h => HKEEP.out vs y w5 hb j h) (fun _ h => h)
            refine EachAll.snoc (i := 1) (o := { dst := some 43, op := Op.load 26 (Operand.tmp 42), type := 26, pos := _, after := #[{ on := 0, ground := Ground.data }], guard := none }) (l := [0]) (A := fun vs => Act.put (_) (some 42) (vs 0)) ?_ rfl rfl (fun _ => rfl) ?_
            rotate_left
            · intro vs y hI hJ hA K hK
              have hB := hI
              clear hJ
              have e0 : vs 0 = .pointer (some ⟨w.heap.size, 1, none⟩) := hA 0 (by decide)
              clear hA
              refine Box.mk ?_
              try simp only [e0, allPut, puts, Act.put, List.setIfInBounds_toArray, List.set_cons_zero, List.set_cons_succ] at hK ⊢
              obtain ⟨x0, x1, x2, x3, x4, x5, x6, x7, x8, x9, x10, x11⟩ := rec_cells ((Mod.of_below hB []).whole HK1.out (by simp))
              go_simp
              exact hK.out _ _ hB (show (updv vs 1 _) 1 = .agg (six r.g (.slice A r.g.stamp.length c)) from rfl) (fun _ _ _ h => h) (fun _ h => h)
            refine EachAll.snoc (i := 0) (o := { dst := some 42, op := Op.fieldAddr 28 (Operand.tmp 1) 1, type := 0, pos := _, after := #[], guard := none }) (l := []) (A := fun vs => _) ?_ rfl rfl (fun _ => rfl) ?_
            rotate_left
            · intro vs y hI hJ hA K hK
              have hB := hI
              clear hJ
              clear hA
              refine Box.mk ?_
              try simp only [allPut, puts, Act.put, List.setIfInBounds_toArray, List.set_cons_zero, List.set_cons_succ] at hK ⊢
              go_simp
              exact hK.out _ _ hB (show (updv vs 0 _) 0 = .pointer (some ⟨w.heap.size, 1, none⟩) from rfl) (fun _ _ _ h => h) (fun _ h => h)
            exact EachAll.nil
          · intro vs y hI hall
            have hB := hI
            have e0 : vs 0 = .pointer (some ⟨w.heap.size, 1, none⟩) := hall 0 (by decide)
            have e1 : vs 1 = .agg (six r.g (.slice A r.g.stamp.length c)) := hall 1 (by decide)
            have e2 : vs 2 = .bool false := hall 2 (by decide)
            have e3 : vs 3 = .bool false := hall 3 (by decide)
            have e4 : vs 4 = undef := hall 4 (by decide)
            have e5 : vs 5 = undef := hall 5 (by decide)
            have e6 : vs 6 = undef := hall 6 (by decide)
            have e7 : vs 7 = undef := hall 7 (by decide)
            have e8 : vs 8 = undef := hall 8 (by decide)
            have e9 : vs 9 = undef := hall 9 (by decide)
            have e10 : vs 10 = undef := hall 10 (by decide)
            have e11 : vs 11 = undef := hall 11 (by decide)
            have e12 : vs 12 = .bool false := hall 12 (by decide)
            have e13 : vs 13 = .bool false := hall 13 (by decide)
            clear hall HKEEP
            refine Box.mk ?_
            simp only [e0, e1, e2, e3, e4, e5, e6, e7, e8, e9, e10, e11, e12, e13, allPut, puts, Act.put, List.setIfInBounds_toArray, List.set_cons_zero, List.set_cons_succ]
            have HBB := Lib.hid hB
            clear e0 e1 e2 e3 e4 e5 e6 e7 e8 e9 e10 e11 e12 e13 hB
            go_wp2_with fail
            go_meet
            exact ⟨rfl, HBB⟩
        case rest =>
          obtain ⟨rfl, HB5⟩ := hcut
          go_wp2_with fail
          go_ret
          exact bools (by rw [HE.out, HM.out, HG.out, Bool.false_and]) (below_on HBW.out HB5.out)
    by_cases h5 : r.kind = 5
    · have HM := Lib.hid (show BM.mayUse r = (SM.count r.id && BM.isStamp r.stamp) by unfold BM.mayUse; simp [h5])
      rw [h5] at c0
      clear h1 h2 h3 h4 h5
      go_wp2_with fail
      refine (r_counter r.id wc).mono ?_
      rintro e w5 ⟨rfl, rfl⟩
      cases hc : SM.count r.id with
      | false =>
        have HC := Lib.hid hc
        clear hc
        go_wp2_with fail
        all_goals
          go_ret
          exact bools (by rw [HE.out, HM.out, HC.out, Bool.false_and]) HBW.out
      | true =>
        have HC := Lib.hid hc
        clear hc
        by_cases hs : r.stamp = []
        · have HS := Lib.hid (show BM.isStamp r.stamp = false by rw [hs]; rfl)
          have hl : r.stamp.length = 0 := by rw [hs]; rfl
          rw [hl] at c8
          clear hs hl
          go_wp2_with fail
          go_ret
          exact bools (by rw [HE.out, HM.out, HC.out, HS.out]; rfl) HBW.out
        · have HS := Lib.hid (show BM.isStamp r.stamp = SM.valid r.stamp by unfold BM.isStamp; simp [hs])
          have hl : decide ((0 : Int) < (r.stamp.length : Int)) = true := decide_eq_true (by have := List.length_pos_iff.2 hs; omega)
          have hl' : (0 : Int) < (r.stamp.length : Int) := by have := List.length_pos_iff.2 hs; omega
          have hl2 : 0 < r.stamp.length := List.length_pos_iff.2 hs
          clear hs
          go_wp2_with fail
          refine (rvalid_hd (.slice B r.stamp.length d) r.stamp wc HR1.out.st).mono ?_
          rintro e w5 ⟨rfl, rfl⟩
          cases hv : SM.valid r.stamp with
          | true =>
            have HV := Lib.hid hv
            clear hv
            go_wp2_with fail
            all_goals
              go_ret
              exact bools (by rw [HE.out, HM.out, HC.out, HS.out, HV.out]; rfl) HBW.out
          | false =>
            have HV := Lib.hid hv
            clear hv
            go_wp2_with fail
            all_goals
              go_ret
              exact bools (by rw [HE.out, HM.out, HC.out, HS.out, HV.out]; rfl) HBW.out
    by_cases h6 : r.kind = 6
    · have HM := Lib.hid (show BM.mayUse r = SM.count r.id by unfold BM.mayUse; simp [h6])
      rw [h6] at c0
      clear h1 h2 h3 h4 h5 h6
      go_wp2_with fail
      refine (r_counter r.id wc).mono ?_
      rintro e w5 ⟨rfl, rfl⟩
      go_wp2_with fail
      go_ret
      exact bools (by rw [HE.out, HM.out]) HBW.out
    by_cases h7 : r.kind = 7
    · have HM := Lib.hid (show BM.mayUse r = true by unfold BM.mayUse; simp [h7])
      rw [h7] at c0
      clear h1 h2 h3 h4 h5 h6 h7
      go_wp2_with fail
      go_ret
      exact bools (by rw [HE.out, HM.out]) HBW.out
    · have HM := Lib.hid (show BM.mayUse r = false by unfold BM.mayUse; simp [h1, h2, h3, h4, h5, h6, h7])
      have k1 : (r.kind == 1) = false := by simpa using h1
      have k2 : (r.kind == 2) = false := by simpa using h2
      have k3 : (r.kind == 3) = false := by simpa using h3
      have k4 : (r.kind == 4) = false := by simpa using h4
      have k5 : (r.kind == 5) = false := by simpa using h5
      have k6 : (r.kind == 6) = false := by simpa using h6
      have k7 : (r.kind == 7) = false := by simpa using h7
      clear h1 h2 h3 h4 h5 h6 h7
      go_wp2_with fail
      go_ret
      exact bools (by rw [HE.out, HM.out]) HBW.out
end Go.Proofs.Ytboflkadabagfab
