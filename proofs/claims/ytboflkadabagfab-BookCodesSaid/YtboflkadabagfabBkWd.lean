/- The record of bytes: the package's Decode. -/
import Derived.Test.YtboflkadabagfabBkW11
namespace Go.Proofs.Ytboflkadabagfab
open Go.RowKit
open BM (Gr Rc Bk g0 r0 b0)
set_option linter.unusedVariables false
set_option linter.unusedSimpArgs false
set_option maxRecDepth 100000
theorem cs12BkWd {w : World} {g : Nat} {t : TypeId} {a0 a1 a2 a3 a4 a5 a6 a7 a8 a9 a10 a11 : Value} (h : Whole w g t #[a0, a1, a2, a3, a4, a5, a6, a7, a8, a9, a10, a11]) : w.cell? ⟨g, 0, none⟩ = some a0 ∧ w.cell? ⟨g, 1, none⟩ = some a1 ∧ w.cell? ⟨g, 2, none⟩ = some a2 ∧ w.cell? ⟨g, 3, none⟩ = some a3 ∧ w.cell? ⟨g, 4, none⟩ = some a4 ∧ w.cell? ⟨g, 5, none⟩ = some a5 ∧ w.cell? ⟨g, 6, none⟩ = some a6 ∧ w.cell? ⟨g, 7, none⟩ = some a7 ∧ w.cell? ⟨g, 8, none⟩ = some a8 ∧ w.cell? ⟨g, 9, none⟩ = some a9 ∧ w.cell? ⟨g, 10, none⟩ = some a10 ∧ w.cell? ⟨g, 11, none⟩ = some a11 :=
  ⟨h.cell 0, h.cell 1, h.cell 2, h.cell 3, h.cell 4, h.cell 5, h.cell 6, h.cell 7, h.cell 8, h.cell 9, h.cell 10, h.cell 11⟩
theorem set12 (w : World) (g : Nat) (v0 v1 v2 v3 v4 v5 v6 v7 v8 v9 v10 v11 : Value) : Mod [g] w ((((((((((((w.setCell ⟨g, 0, none⟩ v0).setCell ⟨g, 1, none⟩ v1).setCell ⟨g, 2, none⟩ v2).setCell ⟨g, 3, none⟩ v3).setCell ⟨g, 4, none⟩ v4).setCell ⟨g, 5, none⟩ v5).setCell ⟨g, 6, none⟩ v6).setCell ⟨g, 7, none⟩ v7).setCell ⟨g, 8, none⟩ v8).setCell ⟨g, 9, none⟩ v9).setCell ⟨g, 10, none⟩ v10).setCell ⟨g, 11, none⟩ v11) := (((((((((((((Mod.refl [g] w).store (p := ⟨g, 0, none⟩) (.inl (by simp)) v0).store (p := ⟨g, 1, none⟩) (.inl (by simp)) v1).store (p := ⟨g, 2, none⟩) (.inl (by simp)) v2).store (p := ⟨g, 3, none⟩) (.inl (by simp)) v3).store (p := ⟨g, 4, none⟩) (.inl (by simp)) v4).store (p := ⟨g, 5, none⟩) (.inl (by simp)) v5).store (p := ⟨g, 6, none⟩) (.inl (by simp)) v6).store (p := ⟨g, 7, none⟩) (.inl (by simp)) v7).store (p := ⟨g, 8, none⟩) (.inl (by simp)) v8).store (p := ⟨g, 9, none⟩) (.inl (by simp)) v9).store (p := ⟨g, 10, none⟩) (.inl (by simp)) v10).store (p := ⟨g, 11, none⟩) (.inl (by simp)) v11)
theorem dec_long {b : List UInt8} (h : ¬ b.length ≤ 188) : BM.decode b = (r0, 43) := by
  unfold BM.decode
  rw [if_neg (fun k => h k.1)]
theorem dec_bad {b : List UInt8} (h : ¬ (BM.okRc (BM.taken 4 b) = true ∧ BM.laid (BM.taken 4 b) = b)) : BM.decode b = (r0, 43) := by
  unfold BM.decode
  rw [if_neg (fun k => h k.2)]
theorem dec_good {b : List UInt8} (h0 : b.length ≤ 188) (h1 : BM.okRc (BM.taken 4 b) = true) (h2 : BM.laid (BM.taken 4 b) = b) : BM.decode b = (BM.taken 4 b, 0) := by
  unfold BM.decode
  rw [if_pos ⟨h0, h1, h2⟩]
set_option maxHeartbeats 8000000 in
theorem b_Decode (A : Option Addr) (c : Nat) (b : List UInt8) (w : World) (h : Oct.BytesAt w A b) (hl : b.length ≤ 140737488355328) :
    Calls Try.prog 8 #[.slice A b.length c] w (DecPost w b) := by
  have HX := Lib.hid ((Below.refl _ w).alloc (Nat.le_refl _) (.cells #[.int .i64 0, .int .i64 0, .int .i64 0, .string ⟨#[]⟩, .int .i64 0, .slice none 0 0, .int .i64 0, .int .i64 0, .slice none 0 0, .int .i64 0, .int .i64 0, .int .i64 0] 28))
  have HZ := Lib.hid (Whole.new w 28 #[.int .i64 0, .int .i64 0, .int .i64 0, .string ⟨#[]⟩, .int .i64 0, .slice none 0 0, .int .i64 0, .int .i64 0, .slice none 0 0, .int .i64 0, .int .i64 0, .int .i64 0])
  have HA := Lib.hid h; clear h
  by_cases h188 : b.length ≤ 188
  rotate_left
  · have HE := Lib.hid (dec_long h188)
    obtain ⟨z0, z1, z2, z3, z4, z5, z6, z7, z8, z9, z10, z11⟩ := cs12BkWd HZ.out
    have y0 := HZ.out.frozen 0
    have y1 := HZ.out.frozen 1
    have y2 := HZ.out.frozen 2
    have y3 := HZ.out.frozen 3
    have y4 := HZ.out.frozen 4
    have y5 := HZ.out.frozen 5
    have y6 := HZ.out.frozen 6
    have y7 := HZ.out.frozen 7
    have y8 := HZ.out.frozen 8
    have y9 := HZ.out.frozen 9
    have y10 := HZ.out.frozen 10
    have y11 := HZ.out.frozen 11
    have HXX := HX
    go_enter Try.func8, Try.ntmps8
    go_wp2_with fail
    refine bodyPost_ret (v := .tuple #[.agg z12, .int .i64 43]) (by simp [results, Try.results8, go_sem, z0, z1, z2, z3, z4, z5, z6, z7, z8, z9, z10, z11, z12]) rfl ?_
    unfold DecPost
    rw [HE.out]
    exact ⟨.slice none 0 0, .slice none 0 0, rfl, World.ownsRow_nil _ _ _ _, World.ownsRow_nil _ _ _ _, rw0, HXX.out⟩
  go_enter Try.func8, Try.ntmps8
  go_wp2_with fail
  generalize w.alloc (.cells #[.int .i64 0, .int .i64 0, .int .i64 0, .string ⟨#[]⟩, .int .i64 0, .slice none 0 0, .int .i64 0, .int .i64 0, .slice none 0 0, .int .i64 0, .int .i64 0, .int .i64 0] 28) = w0 at HX HZ ⊢
  refine (b_taken A c b w0 (HA.out.below HX.out) hl).mono ?_
  rintro e w1 ⟨tv, tu, rfl, ho1, ho2, hb⟩
  have HRW := Lib.hid (rw_taken 4 (by omega) b)
  have HDB := Lib.hid (dec_bad (b := b))
  have HDG := Lib.hid (dec_good (b := b))
  generalize BM.taken 4 b = m at ho1 ho2 HRW HDB HDG ⊢
  have HO1 := Lib.hid ho1
  have HO2 := Lib.hid ho2
  obtain ⟨A1, c1, e1, _, _⟩ := own_shape ho1
  obtain ⟨A2, c2, e2, _, _⟩ := own_shape ho2
  subst e1 e2
  have HX1 := Lib.hid (below_on HX.out hb)
  have HZ1 := Lib.hid ((Mod.of_below hb []).whole HZ.out (by simp))
  have HS0 := Lib.hid HX.out.size
  clear ho1 ho2 hb
  have HX2 := Lib.hid (HX1.out.alloc HX1.out.size (.cells (twelve (m) (.slice A1 (m).g.stamp.length c1) (.slice A2 (m).stamp.length c2)) 28))
  have HZ2 := Lib.hid (HZ1.out.alloc (.cells (twelve (m) (.slice A1 (m).g.stamp.length c1) (.slice A2 (m).stamp.length c2)) 28))
  have HK2 := Lib.hid (Whole.new w1 28 (twelve (m) (.slice A1 (m).g.stamp.length c1) (.slice A2 (m).stamp.length c2)))
  have HXA := Lib.hid ((Below.refl _ w1).alloc (Nat.le_refl _) (.cells (twelve (m) (.slice A1 (m).g.stamp.length c1) (.slice A2 (m).stamp.length c2)) 28))
  have HO12 := Lib.hid ((Mod.of_below HXA.out []).own HO1.out (by simp))
  have HO22 := Lib.hid ((Mod.of_below HXA.out []).own HO2.out (by simp))
  unfold twelve at HX2 HZ2 HK2 HXA HO12 HO22
  unfold twelve
  go_wp2_with fail
  generalize w1.alloc (.cells #[.int .i64 m.kind, .int .i64 m.g.id, .int .i64 m.g.holder, .string m.g.path, .int .i64 m.g.mode, .slice A1 m.g.stamp.length c1, .int .i64 m.g.term, .int .i64 m.id, .slice A2 m.stamp.length c2, .int .i64 m.next, .int .i64 m.boots, .int .i64 m.longest] 28) = w2 at HX2 HZ2 HK2 HXA HO12 HO22 ⊢
  generalize w1.heap.size = GB at HK2 ⊢
  have HFT := Lib.hid (fit_own (HRW.out) HO12.out HO22.out)
  refine (b_Encode _ _ (m) w2 HFT.out).mono ?_
  rintro e w3 ⟨A3, c3, rfl, ho3, hb⟩
  have HO3 := Lib.hid ho3
  have HX3 := Lib.hid (below_on HX2.out hb)
  have HZ3 := Lib.hid ((Mod.of_below hb []).whole HZ2.out (by simp))
  have HK3 := Lib.hid ((Mod.of_below hb []).whole HK2.out (by simp))
  have HO13 := Lib.hid ((Mod.of_below hb []).own HO12.out (by simp))
  have HO23 := Lib.hid ((Mod.of_below hb []).own HO22.out (by simp))
  have HA3 := Lib.hid (HA.out.below HX3.out)
  clear ho3 hb
  have HXX := HX3
  obtain ⟨z0, z1, z2, z3, z4, z5, z6, z7, z8, z9, z10, z11⟩ := cs12BkWd HZ3.out
  have y0 := HZ3.out.frozen 0
  have y1 := HZ3.out.frozen 1
  have y2 := HZ3.out.frozen 2
  have y3 := HZ3.out.frozen 3
  have y4 := HZ3.out.frozen 4
  have y5 := HZ3.out.frozen 5
  have y6 := HZ3.out.frozen 6
  have y7 := HZ3.out.frozen 7
  have y8 := HZ3.out.frozen 8
  have y9 := HZ3.out.frozen 9
  have y10 := HZ3.out.frozen 10
  have y11 := HZ3.out.frozen 11
  by_cases hok : BM.okRc (m) = true
  rotate_left
  · have HE := Lib.hid (HDB.out (fun k => hok k.1))
    have HC := Lib.hid (show BM.encode (m) = ([], 43) by unfold BM.encode; rw [if_neg hok])
    clear hok
    rw [HC.out]
    go_wp2_with fail
    refine bodyPost_ret (v := .tuple #[.agg z12, .int .i64 43]) (by simp [results, Try.results8, go_sem, z0, z1, z2, z3, z4, z5, z6, z7, z8, z9, z10, z11, z12]) rfl ?_
    unfold DecPost
    rw [HE.out]
    exact ⟨.slice none 0 0, .slice none 0 0, rfl, World.ownsRow_nil _ _ _ _, World.ownsRow_nil _ _ _ _, rw0, HXX.out.trans ((set12 w3 w.heap.size (.int .i64 0) (.int .i64 0) (.int .i64 0) (.string ⟨#[]⟩) (.int .i64 0) (.slice none 0 0) (.int .i64 0) (.int .i64 0) (.slice none 0 0) (.int .i64 0) (.int .i64 0) (.int .i64 0)).below HXX.out.size (by simp))⟩
  have HC := Lib.hid (show BM.encode (m) = (BM.laid (m), 0) by unfold BM.encode; rw [if_pos hok])
  rw [HC.out] at HO3 ⊢
  have HB3 := Lib.hid (Oct.BytesAt.own HO3.out)
  by_cases heq : BM.laid (m) = b
  rotate_left
  · have HE := Lib.hid (HDB.out (fun k => heq k.2))
    have QE := Lib.hid (BytesEqual_any A3 A c3 c (BM.laid (m)) b w3 HB3.out HA3.out)
    rw [decide_eq_false heq] at QE
    clear heq hok
    go_wp2_with (go_at_call 24; refine QE.out.mono ?_; rintro x w9 ⟨rfl, rfl⟩)
    refine bodyPost_ret (v := .tuple #[.agg z12, .int .i64 43]) (by simp [results, Try.results8, go_sem, z0, z1, z2, z3, z4, z5, z6, z7, z8, z9, z10, z11, z12]) rfl ?_
    unfold DecPost
    rw [HE.out]
    exact ⟨.slice none 0 0, .slice none 0 0, rfl, World.ownsRow_nil _ _ _ _, World.ownsRow_nil _ _ _ _, rw0, HXX.out.trans ((set12 w3 w.heap.size (.int .i64 0) (.int .i64 0) (.int .i64 0) (.string ⟨#[]⟩) (.int .i64 0) (.slice none 0 0) (.int .i64 0) (.int .i64 0) (.slice none 0 0) (.int .i64 0) (.int .i64 0) (.int .i64 0)).below HXX.out.size (by simp))⟩
  have HE := Lib.hid (HDG.out h188 hok heq)
  have QE := Lib.hid (BytesEqual_any A3 A c3 c (BM.laid (m)) b w3 HB3.out HA3.out)
  rw [decide_eq_true heq] at QE
  clear heq hok
  obtain ⟨c0', c1', c2', c3', c4', c5', c6', c7', c8', c9', c10', c11'⟩ := cs12BkWd HK3.out
  go_wp2_with (go_at_call 24; refine QE.out.mono ?_; rintro x w9 ⟨rfl, rfl⟩)
  refine bodyPost_ret (v := .tuple #[.agg (twelve (m) (.slice A1 (m).g.stamp.length c1) (.slice A2 (m).stamp.length c2)), .int .i64 0]) (by simp [results, Try.results8, go_sem, z0, z1, z2, z3, z4, z5, z6, z7, z8, z9, z10, z11, twelve]) rfl ?_
  unfold DecPost
  rw [HE.out]
  have h4 := set12 w3 w.heap.size (.int .i64 m.kind) (.int .i64 m.g.id) (.int .i64 m.g.holder) (.string m.g.path) (.int .i64 m.g.mode) (.slice A1 m.g.stamp.length c1) (.int .i64 m.g.term) (.int .i64 m.id) (.slice A2 m.stamp.length c2) (.int .i64 m.next) (.int .i64 m.boots) (.int .i64 m.longest)
  have hlt : w.heap.size < w0.heap.size := HZ.out.lt
  exact ⟨_, _, rfl, h4.own (own_base8 HO13.out HS0.out) (fun k hk e => by have := (HO13.out.lt k hk).1; simp at e; omega), h4.own (own_base8 HO23.out HS0.out) (fun k hk e => by have := (HO23.out.lt k hk).1; simp at e; omega), HRW.out, HX3.out.trans (h4.below HX3.out.size (by simp))⟩
end Go.Proofs.Ytboflkadabagfab
