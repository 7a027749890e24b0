/- The statements' first calls. -/
import Derived.Test.YtboflkadabagfabBkW31
import Derived.Test.YtboflkadabagfabEach
namespace Go.Proofs.Ytboflkadabagfab
open Go.RowKit
open BM (Gr Rc Bk g0 r0 b0)
set_option linter.unusedVariables false
set_option linter.unusedSimpArgs false
set_option maxRecDepth 100000
def bA : Bk := ⟨1, 1, 0, []⟩
def bC : Bk := ⟨2, 1, 0, [gx]⟩
def bD : Bk := ⟨3, 1, 0, [{ gx with stamp := [2] }]⟩
theorem in_gx : ∀ x ∈ gx.stamp, In64 x := by
  intro x hx
  have e : x = 1 := by simpa [gx] using hx
  rw [e]
  unfold In64
  omega
theorem rw_gx : RW { r0 with kind := 4, g := gx } := ⟨⟨by unfold In64 gx; simp, by unfold In64 gx; simp, by unfold In64 gx; simp, by unfold In64 gx; simp, by show (1 : Nat) ≤ _; omega⟩, ⟨in_gx, by simp [gx]⟩, rw0.st, by unfold In64; simp, rw0.id, rw0.next, rw0.boots, rw0.longest⟩
theorem in_two : ∀ x ∈ ([2] : List Int), In64 x := by
  intro x hx
  have e : x = 2 := by simpa using hx
  rw [e]
  unfold In64
  omega
theorem rw_five : RW { r0 with kind := 5, id := 1, stamp := [2] } := ⟨rw0.g, rw0.gs, ⟨in_two, by simp⟩, by unfold In64; simp, by unfold In64; simp, rw0.next, rw0.boots, rw0.longest⟩
theorem fitB_own {w : World} {base : Nat} {v : Value} {b : Bk} {ps : List (Gr × Value)} (ho : OwnG w base v ps) (hm : ps.map Prod.fst = b.gs) (h1 : In64 b.next) (h2 : In64 b.boots) (h3 : In64 b.longest) : FitB w v b := ⟨by have := ho.hd; rwa [hm] at this, h1, h2, h3⟩
/-- A list of the call's own stays when a book's box is written. -/
theorem OwnG.apart {w w' : World} {base q : Nat} {v : Value} {ps : List (Gr × Value)} {cs : Array Value} {t : TypeId} (h : OwnG w base v ps) (hq : Whole w q t cs) (h1 : t ≠ 26) (h2 : t ≠ 3) (hM : Mod [q] w w') : OwnG w' base v ps :=
  ⟨hM.own h.row (fun k hk hf => by
      have e : k = q := by simpa using hf
      subst e
      exact own_ne h.row hq (Ne.symm h1) hk), fun p hp => hM.own (h.st p hp) (fun k hk hf => by
      have e : k = q := by simpa using hf
      subst e
      exact own_ne (h.st p hp) hq (Ne.symm h2) hk), h.wide, h.room⟩
theorem OwnI.apart {w w' : World} {base q : Nat} {v : Value} {l : List Int} {cs : Array Value} {t : TypeId} (h : OwnI w base v l) (hq : Whole w q t cs) (h2 : t ≠ 3) (hM : Mod [q] w w') : OwnI w' base v l :=
  hM.own h (fun k hk hf => by
      have e : k = q := by simpa using hf
      subst e
      exact own_ne h hq (Ne.symm h2) hk)
theorem four_set {w : World} {q : Nat} {t : TypeId} {cs : Array Value} (h : Whole w q t cs) (h4 : cs.size = 4) (x0 x1 x2 x3 : Value) : Whole ((((w.setCell ⟨q, 0, none⟩ x0).setCell ⟨q, 1, none⟩ x1).setCell ⟨q, 2, none⟩ x2).setCell ⟨q, 3, none⟩ x3) q t #[x0, x1, x2, x3] := by
  have h1 := (((h.store 0 x0).store 1 x1).store 2 x2).store 3 x3
  match cs, h4 with
  | ⟨[a, b, c, d]⟩, _ => exact h1
theorem four_mod (w : World) (q : Nat) (x0 x1 x2 x3 : Value) : Mod [q] w ((((w.setCell ⟨q, 0, none⟩ x0).setCell ⟨q, 1, none⟩ x1).setCell ⟨q, 2, none⟩ x2).setCell ⟨q, 3, none⟩ x3) :=
  ((((Mod.refl _ w).store (p := ⟨q, 0, none⟩) (.inl (by simp)) _).store (p := ⟨q, 1, none⟩) (.inl (by simp)) _).store (p := ⟨q, 2, none⟩) (.inl (by simp)) _).store (p := ⟨q, 3, none⟩) (.inl (by simp)) _
theorem some_cell {w : World} {q i : Nat} {t : TypeId} {cs : Array Value} (h : Whole w q t cs) (hi : i < cs.size) : ∃ v, w.cell? ⟨q, i, none⟩ = some v := ⟨_, (h.cell i).trans (Array.getElem?_eq_getElem hi)⟩
set_option maxHeartbeats 8000000 in
theorem awake_any (w : World) : Calls Try.prog 4 #[] w fun e w' => e = .returned (.bool true) ∧ Below w.heap.size w w' := by
  go_enter Try.func4, Try.ntmps4
  go_wp2_with fail
  refine (b_New w).mono ?_
  rintro e w1 ⟨rfl, hb1⟩
  have HB1 := Lib.hid hb1; clear hb1
  go_wp2_with fail
  refine (b_Apply (.slice none 0 0) (.slice none 0 0) (.slice none 0 0) BM.new { r0 with kind := 7 } w1 (fitB_new w1) (fit_own (base := 0) (by exact ⟨rw0.g, rw0.gs, rw0.st, by unfold In64; simp, rw0.id, rw0.next, rw0.boots, rw0.longest⟩) (World.ownsRow_nil _ _ _ _) (World.ownsRow_nil _ _ _ _))).mono ?_
  have ea : BM.apply BM.new { r0 with kind := 7 } = (bA, 0) := by decide +kernel
  unfold AppPost
  rw [ea]
  clear ea
  rintro e w2 ⟨v2, ps2, rfl, hm2, ho2, hb2⟩
  have HB2 := Lib.hid (below_on HB1.out hb2)
  obtain ⟨AL, nL, hv2, _, _⟩ := own_shape ho2.row
  have HF2 := Lib.hid (fitB_own (b := bA) ho2 hm2 (by unfold In64 bA; simp) (by unfold In64 bA; simp) (by unfold In64 bA; simp))
  subst hv2
  generalize hlL : ps2.length = lL at HF2 ⊢
  clear hm2 ho2 hb2 HB1 hlL
  have HX3 := Lib.hid ((Below.refl _ w2).alloc (Nat.le_refl _) (.cells (four bA (.slice AL lL nL)) 45))
  have HB3 := Lib.hid (below_on HB2.out HX3.out)
  have HFb := Lib.hid (HF2.out.below HX3.out)
  have HKb := Lib.hid (Whole.new w2 45 (four bA (.slice AL lL nL)))
  unfold four at HX3 HB3 HFb HKb
  show _
  unfold four
  go_upto_region 2 with (fail)
  generalize hw3 : w2.alloc (.cells #[.int .i64 bA.next, .int .i64 bA.boots, .int .i64 bA.longest, .slice AL lL nL] 45) = w3 at HX3 HB3 HFb HKb ⊢
  generalize w2.heap.size = p1 at HKb ⊢
  clear hw3 HX3 HF2 HB2
  go_cut [3, 4] (fun s e wx => ∃ q v ps, s = .pointer (some ⟨q, 0, none⟩) ∧ e = .int .i64 0 ∧ w3.heap.size ≤ q ∧ Hid (Whole wx q 45 (four bC v)) ∧ Hid (OwnG wx w3.heap.size v ps) ∧ Hid (ps.map Prod.fst = bC.gs) ∧ Hid (Below w3.heap.size w3 wx))
  case first =>
    have ea : BM.apply bA { r0 with kind := 4, g := gx } = (bC, 0) := by decide +kernel
    have HEA := Lib.hid ea
    clear ea
    have hKeep : ∀ (us : Nat → Value) (w w' : World), Below w.heap.size w w' → ∀ j, known [fun us y => us 0 = .agg (four bA (.slice AL lL nL)), fun us y => ∃ A1 c1, us 1 = .agg (six gx (.slice A1 gx.stamp.length c1)) ∧ OwnI y w3.heap.size (.slice A1 gx.stamp.length c1) gx.stamp, fun us y => ∃ A2 c2, us 2 = .agg (twelve { r0 with kind := 4, g := gx } (.slice A2 gx.stamp.length c2) (.slice none 0 0)) ∧ OwnI y w3.heap.size (.slice A2 gx.stamp.length c2) gx.stamp, fun us y => ∃ A3 n3 c3 p3, us 3 = .tuple #[.agg (four (bC) (.slice A3 n3 c3)), .int .i64 0] ∧ OwnG y w3.heap.size (.slice A3 n3 c3) p3 ∧ p3.map Prod.fst = (bC).gs, fun us y => ∃ A4 n4 c4 p4, us 4 = .tuple #[.agg (four (bC) (.slice A4 n4 c4)), .int .i64 0] ∧ OwnG y w3.heap.size (.slice A4 n4 c4) p4 ∧ p4.map Prod.fst = (bC).gs, fun us y => ∃ A5 n5 c5 p5, us 5 = .agg (four (bC) (.slice A5 n5 c5)) ∧ OwnG y w3.heap.size (.slice A5 n5 c5) p5 ∧ p5.map Prod.fst = (bC).gs, fun us y => us 6 = .int .i64 0, fun us y => ∃ q7 cs7, us 7 = .pointer (some ⟨q7, 0, none⟩) ∧ w3.heap.size ≤ q7 ∧ Whole y q7 45 cs7 ∧ cs7.size = 4, fun us y => ∃ q8 A8 n8 c8 p8, us 7 = .pointer (some ⟨q8, 0, none⟩) ∧ Whole y q8 45 (four (bC) (.slice A8 n8 c8)) ∧ OwnG y w3.heap.size (.slice A8 n8 c8) p8 ∧ p8.map Prod.fst = (bC).gs, fun us y => us 9 = .int .i64 0] j us w → known [fun us y => us 0 = .agg (four bA (.slice AL lL nL)), fun us y => ∃ A1 c1, us 1 = .agg (six gx (.slice A1 gx.stamp.length c1)) ∧ OwnI y w3.heap.size (.slice A1 gx.stamp.length c1) gx.stamp, fun us y => ∃ A2 c2, us 2 = .agg (twelve { r0 with kind := 4, g := gx } (.slice A2 gx.stamp.length c2) (.slice none 0 0)) ∧ OwnI y w3.heap.size (.slice A2 gx.stamp.length c2) gx.stamp, fun us y => ∃ A3 n3 c3 p3, us 3 = .tuple #[.agg (four (bC) (.slice A3 n3 c3)), .int .i64 0] ∧ OwnG y w3.heap.size (.slice A3 n3 c3) p3 ∧ p3.map Prod.fst = (bC).gs, fun us y => ∃ A4 n4 c4 p4, us 4 = .tuple #[.agg (four (bC) (.slice A4 n4 c4)), .int .i64 0] ∧ OwnG y w3.heap.size (.slice A4 n4 c4) p4 ∧ p4.map Prod.fst = (bC).gs, fun us y => ∃ A5 n5 c5 p5, us 5 = .agg (four (bC) (.slice A5 n5 c5)) ∧ OwnG y w3.heap.size (.slice A5 n5 c5) p5 ∧ p5.map Prod.fst = (bC).gs, fun us y => us 6 = .int .i64 0, fun us y => ∃ q7 cs7, us 7 = .pointer (some ⟨q7, 0, none⟩) ∧ w3.heap.size ≤ q7 ∧ Whole y q7 45 cs7 ∧ cs7.size = 4, fun us y => ∃ q8 A8 n8 c8 p8, us 7 = .pointer (some ⟨q8, 0, none⟩) ∧ Whole y q8 45 (four (bC) (.slice A8 n8 c8)) ∧ OwnG y w3.heap.size (.slice A8 n8 c8) p8 ∧ p8.map Prod.fst = (bC).gs, fun us y => us 9 = .int .i64 0] j us w' := by
      intro us w w' hb j h
      match j, h with
      | 0, h => exact h
      | 1, h => (obtain ⟨A1, c1, e1, hO1⟩ : ∃ A1 c1, us 1 = .agg (six gx (.slice A1 gx.stamp.length c1)) ∧ OwnI w w3.heap.size (.slice A1 gx.stamp.length c1) gx.stamp := h; exact (show ∃ A1 c1, us 1 = .agg (six gx (.slice A1 gx.stamp.length c1)) ∧ OwnI w' w3.heap.size (.slice A1 gx.stamp.length c1) gx.stamp from ⟨A1, c1, e1, (Mod.of_below hb []).own hO1 (by simp)⟩))
      | 2, h => (obtain ⟨A2, c2, e2, hO2⟩ : ∃ A2 c2, us 2 = .agg (twelve { r0 with kind := 4, g := gx } (.slice A2 gx.stamp.length c2) (.slice none 0 0)) ∧ OwnI w w3.heap.size (.slice A2 gx.stamp.length c2) gx.stamp := h; exact (show ∃ A2 c2, us 2 = .agg (twelve { r0 with kind := 4, g := gx } (.slice A2 gx.stamp.length c2) (.slice none 0 0)) ∧ OwnI w' w3.heap.size (.slice A2 gx.stamp.length c2) gx.stamp from ⟨A2, c2, e2, (Mod.of_below hb []).own hO2 (by simp)⟩))
      | 3, h => (obtain ⟨A3, n3, c3, p3, e3, hO3, hM3⟩ : ∃ A3 n3 c3 p3, us 3 = .tuple #[.agg (four (bC) (.slice A3 n3 c3)), .int .i64 0] ∧ OwnG w w3.heap.size (.slice A3 n3 c3) p3 ∧ p3.map Prod.fst = (bC).gs := h; exact (show ∃ A3 n3 c3 p3, us 3 = .tuple #[.agg (four (bC) (.slice A3 n3 c3)), .int .i64 0] ∧ OwnG w' w3.heap.size (.slice A3 n3 c3) p3 ∧ p3.map Prod.fst = (bC).gs from ⟨A3, n3, c3, p3, e3, hO3.below hb, hM3⟩))
      | 4, h => (obtain ⟨A4, n4, c4, p4, e4, hO4, hM4⟩ : ∃ A4 n4 c4 p4, us 4 = .tuple #[.agg (four (bC) (.slice A4 n4 c4)), .int .i64 0] ∧ OwnG w w3.heap.size (.slice A4 n4 c4) p4 ∧ p4.map Prod.fst = (bC).gs := h; exact (show ∃ A4 n4 c4 p4, us 4 = .tuple #[.agg (four (bC) (.slice A4 n4 c4)), .int .i64 0] ∧ OwnG w' w3.heap.size (.slice A4 n4 c4) p4 ∧ p4.map Prod.fst = (bC).gs from ⟨A4, n4, c4, p4, e4, hO4.below hb, hM4⟩))
      | 5, h => (obtain ⟨A5, n5, c5, p5, e5, hO5, hM5⟩ : ∃ A5 n5 c5 p5, us 5 = .agg (four (bC) (.slice A5 n5 c5)) ∧ OwnG w w3.heap.size (.slice A5 n5 c5) p5 ∧ p5.map Prod.fst = (bC).gs := h; exact (show ∃ A5 n5 c5 p5, us 5 = .agg (four (bC) (.slice A5 n5 c5)) ∧ OwnG w' w3.heap.size (.slice A5 n5 c5) p5 ∧ p5.map Prod.fst = (bC).gs from ⟨A5, n5, c5, p5, e5, hO5.below hb, hM5⟩))
      | 6, h => exact h
      | 7, h => (obtain ⟨q7, cs7, e7, hq7, hW7, hs7⟩ : ∃ q7 cs7, us 7 = .pointer (some ⟨q7, 0, none⟩) ∧ w3.heap.size ≤ q7 ∧ Whole w q7 45 cs7 ∧ cs7.size = 4 := h; exact (show ∃ q7 cs7, us 7 = .pointer (some ⟨q7, 0, none⟩) ∧ w3.heap.size ≤ q7 ∧ Whole w' q7 45 cs7 ∧ cs7.size = 4 from ⟨q7, cs7, e7, hq7, (Mod.of_below hb []).whole hW7 (by simp), hs7⟩))
      | 8, h => (obtain ⟨q8, A8, n8, c8, p8, e8, hW8, hO8, hM8⟩ : ∃ q8 A8 n8 c8 p8, us 7 = .pointer (some ⟨q8, 0, none⟩) ∧ Whole w q8 45 (four (bC) (.slice A8 n8 c8)) ∧ OwnG w w3.heap.size (.slice A8 n8 c8) p8 ∧ p8.map Prod.fst = (bC).gs := h; exact (show ∃ q8 A8 n8 c8 p8, us 7 = .pointer (some ⟨q8, 0, none⟩) ∧ Whole w' q8 45 (four (bC) (.slice A8 n8 c8)) ∧ OwnG w' w3.heap.size (.slice A8 n8 c8) p8 ∧ p8.map Prod.fst = (bC).gs from ⟨q8, A8, n8, c8, p8, e8, (Mod.of_below hb []).whole hW8 (by simp), hO8.below hb, hM8⟩))
      | 9, h => exact h
      | q + 10, h => exact trivial
    have HKEEP := Lib.hid hKeep
    clear hKeep
    refine region_each (known [fun us y => us 0 = .agg (four bA (.slice AL lL nL)), fun us y => ∃ A1 c1, us 1 = .agg (six gx (.slice A1 gx.stamp.length c1)) ∧ OwnI y w3.heap.size (.slice A1 gx.stamp.length c1) gx.stamp, fun us y => ∃ A2 c2, us 2 = .agg (twelve { r0 with kind := 4, g := gx } (.slice A2 gx.stamp.length c2) (.slice none 0 0)) ∧ OwnI y w3.heap.size (.slice A2 gx.stamp.length c2) gx.stamp, fun us y => ∃ A3 n3 c3 p3, us 3 = .tuple #[.agg (four (bC) (.slice A3 n3 c3)), .int .i64 0] ∧ OwnG y w3.heap.size (.slice A3 n3 c3) p3 ∧ p3.map Prod.fst = (bC).gs, fun us y => ∃ A4 n4 c4 p4, us 4 = .tuple #[.agg (four (bC) (.slice A4 n4 c4)), .int .i64 0] ∧ OwnG y w3.heap.size (.slice A4 n4 c4) p4 ∧ p4.map Prod.fst = (bC).gs, fun us y => ∃ A5 n5 c5 p5, us 5 = .agg (four (bC) (.slice A5 n5 c5)) ∧ OwnG y w3.heap.size (.slice A5 n5 c5) p5 ∧ p5.map Prod.fst = (bC).gs, fun us y => us 6 = .int .i64 0, fun us y => ∃ q7 cs7, us 7 = .pointer (some ⟨q7, 0, none⟩) ∧ w3.heap.size ≤ q7 ∧ Whole y q7 45 cs7 ∧ cs7.size = 4, fun us y => ∃ q8 A8 n8 c8 p8, us 7 = .pointer (some ⟨q8, 0, none⟩) ∧ Whole y q8 45 (four (bC) (.slice A8 n8 c8)) ∧ OwnG y w3.heap.size (.slice A8 n8 c8) p8 ∧ p8.map Prod.fst = (bC).gs, fun us y => us 9 = .int .i64 0]) (fun y => Below w3.heap.size w3 y) (fun y => True) [] [[], [], [1], [0, 1, 2], [0, 1, 2, 3], [0, 1, 2, 3, 4], [0, 1, 2, 3, 4], [], [0, 1, 2, 3, 4, 5, 7], [0, 1, 2, 3, 4, 5, 6, 7, 8]] (by
      intro j us us' y h hF
      match j, h, hF with
      | 0, h, hF => (have hF : us 0 = .agg (four bA (.slice AL lL nL)) := hF; rw [h 0 (.inl rfl)] at hF; exact hF)
      | 1, h, hF => (have hF : ∃ A1 c1, us 1 = .agg (six gx (.slice A1 gx.stamp.length c1)) ∧ OwnI y w3.heap.size (.slice A1 gx.stamp.length c1) gx.stamp := hF; rw [h 1 (.inl rfl)] at hF; exact hF)
      | 2, h, hF => (have hF : ∃ A2 c2, us 2 = .agg (twelve { r0 with kind := 4, g := gx } (.slice A2 gx.stamp.length c2) (.slice none 0 0)) ∧ OwnI y w3.heap.size (.slice A2 gx.stamp.length c2) gx.stamp := hF; rw [h 2 (.inl rfl)] at hF; exact hF)
      | 3, h, hF => (have hF : ∃ A3 n3 c3 p3, us 3 = .tuple #[.agg (four (bC) (.slice A3 n3 c3)), .int .i64 0] ∧ OwnG y w3.heap.size (.slice A3 n3 c3) p3 ∧ p3.map Prod.fst = (bC).gs := hF; rw [h 3 (.inl rfl)] at hF; exact hF)
      | 4, h, hF => (have hF : ∃ A4 n4 c4 p4, us 4 = .tuple #[.agg (four (bC) (.slice A4 n4 c4)), .int .i64 0] ∧ OwnG y w3.heap.size (.slice A4 n4 c4) p4 ∧ p4.map Prod.fst = (bC).gs := hF; rw [h 4 (.inl rfl)] at hF; exact hF)
      | 5, h, hF => (have hF : ∃ A5 n5 c5 p5, us 5 = .agg (four (bC) (.slice A5 n5 c5)) ∧ OwnG y w3.heap.size (.slice A5 n5 c5) p5 ∧ p5.map Prod.fst = (bC).gs := hF; rw [h 5 (.inl rfl)] at hF; exact hF)
      | 6, h, hF => (have hF : us 6 = .int .i64 0 := hF; rw [h 6 (.inl rfl)] at hF; exact hF)
      | 7, h, hF => (have hF : ∃ q7 cs7, us 7 = .pointer (some ⟨q7, 0, none⟩) ∧ w3.heap.size ≤ q7 ∧ Whole y q7 45 cs7 ∧ cs7.size = 4 := hF; rw [h 7 (.inl rfl)] at hF; exact hF)
      | 8, h, hF => (have hF : ∃ q8 A8 n8 c8 p8, us 7 = .pointer (some ⟨q8, 0, none⟩) ∧ Whole y q8 45 (four (bC) (.slice A8 n8 c8)) ∧ OwnG y w3.heap.size (.slice A8 n8 c8) p8 ∧ p8.map Prod.fst = (bC).gs := hF; rw [h 7 (.inr (by decide))] at hF; exact hF)
      | 9, h, hF => (have hF : us 9 = .int .i64 0 := hF; rw [h 9 (.inl rfl)] at hF; exact hF)
      | q + 10, h, hF => exact trivial) (by kernel_rfl) rfl (by kernel_rfl) (by exact (Below.refl _ _).drew) (trivial) (Z := fun vs => Act.put (Act.put (Act.put (Act.put (Act.put (Act.put (Act.put (Act.put (Act.put (Act.put (_) (some 20) (vs 0)) (some 21) (vs 1)) (some 22) (vs 2)) (some 23) (vs 3)) (some 19) (vs 4)) (some 24) (vs 5)) (some 25) (vs 6)) (some 3) (vs 7)) none (vs 8)) (some 4) (vs 9)) (fun _ => rfl) ?_ ?_
    · skip
      refine EachAll.snoc (i := 9) (o := { dst := some 4, op := Op.assign (Operand.tmp 25), type := 31, pos := _, after := #[{ on := 6, ground := Ground.data }, { on := 8, ground := Ground.chain }, { on := 0, ground := Ground.phase }, { on := 1, ground := Ground.phase }, { on := 2, ground := Ground.phase }, { on := 3, ground := Ground.phase }, { on := 4, ground := Ground.phase }, { on := 5, ground := Ground.phase }, { on := 6, ground := Ground.phase }, { on := 7, ground := Ground.phase }, { on := 8, ground := Ground.phase }], guard := none }) (l := [0, 1, 2, 3, 4, 5, 6, 7, 8]) (A := fun vs => Act.put (Act.put (Act.put (Act.put (Act.put (Act.put (Act.put (Act.put (Act.put (_) none (vs 8)) (some 3) (vs 7)) (some 25) (vs 6)) (some 24) (vs 5)) (some 19) (vs 4)) (some 23) (vs 3)) (some 22) (vs 2)) (some 21) (vs 1)) (some 20) (vs 0)) ?_ rfl rfl (fun _ => rfl) ?_
      rotate_left
      · intro vs w hI hJ hA K hK
        have hB := hI
        clear hJ
        have e6 : vs 6 = .int .i64 0 := hA 6 (by decide)
        clear hA
        refine Box.mk ?_
        try simp only [e6, allPut, puts, Act.put, List.setIfInBounds_toArray, List.set_cons_zero, List.set_cons_succ] at hK ⊢
        go_simp
        exact hK.out _ _ hB (show (updv vs 9 _) 9 = .int .i64 0 from rfl) (fun _ _ _ h => h) (fun _ h => h)
      refine EachAll.snoc (i := 8) (o := { dst := none, op := Op.store 45 (Operand.tmp 3) (Operand.tmp 24), type := 0, pos := _, after := #[{ on := 7, ground := Ground.data }, { on := 5, ground := Ground.data }, { on := 3, ground := Ground.chain }, { on := 0, ground := Ground.phase }, { on := 1, ground := Ground.phase }, { on := 2, ground := Ground.phase }, { on := 3, ground := Ground.phase }, { on := 4, ground := Ground.phase }, { on := 5, ground := Ground.phase }, { on := 6, ground := Ground.textOnly Departure.lateStores }, { on := 7, ground := Ground.phase }], guard := none }) (l := [0, 1, 2, 3, 4, 5, 7]) (A := fun vs => Act.put (Act.put (Act.put (Act.put (Act.put (Act.put (Act.put (_) (some 3) (vs 7)) (some 24) (vs 5)) (some 19) (vs 4)) (some 23) (vs 3)) (some 22) (vs 2)) (some 21) (vs 1)) (some 20) (vs 0)) ?_ rfl rfl (fun _ => rfl) ?_
      rotate_left
      · intro vs w hI hJ hA K hK
        have hB := hI
        clear hJ
        have hF5 : ∃ A5 n5 c5 p5, vs 5 = .agg (four (bC) (.slice A5 n5 c5)) ∧ OwnG w w3.heap.size (.slice A5 n5 c5) p5 ∧ p5.map Prod.fst = (bC).gs := hA 5 (by decide)
        obtain ⟨A5, n5, c5, p5, e5, hO5, hM5⟩ := hF5
        have hF7 : ∃ q7 cs7, vs 7 = .pointer (some ⟨q7, 0, none⟩) ∧ w3.heap.size ≤ q7 ∧ Whole w q7 45 cs7 ∧ cs7.size = 4 := hA 7 (by decide)
        obtain ⟨q7, cs7, e7, hq7, hW7, hs7⟩ := hF7
        clear hA
        refine Box.mk ?_
        try simp only [e5, e7, allPut, puts, Act.put, List.setIfInBounds_toArray, List.set_cons_zero, List.set_cons_succ] at hK ⊢
        obtain ⟨x0, y0⟩ := some_cell hW7 (i := 0) (by omega)
        obtain ⟨x1, y1⟩ := some_cell hW7 (i := 1) (by omega)
        obtain ⟨x2, y2⟩ := some_cell hW7 (i := 2) (by omega)
        obtain ⟨x3, y3⟩ := some_cell hW7 (i := 3) (by omega)
        have g0 := hW7.frozen 0
        have g1 := hW7.frozen 1
        have g2 := hW7.frozen 2
        have g3 := hW7.frozen 3
        have hM := four_mod w q7 (.int .i64 (bC).next) (.int .i64 (bC).boots) (.int .i64 (bC).longest) (.slice A5 n5 c5)
        have hB8 : Below w3.heap.size w3 ((((w.setCell ⟨q7, 0, none⟩ (.int .i64 (bC).next)).setCell ⟨q7, 1, none⟩ (.int .i64 (bC).boots)).setCell ⟨q7, 2, none⟩ (.int .i64 (bC).longest)).setCell ⟨q7, 3, none⟩ (.slice A5 n5 c5)) := hB.trans (hM.below hB.size (by simpa using hq7))
        have hW9 := four_set hW7 hs7 (.int .i64 (bC).next) (.int .i64 (bC).boots) (.int .i64 (bC).longest) (.slice A5 n5 c5)
        have hO9 := hO5.apart hW7 (by decide) (by decide) hM
        generalize hSS : ((((w.setCell ⟨q7, 0, none⟩ (.int .i64 (bC).next)).setCell ⟨q7, 1, none⟩ (.int .i64 (bC).boots)).setCell ⟨q7, 2, none⟩ (.int .i64 (bC).longest)).setCell ⟨q7, 3, none⟩ (.slice A5 n5 c5)) = wS at hM hB8 hW9 hO9
        have hP : ∀ j, j ≠ 8 → 8 ∉ ([[], [], [1], [0, 1, 2], [0, 1, 2, 3], [0, 1, 2, 3, 4], [0, 1, 2, 3, 4], [], [0, 1, 2, 3, 4, 5, 7], [0, 1, 2, 3, 4, 5, 6, 7, 8]] : List (List Nat)).getD j [] → known [fun us y => us 0 = .agg (four bA (.slice AL lL nL)), fun us y => ∃ A1 c1, us 1 = .agg (six gx (.slice A1 gx.stamp.length c1)) ∧ OwnI y w3.heap.size (.slice A1 gx.stamp.length c1) gx.stamp, fun us y => ∃ A2 c2, us 2 = .agg (twelve { r0 with kind := 4, g := gx } (.slice A2 gx.stamp.length c2) (.slice none 0 0)) ∧ OwnI y w3.heap.size (.slice A2 gx.stamp.length c2) gx.stamp, fun us y => ∃ A3 n3 c3 p3, us 3 = .tuple #[.agg (four (bC) (.slice A3 n3 c3)), .int .i64 0] ∧ OwnG y w3.heap.size (.slice A3 n3 c3) p3 ∧ p3.map Prod.fst = (bC).gs, fun us y => ∃ A4 n4 c4 p4, us 4 = .tuple #[.agg (four (bC) (.slice A4 n4 c4)), .int .i64 0] ∧ OwnG y w3.heap.size (.slice A4 n4 c4) p4 ∧ p4.map Prod.fst = (bC).gs, fun us y => ∃ A5 n5 c5 p5, us 5 = .agg (four (bC) (.slice A5 n5 c5)) ∧ OwnG y w3.heap.size (.slice A5 n5 c5) p5 ∧ p5.map Prod.fst = (bC).gs, fun us y => us 6 = .int .i64 0, fun us y => ∃ q7 cs7, us 7 = .pointer (some ⟨q7, 0, none⟩) ∧ w3.heap.size ≤ q7 ∧ Whole y q7 45 cs7 ∧ cs7.size = 4, fun us y => ∃ q8 A8 n8 c8 p8, us 7 = .pointer (some ⟨q8, 0, none⟩) ∧ Whole y q8 45 (four (bC) (.slice A8 n8 c8)) ∧ OwnG y w3.heap.size (.slice A8 n8 c8) p8 ∧ p8.map Prod.fst = (bC).gs, fun us y => us 9 = .int .i64 0] j vs w → known [fun us y => us 0 = .agg (four bA (.slice AL lL nL)), fun us y => ∃ A1 c1, us 1 = .agg (six gx (.slice A1 gx.stamp.length c1)) ∧ OwnI y w3.heap.size (.slice A1 gx.stamp.length c1) gx.stamp, fun us y => ∃ A2 c2, us 2 = .agg (twelve { r0 with kind := 4, g := gx } (.slice A2 gx.stamp.length c2) (.slice none 0 0)) ∧ OwnI y w3.heap.size (.slice A2 gx.stamp.length c2) gx.stamp, fun us y => ∃ A3 n3 c3 p3, us 3 = .tuple #[.agg (four (bC) (.slice A3 n3 c3)), .int .i64 0] ∧ OwnG y w3.heap.size (.slice A3 n3 c3) p3 ∧ p3.map Prod.fst = (bC).gs, fun us y => ∃ A4 n4 c4 p4, us 4 = .tuple #[.agg (four (bC) (.slice A4 n4 c4)), .int .i64 0] ∧ OwnG y w3.heap.size (.slice A4 n4 c4) p4 ∧ p4.map Prod.fst = (bC).gs, fun us y => ∃ A5 n5 c5 p5, us 5 = .agg (four (bC) (.slice A5 n5 c5)) ∧ OwnG y w3.heap.size (.slice A5 n5 c5) p5 ∧ p5.map Prod.fst = (bC).gs, fun us y => us 6 = .int .i64 0, fun us y => ∃ q7 cs7, us 7 = .pointer (some ⟨q7, 0, none⟩) ∧ w3.heap.size ≤ q7 ∧ Whole y q7 45 cs7 ∧ cs7.size = 4, fun us y => ∃ q8 A8 n8 c8 p8, us 7 = .pointer (some ⟨q8, 0, none⟩) ∧ Whole y q8 45 (four (bC) (.slice A8 n8 c8)) ∧ OwnG y w3.heap.size (.slice A8 n8 c8) p8 ∧ p8.map Prod.fst = (bC).gs, fun us y => us 9 = .int .i64 0] j vs wS := by
          intro j h1 h2 h
          match j, h1, h2, h with
          | 0, _, _, h => exact h
          | 1, _, _, h => (obtain ⟨A, c, e, hO⟩ : ∃ A1 c1, vs 1 = .agg (six gx (.slice A1 gx.stamp.length c1)) ∧ OwnI w w3.heap.size (.slice A1 gx.stamp.length c1) gx.stamp := h; exact (show ∃ A1 c1, vs 1 = .agg (six gx (.slice A1 gx.stamp.length c1)) ∧ OwnI wS w3.heap.size (.slice A1 gx.stamp.length c1) gx.stamp from ⟨A, c, e, hO.apart hW7 (by decide) hM⟩))
          | 2, _, _, h => (obtain ⟨A, c, e, hO⟩ : ∃ A2 c2, vs 2 = .agg (twelve { r0 with kind := 4, g := gx } (.slice A2 gx.stamp.length c2) (.slice none 0 0)) ∧ OwnI w w3.heap.size (.slice A2 gx.stamp.length c2) gx.stamp := h; exact (show ∃ A2 c2, vs 2 = .agg (twelve { r0 with kind := 4, g := gx } (.slice A2 gx.stamp.length c2) (.slice none 0 0)) ∧ OwnI wS w3.heap.size (.slice A2 gx.stamp.length c2) gx.stamp from ⟨A, c, e, hO.apart hW7 (by decide) hM⟩))
          | 3, _, _, h => (obtain ⟨A, n, c, p, e, hO, hm⟩ : ∃ A3 n3 c3 p3, vs 3 = .tuple #[.agg (four (bC) (.slice A3 n3 c3)), .int .i64 0] ∧ OwnG w w3.heap.size (.slice A3 n3 c3) p3 ∧ p3.map Prod.fst = (bC).gs := h; exact (show ∃ A3 n3 c3 p3, vs 3 = .tuple #[.agg (four (bC) (.slice A3 n3 c3)), .int .i64 0] ∧ OwnG wS w3.heap.size (.slice A3 n3 c3) p3 ∧ p3.map Prod.fst = (bC).gs from ⟨A, n, c, p, e, hO.apart hW7 (by decide) (by decide) hM, hm⟩))
          | 4, _, _, h => (obtain ⟨A, n, c, p, e, hO, hm⟩ : ∃ A4 n4 c4 p4, vs 4 = .tuple #[.agg (four (bC) (.slice A4 n4 c4)), .int .i64 0] ∧ OwnG w w3.heap.size (.slice A4 n4 c4) p4 ∧ p4.map Prod.fst = (bC).gs := h; exact (show ∃ A4 n4 c4 p4, vs 4 = .tuple #[.agg (four (bC) (.slice A4 n4 c4)), .int .i64 0] ∧ OwnG wS w3.heap.size (.slice A4 n4 c4) p4 ∧ p4.map Prod.fst = (bC).gs from ⟨A, n, c, p, e, hO.apart hW7 (by decide) (by decide) hM, hm⟩))
          | 5, _, _, h => (obtain ⟨A, n, c, p, e, hO, hm⟩ : ∃ A5 n5 c5 p5, vs 5 = .agg (four (bC) (.slice A5 n5 c5)) ∧ OwnG w w3.heap.size (.slice A5 n5 c5) p5 ∧ p5.map Prod.fst = (bC).gs := h; exact (show ∃ A5 n5 c5 p5, vs 5 = .agg (four (bC) (.slice A5 n5 c5)) ∧ OwnG wS w3.heap.size (.slice A5 n5 c5) p5 ∧ p5.map Prod.fst = (bC).gs from ⟨A, n, c, p, e, hO.apart hW7 (by decide) (by decide) hM, hm⟩))
          | 6, _, _, h => exact h
          | 7, _, _, h => exact (show ∃ q7 cs7, vs 7 = .pointer (some ⟨q7, 0, none⟩) ∧ w3.heap.size ≤ q7 ∧ Whole wS q7 45 cs7 ∧ cs7.size = 4 from ⟨q7, _, e7, hq7, hW9, rfl⟩)
          | 8, h1, _, _ => exact absurd rfl h1
          | 9, _, _, h => exact h
          | q + 10, _, _, h => exact trivial
        clear e5
        unfold four at hK ⊢
        go_simp
        try rw [hSS]
        exact hK.out undef _ hB8 (show ∃ q8 A8 n8 c8 p8, (updv vs 8 undef) 7 = .pointer (some ⟨q8, 0, none⟩) ∧ Whole wS q8 45 (four (bC) (.slice A8 n8 c8)) ∧ OwnG wS w3.heap.size (.slice A8 n8 c8) p8 ∧ p8.map Prod.fst = (bC).gs from ⟨q7, A5, n5, c5, p5, e7, hW9, hO9, hM5⟩) hP (fun _ h => h)
      refine EachAll.snoc (i := 7) (o := { dst := some 3, op := Op.alloc 45, type := 0, pos := _, after := #[], guard := none }) (l := []) (A := fun vs => _) ?_ rfl rfl (fun _ => rfl) ?_
      rotate_left
      · intro vs w hI hJ hA K hK
        have hB := hI
        clear hJ
        clear hA
        refine Box.mk ?_
        try simp only [allPut, puts, Act.put, List.setIfInBounds_toArray, List.set_cons_zero, List.set_cons_succ] at hK ⊢
        go_simp
        have hb := (Below.refl _ w).alloc (Nat.le_refl _) (.cells z4 45)
        unfold z4 at hb
        exact hK.out _ _ (below_on hB hb) (show ∃ q7 cs7, (updv vs 7 _) 7 = .pointer (some ⟨q7, 0, none⟩) ∧ w3.heap.size ≤ q7 ∧ Whole _ q7 45 cs7 ∧ cs7.size = 4 from ⟨w.heap.size, _, rfl, hB.size, (Whole.new w _ _), rfl⟩) (fun j _ _ h => HKEEP.out vs w _ hb j h) (fun _ h => h)
      refine EachAll.snoc (i := 6) (o := { dst := some 25, op := Op.extract (Operand.tmp 19) 1, type := 31, pos := _, after := #[{ on := 4, ground := Ground.data }, { on := 8, ground := Ground.gcOnly Departure.lateStores }], guard := none }) (l := [0, 1, 2, 3, 4]) (A := fun vs => Act.put (Act.put (Act.put (Act.put (Act.put (_) (some 19) (vs 4)) (some 23) (vs 3)) (some 22) (vs 2)) (some 21) (vs 1)) (some 20) (vs 0)) ?_ rfl rfl (fun _ => rfl) ?_
      rotate_left
      · intro vs w hI hJ hA K hK
        have hB := hI
        clear hJ
        have hF4 : ∃ A4 n4 c4 p4, vs 4 = .tuple #[.agg (four (bC) (.slice A4 n4 c4)), .int .i64 0] ∧ OwnG w w3.heap.size (.slice A4 n4 c4) p4 ∧ p4.map Prod.fst = (bC).gs := hA 4 (by decide)
        obtain ⟨A4, n4, c4, p4, e4, hO4, hM4⟩ := hF4
        clear hA
        refine Box.mk ?_
        try simp only [e4, allPut, puts, Act.put, List.setIfInBounds_toArray, List.set_cons_zero, List.set_cons_succ] at hK ⊢
        unfold four
        go_simp
        exact hK.out _ _ hB (show (updv vs 6 _) 6 = .int .i64 0 from rfl) (fun _ _ _ h => h) (fun _ h => h)
      refine EachAll.snoc (i := 5) (o := { dst := some 24, op := Op.extract (Operand.tmp 19) 0, type := 45, pos := _, after := #[{ on := 4, ground := Ground.data }], guard := none }) (l := [0, 1, 2, 3, 4]) (A := fun vs => Act.put (Act.put (Act.put (Act.put (Act.put (_) (some 19) (vs 4)) (some 23) (vs 3)) (some 22) (vs 2)) (some 21) (vs 1)) (some 20) (vs 0)) ?_ rfl rfl (fun _ => rfl) ?_
      rotate_left
      · intro vs w hI hJ hA K hK
        have hB := hI
        clear hJ
        have hF4 : ∃ A4 n4 c4 p4, vs 4 = .tuple #[.agg (four (bC) (.slice A4 n4 c4)), .int .i64 0] ∧ OwnG w w3.heap.size (.slice A4 n4 c4) p4 ∧ p4.map Prod.fst = (bC).gs := hA 4 (by decide)
        obtain ⟨A4, n4, c4, p4, e4, hO4, hM4⟩ := hF4
        clear hA
        refine Box.mk ?_
        try simp only [e4, allPut, puts, Act.put, List.setIfInBounds_toArray, List.set_cons_zero, List.set_cons_succ] at hK ⊢
        unfold four
        go_simp
        exact hK.out _ _ hB (show ∃ A5 n5 c5 p5, (updv vs 5 _) 5 = .agg (four (bC) (.slice A5 n5 c5)) ∧ OwnG _ w3.heap.size (.slice A5 n5 c5) p5 ∧ p5.map Prod.fst = (bC).gs from ⟨A4, n4, c4, p4, rfl, hO4, hM4⟩) (fun _ _ _ h => h) (fun _ h => h)
      refine EachAll.snoc (i := 4) (o := { dst := some 19, op := Op.move (Operand.tmp 23), type := 46, pos := _, after := #[{ on := 3, ground := Ground.data }], guard := none }) (l := [0, 1, 2, 3]) (A := fun vs => Act.put (Act.put (Act.put (Act.put (_) (some 23) (vs 3)) (some 22) (vs 2)) (some 21) (vs 1)) (some 20) (vs 0)) ?_ rfl rfl (fun _ => rfl) ?_
      rotate_left
      · intro vs w hI hJ hA K hK
        have hB := hI
        clear hJ
        have hF3 : ∃ A3 n3 c3 p3, vs 3 = .tuple #[.agg (four (bC) (.slice A3 n3 c3)), .int .i64 0] ∧ OwnG w w3.heap.size (.slice A3 n3 c3) p3 ∧ p3.map Prod.fst = (bC).gs := hA 3 (by decide)
        obtain ⟨A3, n3, c3, p3, e3, hO3, hM3⟩ := hF3
        clear hA
        refine Box.mk ?_
        try simp only [e3, allPut, puts, Act.put, List.setIfInBounds_toArray, List.set_cons_zero, List.set_cons_succ] at hK ⊢
        go_simp
        exact hK.out _ _ hB (show ∃ A4 n4 c4 p4, (updv vs 4 _) 4 = .tuple #[.agg (four (bC) (.slice A4 n4 c4)), .int .i64 0] ∧ OwnG _ w3.heap.size (.slice A4 n4 c4) p4 ∧ p4.map Prod.fst = (bC).gs from ⟨A3, n3, c3, p3, rfl, hO3, hM3⟩) (fun _ _ _ h => h) (fun _ h => h)
      refine EachAll.snoc (i := 3) (o := { dst := some 23, op := Op.call { callee := Callee.value (Operand.func 11), args := #[Operand.tmp 20, Operand.tmp 22], argTypes := #[45, 28] }, type := 46, pos := _, after := #[{ on := 0, ground := Ground.data }, { on := 2, ground := Ground.data }, { on := 1, ground := Ground.chain }], guard := none }) (l := [0, 1, 2]) (A := fun vs => Act.put (Act.put (Act.put (_) (some 22) (vs 2)) (some 21) (vs 1)) (some 20) (vs 0)) ?_ rfl rfl (fun _ => rfl) ?_
      rotate_left
      · intro vs w hI hJ hA K hK
        have hB := hI
        clear hJ
        have e0 : vs 0 = .agg (four bA (.slice AL lL nL)) := hA 0 (by decide)
        have hF2 : ∃ A2 c2, vs 2 = .agg (twelve { r0 with kind := 4, g := gx } (.slice A2 gx.stamp.length c2) (.slice none 0 0)) ∧ OwnI w w3.heap.size (.slice A2 gx.stamp.length c2) gx.stamp := hA 2 (by decide)
        obtain ⟨A2, c2, e2, hO2⟩ := hF2
        clear hA
        refine Box.mk ?_
        try simp only [e0, e2, allPut, puts, Act.put, List.setIfInBounds_toArray, List.set_cons_zero, List.set_cons_succ] at hK ⊢
        clear e0 e2
        go_simp
        have hfr : FitR w (.slice A2 gx.stamp.length c2) (.slice none 0 0) { r0 with kind := 4, g := gx } := fit_own (base := 0) rw_gx (own_low hO2 (Nat.zero_le _)) (World.ownsRow_nil _ _ _ _)
        with_reducible refine (b_Apply (.slice AL lL nL) (.slice A2 gx.stamp.length c2) (.slice none 0 0) bA { r0 with kind := 4, g := gx } w (HFb.out.below hB) hfr).mono ?_
        unfold AppPost
        rw [HEA.out]
        rintro e w5 ⟨v5, p5, rfl, hm, ho, hb⟩
        obtain ⟨A5, c5, hv, _, _⟩ := own_shape ho.row
        subst hv
        go_simp
        exact hK.out _ _ (below_on hB hb) (show ∃ A3 n3 c3 p3, (updv vs 3 _) 3 = .tuple #[.agg (four (bC) (.slice A3 n3 c3)), .int .i64 0] ∧ OwnG w5 w3.heap.size (.slice A3 n3 c3) p3 ∧ p3.map Prod.fst = (bC).gs from ⟨A5, _, c5, p5, rfl, (ho.low hB.size), hm⟩) (fun j _ _ h => HKEEP.out vs w w5 hb j h) (fun _ h => h)
      refine EachAll.snoc (i := 2) (o := { dst := some 22, op := Op.build 28 #[(0, Operand.const (Value.int IntKind.i64 4)), (1, Operand.tmp 21)], type := 28, pos := _, after := #[{ on := 1, ground := Ground.data }], guard := none }) (l := [1]) (A := fun vs => Act.put (_) (some 21) (vs 1)) ?_ rfl rfl (fun _ => rfl) ?_
      rotate_left
      · intro vs w hI hJ hA K hK
        have hB := hI
        clear hJ
        have hF1 : ∃ A1 c1, vs 1 = .agg (six gx (.slice A1 gx.stamp.length c1)) ∧ OwnI w w3.heap.size (.slice A1 gx.stamp.length c1) gx.stamp := hA 1 (by decide)
        obtain ⟨A1, c1, e1, hO1⟩ := hF1
        clear hA
        refine Box.mk ?_
        try simp only [e1, allPut, puts, Act.put, List.setIfInBounds_toArray, List.set_cons_zero, List.set_cons_succ] at hK ⊢
        unfold six
        go_simp
        exact hK.out _ _ hB (show ∃ A2 c2, (updv vs 2 _) 2 = .agg (twelve { r0 with kind := 4, g := gx } (.slice A2 gx.stamp.length c2) (.slice none 0 0)) ∧ OwnI _ w3.heap.size (.slice A2 gx.stamp.length c2) gx.stamp from ⟨A1, c1, rfl, hO1⟩) (fun _ _ _ h => h) (fun _ h => h)
      refine EachAll.snoc (i := 1) (o := { dst := some 21, op := Op.call { callee := Callee.value (Operand.func 13), args := #[], argTypes := #[] }, type := 26, pos := _, after := #[], guard := none }) (l := []) (A := fun vs => _) ?_ rfl rfl (fun _ => rfl) ?_
      rotate_left
      · intro vs w hI hJ hA K hK
        have hB := hI
        clear hJ
        clear hA
        refine Box.mk ?_
        try simp only [allPut, puts, Act.put, List.setIfInBounds_toArray, List.set_cons_zero, List.set_cons_succ] at hK ⊢
        go_simp
        with_reducible refine (law_grant _).mono ?_
        rintro e w5 ⟨v5, rfl, ho, hb⟩
        obtain ⟨A5, c5, hv, _, _⟩ := own_shape ho
        subst hv
        unfold six
        go_simp
        exact hK.out _ _ (below_on hB hb) (show ∃ A1 c1, (updv vs 1 _) 1 = .agg (six gx (.slice A1 gx.stamp.length c1)) ∧ OwnI w5 w3.heap.size (.slice A1 gx.stamp.length c1) gx.stamp from ⟨A5, c5, rfl, (own_low ho hB.size)⟩) (fun j _ _ h => HKEEP.out vs w w5 hb j h) (fun _ h => h)
      refine EachAll.snoc (i := 0) (o := { dst := some 20, op := Op.load 45 (Operand.tmp 1), type := 45, pos := _, after := #[], guard := none }) (l := []) (A := fun vs => _) ?_ rfl rfl (fun _ => rfl) ?_
      rotate_left
      · intro vs w hI hJ hA K hK
        have hB := hI
        clear hJ
        clear hA
        refine Box.mk ?_
        try simp only [allPut, puts, Act.put, List.setIfInBounds_toArray, List.set_cons_zero, List.set_cons_succ] at hK ⊢
        have hW := (Mod.of_below hB []).whole HKb.out (by simp)
        obtain ⟨x0, x1, x2, x3⟩ := four_cells hW
        skip
        simp only [bA] at x0 x1 x2 x3
        go_simp
        exact hK.out _ _ hB (show (updv vs 0 _) 0 = .agg (four bA (.slice AL lL nL)) from rfl) (fun _ _ _ h => h) (fun _ h => h)
      exact EachAll.nil
    · intro vs w hI hall
      have hB := hI
      have e0 : vs 0 = .agg (four bA (.slice AL lL nL)) := hall 0 (by decide)
      have hF1 : ∃ A1 c1, vs 1 = .agg (six gx (.slice A1 gx.stamp.length c1)) ∧ OwnI w w3.heap.size (.slice A1 gx.stamp.length c1) gx.stamp := hall 1 (by decide)
      obtain ⟨A1, c1, e1, hO1⟩ := hF1
      have hF2 : ∃ A2 c2, vs 2 = .agg (twelve { r0 with kind := 4, g := gx } (.slice A2 gx.stamp.length c2) (.slice none 0 0)) ∧ OwnI w w3.heap.size (.slice A2 gx.stamp.length c2) gx.stamp := hall 2 (by decide)
      obtain ⟨A2, c2, e2, hO2⟩ := hF2
      have hF3 : ∃ A3 n3 c3 p3, vs 3 = .tuple #[.agg (four (bC) (.slice A3 n3 c3)), .int .i64 0] ∧ OwnG w w3.heap.size (.slice A3 n3 c3) p3 ∧ p3.map Prod.fst = (bC).gs := hall 3 (by decide)
      obtain ⟨A3, n3, c3, p3, e3, hO3, hM3⟩ := hF3
      have hF4 : ∃ A4 n4 c4 p4, vs 4 = .tuple #[.agg (four (bC) (.slice A4 n4 c4)), .int .i64 0] ∧ OwnG w w3.heap.size (.slice A4 n4 c4) p4 ∧ p4.map Prod.fst = (bC).gs := hall 4 (by decide)
      obtain ⟨A4, n4, c4, p4, e4, hO4, hM4⟩ := hF4
      have hF5 : ∃ A5 n5 c5 p5, vs 5 = .agg (four (bC) (.slice A5 n5 c5)) ∧ OwnG w w3.heap.size (.slice A5 n5 c5) p5 ∧ p5.map Prod.fst = (bC).gs := hall 5 (by decide)
      obtain ⟨A5, n5, c5, p5, e5, hO5, hM5⟩ := hF5
      have e6 : vs 6 = .int .i64 0 := hall 6 (by decide)
      have hF7 : ∃ q7 cs7, vs 7 = .pointer (some ⟨q7, 0, none⟩) ∧ w3.heap.size ≤ q7 ∧ Whole w q7 45 cs7 ∧ cs7.size = 4 := hall 7 (by decide)
      obtain ⟨q7, cs7, e7, hq7, hW7, hs7⟩ := hF7
      have hF8 : ∃ q8 A8 n8 c8 p8, vs 7 = .pointer (some ⟨q8, 0, none⟩) ∧ Whole w q8 45 (four (bC) (.slice A8 n8 c8)) ∧ OwnG w w3.heap.size (.slice A8 n8 c8) p8 ∧ p8.map Prod.fst = (bC).gs := hall 8 (by decide)
      obtain ⟨q8, A8, n8, c8, p8, e8, hW8, hO8, hM8⟩ := hF8
      have e9 : vs 9 = .int .i64 0 := hall 9 (by decide)
      clear hall HKEEP
      refine Box.mk ?_
      simp only [e0, e1, e2, e3, e4, e5, e6, e7, e9, allPut, puts, Act.put, List.setIfInBounds_toArray, List.set_cons_zero, List.set_cons_succ]
      have hqq : q8 = q7 := by have h := e8; rw [e7] at h; injection h with h; injection h with h; injection h with h; exact h.symm
      subst hqq
      have HQ := Lib.hid hq7
      have HW := Lib.hid hW8
      have HO := Lib.hid hO8
      have HM := Lib.hid hM8
      have HBB := Lib.hid hB
      clear e0 e1 e2 e3 e4 e5 e6 e7 e8 e9 hO1 hO2 hO3 hM3 hO4 hM4 hO5 hM5 hq7 hW7 hs7 hW8 hO8 hM8 hB hI
      go_wp2_with fail
      go_meet
      exact ⟨q8, _, p8, rfl, rfl, HQ.out, HW, HO, HM, HBB⟩
  case rest =>
    obtain ⟨q, vC, pC, rfl, rfl, hq, HW, HO, HM, HB4⟩ := hcut
    obtain ⟨AC, nC, hvC, _, _⟩ := own_shape HO.out.row
    have HL := Lib.hid (show pC.length = 1 by have := congrArg List.length HM.out; simpa [bC] using this)
    rw [HL.out] at hvC
    subst hvC
    clear HFb
    obtain ⟨c0, c1, c2, c3⟩ := four_cells HW.out
    unfold bC at c0 c1 c2
    simp only at c0 c1 c2
    have HK1 := Lib.hid ((Mod.of_below HB4.out []).whole HKb.out (by simp))
    have HQ := Lib.hid hq
    have HBW := Lib.hid (below_on HB3.out HB4.out)
    clear HKb HB3 hq
    have HY5 := Lib.hid ((Below.refl _ wc).alloc (Nat.le_refl _) (.cells #[.int .i64 2] 3))
    have HI5 := Lib.hid (own_one (Whole.new wc 3 #[.int .i64 2]) (Nat.zero_le _))
    go_wp2_with fail
    generalize hw5 : wc.alloc (.cells #[.int .i64 2] 3) = w5 at HY5 HI5 ⊢
    generalize wc.heap.size = p5 at HI5 ⊢
    have HFC := Lib.hid (fitB_own (b := bC) HO.out HM.out (by unfold In64 bC; simp) (by unfold In64 bC; simp) (by unfold In64 bC; simp))
    clear c0 c1 c2 c3 hw5
    refine (b_Apply (.slice AC 1 nC) (.slice none 0 0) (.slice (some ⟨p5, 0, none⟩) 1 1) bC { r0 with kind := 5, id := 1, stamp := [2] } w5 ((show FitB wc (.slice AC 1 nC) bC from HFC.out).below HY5.out) (fit_own (base := 0) rw_five (World.ownsRow_nil _ _ _ _) HI5.out)).mono ?_
    have ea : BM.apply bC { r0 with kind := 5, id := 1, stamp := [2] } = (bD, 0) := by decide +kernel
    unfold AppPost
    rw [ea]
    clear ea
    rintro e w6 ⟨v6, pD, rfl, hm6, ho6, hb6⟩
    obtain ⟨AD, nD, hvD, _, _⟩ := own_shape ho6.row
    have HLD := Lib.hid (show pD.length = 1 by have := congrArg List.length hm6; simpa [bD] using this)
    rw [HLD.out] at hvD
    subst hvD
    have HB6 := Lib.hid (below_on HY5.out hb6)
    have HOD := Lib.hid (ho6.low (Nat.zero_le _))
    have HMD := Lib.hid hm6
    clear hm6 ho6 hb6 HI5 HY5
    have HX7 := Lib.hid ((Below.refl _ w6).alloc (Nat.le_refl _) (.cells (four bD (.slice AD 1 nD)) 45))
    have HB7 := Lib.hid (below_on HB6.out HX7.out)
    have HKD := Lib.hid (Whole.new w6 45 (four bD (.slice AD 1 nD)))
    have HOD7 := Lib.hid (HOD.out.below HX7.out)
    have HQC := Lib.hid ((Mod.of_below HB7.out []).whole HW.out (by simp))
    have HFb := Lib.hid (HFC.out.below HB7.out)
    have HK17 := Lib.hid ((Mod.of_below HB7.out []).whole HK1.out (by simp))
    have HBW7 := Lib.hid (below_on HBW.out HB7.out)
    clear HX7 HOD HW HFC HK1 HBW HB4 HB6 HB7 HM HO HL
    unfold four at HKD HQC HOD7 HFb HK17 HBW7
    show _
    unfold four
    go_upto_region 4 with (fail)
    generalize w6.alloc (.cells #[.int .i64 bD.next, .int .i64 bD.boots, .int .i64 bD.longest, .slice AD 1 nD] 45) = w7 at HKD HQC HOD7 HFb HK17 HBW7 ⊢
    generalize w6.heap.size = pd at HKD ⊢
    go_cut [7, 8] (fun s e wx => ∃ q, s = .pointer (some ⟨q, 0, none⟩) ∧ e = .int .i64 43 ∧ Hid (Below w7.heap.size w7 wx))
    case first =>
      have ea : BM.apply bC { r0 with kind := 4, g := gx } = (b0, 43) := by decide +kernel
      have HEA := Lib.hid ea
      clear ea
      have HKb := HQC
      have hKeep : ∀ (us : Nat → Value) (w w' : World), Below w.heap.size w w' → ∀ j, known [fun us y => us 0 = .agg (four bC (.slice AC 1 nC)), fun us y => ∃ A1 c1, us 1 = .agg (six gx (.slice A1 gx.stamp.length c1)) ∧ OwnI y w7.heap.size (.slice A1 gx.stamp.length c1) gx.stamp, fun us y => ∃ A2 c2, us 2 = .agg (twelve { r0 with kind := 4, g := gx } (.slice A2 gx.stamp.length c2) (.slice none 0 0)) ∧ OwnI y w7.heap.size (.slice A2 gx.stamp.length c2) gx.stamp, fun us y => ∃ A3 n3 c3 p3, us 3 = .tuple #[.agg (four (b0) (.slice A3 n3 c3)), .int .i64 43] ∧ OwnG y w7.heap.size (.slice A3 n3 c3) p3 ∧ p3.map Prod.fst = (b0).gs, fun us y => ∃ A4 n4 c4 p4, us 4 = .tuple #[.agg (four (b0) (.slice A4 n4 c4)), .int .i64 43] ∧ OwnG y w7.heap.size (.slice A4 n4 c4) p4 ∧ p4.map Prod.fst = (b0).gs, fun us y => ∃ A5 n5 c5 p5, us 5 = .agg (four (b0) (.slice A5 n5 c5)) ∧ OwnG y w7.heap.size (.slice A5 n5 c5) p5 ∧ p5.map Prod.fst = (b0).gs, fun us y => us 6 = .int .i64 43, fun us y => ∃ q7 cs7, us 7 = .pointer (some ⟨q7, 0, none⟩) ∧ w7.heap.size ≤ q7 ∧ Whole y q7 45 cs7 ∧ cs7.size = 4, fun us y => ∃ q8 A8 n8 c8 p8, us 7 = .pointer (some ⟨q8, 0, none⟩) ∧ Whole y q8 45 (four (b0) (.slice A8 n8 c8)) ∧ OwnG y w7.heap.size (.slice A8 n8 c8) p8 ∧ p8.map Prod.fst = (b0).gs, fun us y => us 9 = .int .i64 43] j us w → known [fun us y => us 0 = .agg (four bC (.slice AC 1 nC)), fun us y => ∃ A1 c1, us 1 = .agg (six gx (.slice A1 gx.stamp.length c1)) ∧ OwnI y w7.heap.size (.slice A1 gx.stamp.length c1) gx.stamp, fun us y => ∃ A2 c2, us 2 = .agg (twelve { r0 with kind := 4, g := gx } (.slice A2 gx.stamp.length c2) (.slice none 0 0)) ∧ OwnI y w7.heap.size (.slice A2 gx.stamp.length c2) gx.stamp, fun us y => ∃ A3 n3 c3 p3, us 3 = .tuple #[.agg (four (b0) (.slice A3 n3 c3)), .int .i64 43] ∧ OwnG y w7.heap.size (.slice A3 n3 c3) p3 ∧ p3.map Prod.fst = (b0).gs, fun us y => ∃ A4 n4 c4 p4, us 4 = .tuple #[.agg (four (b0) (.slice A4 n4 c4)), .int .i64 43] ∧ OwnG y w7.heap.size (.slice A4 n4 c4) p4 ∧ p4.map Prod.fst = (b0).gs, fun us y => ∃ A5 n5 c5 p5, us 5 = .agg (four (b0) (.slice A5 n5 c5)) ∧ OwnG y w7.heap.size (.slice A5 n5 c5) p5 ∧ p5.map Prod.fst = (b0).gs, fun us y => us 6 = .int .i64 43, fun us y => ∃ q7 cs7, us 7 = .pointer (some ⟨q7, 0, none⟩) ∧ w7.heap.size ≤ q7 ∧ Whole y q7 45 cs7 ∧ cs7.size = 4, fun us y => ∃ q8 A8 n8 c8 p8, us 7 = .pointer (some ⟨q8, 0, none⟩) ∧ Whole y q8 45 (four (b0) (.slice A8 n8 c8)) ∧ OwnG y w7.heap.size (.slice A8 n8 c8) p8 ∧ p8.map Prod.fst = (b0).gs, fun us y => us 9 = .int .i64 43] j us w' := by
        intro us w w' hb j h
        match j, h with
        | 0, h => exact h
        | 1, h => (obtain ⟨A1, c1, e1, hO1⟩ : ∃ A1 c1, us 1 = .agg (six gx (.slice A1 gx.stamp.length c1)) ∧ OwnI w w7.heap.size (.slice A1 gx.stamp.length c1) gx.stamp := h; exact (show ∃ A1 c1, us 1 = .agg (six gx (.slice A1 gx.stamp.length c1)) ∧ OwnI w' w7.heap.size (.slice A1 gx.stamp.length c1) gx.stamp from ⟨A1, c1, e1, (Mod.of_below hb []).own hO1 (by simp)⟩))
        | 2, h => (obtain ⟨A2, c2, e2, hO2⟩ : ∃ A2 c2, us 2 = .agg (twelve { r0 with kind := 4, g := gx } (.slice A2 gx.stamp.length c2) (.slice none 0 0)) ∧ OwnI w w7.heap.size (.slice A2 gx.stamp.length c2) gx.stamp := h; exact (show ∃ A2 c2, us 2 = .agg (twelve { r0 with kind := 4, g := gx } (.slice A2 gx.stamp.length c2) (.slice none 0 0)) ∧ OwnI w' w7.heap.size (.slice A2 gx.stamp.length c2) gx.stamp from ⟨A2, c2, e2, (Mod.of_below hb []).own hO2 (by simp)⟩))
        | 3, h => (obtain ⟨A3, n3, c3, p3, e3, hO3, hM3⟩ : ∃ A3 n3 c3 p3, us 3 = .tuple #[.agg (four (b0) (.slice A3 n3 c3)), .int .i64 43] ∧ OwnG w w7.heap.size (.slice A3 n3 c3) p3 ∧ p3.map Prod.fst = (b0).gs := h; exact (show ∃ A3 n3 c3 p3, us 3 = .tuple #[.agg (four (b0) (.slice A3 n3 c3)), .int .i64 43] ∧ OwnG w' w7.heap.size (.slice A3 n3 c3) p3 ∧ p3.map Prod.fst = (b0).gs from ⟨A3, n3, c3, p3, e3, hO3.below hb, hM3⟩))
        | 4, h => (obtain ⟨A4, n4, c4, p4, e4, hO4, hM4⟩ : ∃ A4 n4 c4 p4, us 4 = .tuple #[.agg (four (b0) (.slice A4 n4 c4)), .int .i64 43] ∧ OwnG w w7.heap.size (.slice A4 n4 c4) p4 ∧ p4.map Prod.fst = (b0).gs := h; exact (show ∃ A4 n4 c4 p4, us 4 = .tuple #[.agg (four (b0) (.slice A4 n4 c4)), .int .i64 43] ∧ OwnG w' w7.heap.size (.slice A4 n4 c4) p4 ∧ p4.map Prod.fst = (b0).gs from ⟨A4, n4, c4, p4, e4, hO4.below hb, hM4⟩))
        | 5, h => (obtain ⟨A5, n5, c5, p5, e5, hO5, hM5⟩ : ∃ A5 n5 c5 p5, us 5 = .agg (four (b0) (.slice A5 n5 c5)) ∧ OwnG w w7.heap.size (.slice A5 n5 c5) p5 ∧ p5.map Prod.fst = (b0).gs := h; exact (show ∃ A5 n5 c5 p5, us 5 = .agg (four (b0) (.slice A5 n5 c5)) ∧ OwnG w' w7.heap.size (.slice A5 n5 c5) p5 ∧ p5.map Prod.fst = (b0).gs from ⟨A5, n5, c5, p5, e5, hO5.below hb, hM5⟩))
        | 6, h => exact h
        | 7, h => (obtain ⟨q7, cs7, e7, hq7, hW7, hs7⟩ : ∃ q7 cs7, us 7 = .pointer (some ⟨q7, 0, none⟩) ∧ w7.heap.size ≤ q7 ∧ Whole w q7 45 cs7 ∧ cs7.size = 4 := h; exact (show ∃ q7 cs7, us 7 = .pointer (some ⟨q7, 0, none⟩) ∧ w7.heap.size ≤ q7 ∧ Whole w' q7 45 cs7 ∧ cs7.size = 4 from ⟨q7, cs7, e7, hq7, (Mod.of_below hb []).whole hW7 (by simp), hs7⟩))
        | 8, h => (obtain ⟨q8, A8, n8, c8, p8, e8, hW8, hO8, hM8⟩ : ∃ q8 A8 n8 c8 p8, us 7 = .pointer (some ⟨q8, 0, none⟩) ∧ Whole w q8 45 (four (b0) (.slice A8 n8 c8)) ∧ OwnG w w7.heap.size (.slice A8 n8 c8) p8 ∧ p8.map Prod.fst = (b0).gs := h; exact (show ∃ q8 A8 n8 c8 p8, us 7 = .pointer (some ⟨q8, 0, none⟩) ∧ Whole w' q8 45 (four (b0) (.slice A8 n8 c8)) ∧ OwnG w' w7.heap.size (.slice A8 n8 c8) p8 ∧ p8.map Prod.fst = (b0).gs from ⟨q8, A8, n8, c8, p8, e8, (Mod.of_below hb []).whole hW8 (by simp), hO8.below hb, hM8⟩))
        | 9, h => exact h
        | q + 10, h => exact trivial
      have HKEEP := Lib.hid hKeep
      clear hKeep
      refine region_each (known [fun us y => us 0 = .agg (four bC (.slice AC 1 nC)), fun us y => ∃ A1 c1, us 1 = .agg (six gx (.slice A1 gx.stamp.length c1)) ∧ OwnI y w7.heap.size (.slice A1 gx.stamp.length c1) gx.stamp, fun us y => ∃ A2 c2, us 2 = .agg (twelve { r0 with kind := 4, g := gx } (.slice A2 gx.stamp.length c2) (.slice none 0 0)) ∧ OwnI y w7.heap.size (.slice A2 gx.stamp.length c2) gx.stamp, fun us y => ∃ A3 n3 c3 p3, us 3 = .tuple #[.agg (four (b0) (.slice A3 n3 c3)), .int .i64 43] ∧ OwnG y w7.heap.size (.slice A3 n3 c3) p3 ∧ p3.map Prod.fst = (b0).gs, fun us y => ∃ A4 n4 c4 p4, us 4 = .tuple #[.agg (four (b0) (.slice A4 n4 c4)), .int .i64 43] ∧ OwnG y w7.heap.size (.slice A4 n4 c4) p4 ∧ p4.map Prod.fst = (b0).gs, fun us y => ∃ A5 n5 c5 p5, us 5 = .agg (four (b0) (.slice A5 n5 c5)) ∧ OwnG y w7.heap.size (.slice A5 n5 c5) p5 ∧ p5.map Prod.fst = (b0).gs, fun us y => us 6 = .int .i64 43, fun us y => ∃ q7 cs7, us 7 = .pointer (some ⟨q7, 0, none⟩) ∧ w7.heap.size ≤ q7 ∧ Whole y q7 45 cs7 ∧ cs7.size = 4, fun us y => ∃ q8 A8 n8 c8 p8, us 7 = .pointer (some ⟨q8, 0, none⟩) ∧ Whole y q8 45 (four (b0) (.slice A8 n8 c8)) ∧ OwnG y w7.heap.size (.slice A8 n8 c8) p8 ∧ p8.map Prod.fst = (b0).gs, fun us y => us 9 = .int .i64 43]) (fun y => Below w7.heap.size w7 y) (fun y => True) [] [[], [], [1], [0, 1, 2], [0, 1, 2, 3], [0, 1, 2, 3, 4], [0, 1, 2, 3, 4], [], [0, 1, 2, 3, 4, 5, 7], [0, 1, 2, 3, 4, 5, 6, 7, 8]] (by
        intro j us us' y h hF
        match j, h, hF with
        | 0, h, hF => (have hF : us 0 = .agg (four bC (.slice AC 1 nC)) := hF; rw [h 0 (.inl rfl)] at hF; exact hF)
        | 1, h, hF => (have hF : ∃ A1 c1, us 1 = .agg (six gx (.slice A1 gx.stamp.length c1)) ∧ OwnI y w7.heap.size (.slice A1 gx.stamp.length c1) gx.stamp := hF; rw [h 1 (.inl rfl)] at hF; exact hF)
        | 2, h, hF => (have hF : ∃ A2 c2, us 2 = .agg (twelve { r0 with kind := 4, g := gx } (.slice A2 gx.stamp.length c2) (.slice none 0 0)) ∧ OwnI y w7.heap.size (.slice A2 gx.stamp.length c2) gx.stamp := hF; rw [h 2 (.inl rfl)] at hF; exact hF)
        | 3, h, hF => (have hF : ∃ A3 n3 c3 p3, us 3 = .tuple #[.agg (four (b0) (.slice A3 n3 c3)), .int .i64 43] ∧ OwnG y w7.heap.size (.slice A3 n3 c3) p3 ∧ p3.map Prod.fst = (b0).gs := hF; rw [h 3 (.inl rfl)] at hF; exact hF)
        | 4, h, hF => (have hF : ∃ A4 n4 c4 p4, us 4 = .tuple #[.agg (four (b0) (.slice A4 n4 c4)), .int .i64 43] ∧ OwnG y w7.heap.size (.slice A4 n4 c4) p4 ∧ p4.map Prod.fst = (b0).gs := hF; rw [h 4 (.inl rfl)] at hF; exact hF)
        | 5, h, hF => (have hF : ∃ A5 n5 c5 p5, us 5 = .agg (four (b0) (.slice A5 n5 c5)) ∧ OwnG y w7.heap.size (.slice A5 n5 c5) p5 ∧ p5.map Prod.fst = (b0).gs := hF; rw [h 5 (.inl rfl)] at hF; exact hF)
        | 6, h, hF => (have hF : us 6 = .int .i64 43 := hF; rw [h 6 (.inl rfl)] at hF; exact hF)
        | 7, h, hF => (have hF : ∃ q7 cs7, us 7 = .pointer (some ⟨q7, 0, none⟩) ∧ w7.heap.size ≤ q7 ∧ Whole y q7 45 cs7 ∧ cs7.size = 4 := hF; rw [h 7 (.inl rfl)] at hF; exact hF)
        | 8, h, hF => (have hF : ∃ q8 A8 n8 c8 p8, us 7 = .pointer (some ⟨q8, 0, none⟩) ∧ Whole y q8 45 (four (b0) (.slice A8 n8 c8)) ∧ OwnG y w7.heap.size (.slice A8 n8 c8) p8 ∧ p8.map Prod.fst = (b0).gs := hF; rw [h 7 (.inr (by decide))] at hF; exact hF)
        | 9, h, hF => (have hF : us 9 = .int .i64 43 := hF; rw [h 9 (.inl rfl)] at hF; exact hF)
        | q + 10, h, hF => exact trivial) (by kernel_rfl) rfl (by kernel_rfl) (by exact (Below.refl _ _).drew) (trivial) (Z := fun vs => Act.put (Act.put (Act.put (Act.put (Act.put (Act.put (Act.put (Act.put (Act.put (Act.put (_) (some 34) (vs 0)) (some 35) (vs 1)) (some 36) (vs 2)) (some 37) (vs 3)) (some 33) (vs 4)) (some 38) (vs 5)) (some 39) (vs 6)) (some 7) (vs 7)) none (vs 8)) (some 8) (vs 9)) (fun _ => rfl) ?_ ?_
      · skip
        refine EachAll.snoc (i := 9) (o := { dst := some 8, op := Op.assign (Operand.tmp 39), type := 31, pos := _, after := #[{ on := 6, ground := Ground.data }, { on := 8, ground := Ground.chain }, { on := 0, ground := Ground.phase }, { on := 1, ground := Ground.phase }, { on := 2, ground := Ground.phase }, { on := 3, ground := Ground.phase }, { on := 4, ground := Ground.phase }, { on := 5, ground := Ground.phase }, { on := 6, ground := Ground.phase }, { on := 7, ground := Ground.phase }, { on := 8, ground := Ground.phase }], guard := none }) (l := [0, 1, 2, 3, 4, 5, 6, 7, 8]) (A := fun vs => Act.put (Act.put (Act.put (Act.put (Act.put (Act.put (Act.put (Act.put (Act.put (_) none (vs 8)) (some 7) (vs 7)) (some 39) (vs 6)) (some 38) (vs 5)) (some 33) (vs 4)) (some 37) (vs 3)) (some 36) (vs 2)) (some 35) (vs 1)) (some 34) (vs 0)) ?_ rfl rfl (fun _ => rfl) ?_
        rotate_left
        · intro vs w hI hJ hA K hK
          have hB := hI
          clear hJ
          have e6 : vs 6 = .int .i64 43 := hA 6 (by decide)
          clear hA
          refine Box.mk ?_
          try simp only [e6, allPut, puts, Act.put, List.setIfInBounds_toArray, List.set_cons_zero, List.set_cons_succ] at hK ⊢
          go_simp
          exact hK.out _ _ hB (show (updv vs 9 _) 9 = .int .i64 43 from rfl) (fun _ _ _ h => h) (fun _ h => h)
        refine EachAll.snoc (i := 8) (o := { dst := none, op := Op.store 45 (Operand.tmp 7) (Operand.tmp 38), type := 0, pos := _, after := #[{ on := 7, ground := Ground.data }, { on := 5, ground := Ground.data }, { on := 3, ground := Ground.chain }, { on := 0, ground := Ground.phase }, { on := 1, ground := Ground.phase }, { on := 2, ground := Ground.phase }, { on := 3, ground := Ground.phase }, { on := 4, ground := Ground.phase }, { on := 5, ground := Ground.phase }, { on := 6, ground := Ground.textOnly Departure.lateStores }, { on := 7, ground := Ground.phase }], guard := none }) (l := [0, 1, 2, 3, 4, 5, 7]) (A := fun vs => Act.put (Act.put (Act.put (Act.put (Act.put (Act.put (Act.put (_) (some 7) (vs 7)) (some 38) (vs 5)) (some 33) (vs 4)) (some 37) (vs 3)) (some 36) (vs 2)) (some 35) (vs 1)) (some 34) (vs 0)) ?_ rfl rfl (fun _ => rfl) ?_
        rotate_left
        · intro vs w hI hJ hA K hK
          have hB := hI
          clear hJ
          have hF5 : ∃ A5 n5 c5 p5, vs 5 = .agg (four (b0) (.slice A5 n5 c5)) ∧ OwnG w w7.heap.size (.slice A5 n5 c5) p5 ∧ p5.map Prod.fst = (b0).gs := hA 5 (by decide)
          obtain ⟨A5, n5, c5, p5, e5, hO5, hM5⟩ := hF5
          have hF7 : ∃ q7 cs7, vs 7 = .pointer (some ⟨q7, 0, none⟩) ∧ w7.heap.size ≤ q7 ∧ Whole w q7 45 cs7 ∧ cs7.size = 4 := hA 7 (by decide)
          obtain ⟨q7, cs7, e7, hq7, hW7, hs7⟩ := hF7
          clear hA
          refine Box.mk ?_
          try simp only [e5, e7, allPut, puts, Act.put, List.setIfInBounds_toArray, List.set_cons_zero, List.set_cons_succ] at hK ⊢
          obtain ⟨x0, y0⟩ := some_cell hW7 (i := 0) (by omega)
          obtain ⟨x1, y1⟩ := some_cell hW7 (i := 1) (by omega)
          obtain ⟨x2, y2⟩ := some_cell hW7 (i := 2) (by omega)
          obtain ⟨x3, y3⟩ := some_cell hW7 (i := 3) (by omega)
          have g0 := hW7.frozen 0
          have g1 := hW7.frozen 1
          have g2 := hW7.frozen 2
          have g3 := hW7.frozen 3
          have hM := four_mod w q7 (.int .i64 (b0).next) (.int .i64 (b0).boots) (.int .i64 (b0).longest) (.slice A5 n5 c5)
          have hB8 : Below w7.heap.size w7 ((((w.setCell ⟨q7, 0, none⟩ (.int .i64 (b0).next)).setCell ⟨q7, 1, none⟩ (.int .i64 (b0).boots)).setCell ⟨q7, 2, none⟩ (.int .i64 (b0).longest)).setCell ⟨q7, 3, none⟩ (.slice A5 n5 c5)) := hB.trans (hM.below hB.size (by simpa using hq7))
          have hW9 := four_set hW7 hs7 (.int .i64 (b0).next) (.int .i64 (b0).boots) (.int .i64 (b0).longest) (.slice A5 n5 c5)
          have hO9 := hO5.apart hW7 (by decide) (by decide) hM
          generalize hSS : ((((w.setCell ⟨q7, 0, none⟩ (.int .i64 (b0).next)).setCell ⟨q7, 1, none⟩ (.int .i64 (b0).boots)).setCell ⟨q7, 2, none⟩ (.int .i64 (b0).longest)).setCell ⟨q7, 3, none⟩ (.slice A5 n5 c5)) = wS at hM hB8 hW9 hO9
          have hP : ∀ j, j ≠ 8 → 8 ∉ ([[], [], [1], [0, 1, 2], [0, 1, 2, 3], [0, 1, 2, 3, 4], [0, 1, 2, 3, 4], [], [0, 1, 2, 3, 4, 5, 7], [0, 1, 2, 3, 4, 5, 6, 7, 8]] : List (List Nat)).getD j [] → known [fun us y => us 0 = .agg (four bC (.slice AC 1 nC)), fun us y => ∃ A1 c1, us 1 = .agg (six gx (.slice A1 gx.stamp.length c1)) ∧ OwnI y w7.heap.size (.slice A1 gx.stamp.length c1) gx.stamp, fun us y => ∃ A2 c2, us 2 = .agg (twelve { r0 with kind := 4, g := gx } (.slice A2 gx.stamp.length c2) (.slice none 0 0)) ∧ OwnI y w7.heap.size (.slice A2 gx.stamp.length c2) gx.stamp, fun us y => ∃ A3 n3 c3 p3, us 3 = .tuple #[.agg (four (b0) (.slice A3 n3 c3)), .int .i64 43] ∧ OwnG y w7.heap.size (.slice A3 n3 c3) p3 ∧ p3.map Prod.fst = (b0).gs, fun us y => ∃ A4 n4 c4 p4, us 4 = .tuple #[.agg (four (b0) (.slice A4 n4 c4)), .int .i64 43] ∧ OwnG y w7.heap.size (.slice A4 n4 c4) p4 ∧ p4.map Prod.fst = (b0).gs, fun us y => ∃ A5 n5 c5 p5, us 5 = .agg (four (b0) (.slice A5 n5 c5)) ∧ OwnG y w7.heap.size (.slice A5 n5 c5) p5 ∧ p5.map Prod.fst = (b0).gs, fun us y => us 6 = .int .i64 43, fun us y => ∃ q7 cs7, us 7 = .pointer (some ⟨q7, 0, none⟩) ∧ w7.heap.size ≤ q7 ∧ Whole y q7 45 cs7 ∧ cs7.size = 4, fun us y => ∃ q8 A8 n8 c8 p8, us 7 = .pointer (some ⟨q8, 0, none⟩) ∧ Whole y q8 45 (four (b0) (.slice A8 n8 c8)) ∧ OwnG y w7.heap.size (.slice A8 n8 c8) p8 ∧ p8.map Prod.fst = (b0).gs, fun us y => us 9 = .int .i64 43] j vs w → known [fun us y => us 0 = .agg (four bC (.slice AC 1 nC)), fun us y => ∃ A1 c1, us 1 = .agg (six gx (.slice A1 gx.stamp.length c1)) ∧ OwnI y w7.heap.size (.slice A1 gx.stamp.length c1) gx.stamp, fun us y => ∃ A2 c2, us 2 = .agg (twelve { r0 with kind := 4, g := gx } (.slice A2 gx.stamp.length c2) (.slice none 0 0)) ∧ OwnI y w7.heap.size (.slice A2 gx.stamp.length c2) gx.stamp, fun us y => ∃ A3 n3 c3 p3, us 3 = .tuple #[.agg (four (b0) (.slice A3 n3 c3)), .int .i64 43] ∧ OwnG y w7.heap.size (.slice A3 n3 c3) p3 ∧ p3.map Prod.fst = (b0).gs, fun us y => ∃ A4 n4 c4 p4, us 4 = .tuple #[.agg (four (b0) (.slice A4 n4 c4)), .int .i64 43] ∧ OwnG y w7.heap.size (.slice A4 n4 c4) p4 ∧ p4.map Prod.fst = (b0).gs, fun us y => ∃ A5 n5 c5 p5, us 5 = .agg (four (b0) (.slice A5 n5 c5)) ∧ OwnG y w7.heap.size (.slice A5 n5 c5) p5 ∧ p5.map Prod.fst = (b0).gs, fun us y => us 6 = .int .i64 43, fun us y => ∃ q7 cs7, us 7 = .pointer (some ⟨q7, 0, none⟩) ∧ w7.heap.size ≤ q7 ∧ Whole y q7 45 cs7 ∧ cs7.size = 4, fun us y => ∃ q8 A8 n8 c8 p8, us 7 = .pointer (some ⟨q8, 0, none⟩) ∧ Whole y q8 45 (four (b0) (.slice A8 n8 c8)) ∧ OwnG y w7.heap.size (.slice A8 n8 c8) p8 ∧ p8.map Prod.fst = (b0).gs, fun us y => us 9 = .int .i64 43] j vs wS := by
            intro j h1 h2 h
            match j, h1, h2, h with
            | 0, _, _, h => exact h
            | 1, _, _, h => (obtain ⟨A, c, e, hO⟩ : ∃ A1 c1, vs 1 = .agg (six gx (.slice A1 gx.stamp.length c1)) ∧ OwnI w w7.heap.size (.slice A1 gx.stamp.length c1) gx.stamp := h; exact (show ∃ A1 c1, vs 1 = .agg (six gx (.slice A1 gx.stamp.length c1)) ∧ OwnI wS w7.heap.size (.slice A1 gx.stamp.length c1) gx.stamp from ⟨A, c, e, hO.apart hW7 (by decide) hM⟩))
            | 2, _, _, h => (obtain ⟨A, c, e, hO⟩ : ∃ A2 c2, vs 2 = .agg (twelve { r0 with kind := 4, g := gx } (.slice A2 gx.stamp.length c2) (.slice none 0 0)) ∧ OwnI w w7.heap.size (.slice A2 gx.stamp.length c2) gx.stamp := h; exact (show ∃ A2 c2, vs 2 = .agg (twelve { r0 with kind := 4, g := gx } (.slice A2 gx.stamp.length c2) (.slice none 0 0)) ∧ OwnI wS w7.heap.size (.slice A2 gx.stamp.length c2) gx.stamp from ⟨A, c, e, hO.apart hW7 (by decide) hM⟩))
            | 3, _, _, h => (obtain ⟨A, n, c, p, e, hO, hm⟩ : ∃ A3 n3 c3 p3, vs 3 = .tuple #[.agg (four (b0) (.slice A3 n3 c3)), .int .i64 43] ∧ OwnG w w7.heap.size (.slice A3 n3 c3) p3 ∧ p3.map Prod.fst = (b0).gs := h; exact (show ∃ A3 n3 c3 p3, vs 3 = .tuple #[.agg (four (b0) (.slice A3 n3 c3)), .int .i64 43] ∧ OwnG wS w7.heap.size (.slice A3 n3 c3) p3 ∧ p3.map Prod.fst = (b0).gs from ⟨A, n, c, p, e, hO.apart hW7 (by decide) (by decide) hM, hm⟩))
            | 4, _, _, h => (obtain ⟨A, n, c, p, e, hO, hm⟩ : ∃ A4 n4 c4 p4, vs 4 = .tuple #[.agg (four (b0) (.slice A4 n4 c4)), .int .i64 43] ∧ OwnG w w7.heap.size (.slice A4 n4 c4) p4 ∧ p4.map Prod.fst = (b0).gs := h; exact (show ∃ A4 n4 c4 p4, vs 4 = .tuple #[.agg (four (b0) (.slice A4 n4 c4)), .int .i64 43] ∧ OwnG wS w7.heap.size (.slice A4 n4 c4) p4 ∧ p4.map Prod.fst = (b0).gs from ⟨A, n, c, p, e, hO.apart hW7 (by decide) (by decide) hM, hm⟩))
            | 5, _, _, h => (obtain ⟨A, n, c, p, e, hO, hm⟩ : ∃ A5 n5 c5 p5, vs 5 = .agg (four (b0) (.slice A5 n5 c5)) ∧ OwnG w w7.heap.size (.slice A5 n5 c5) p5 ∧ p5.map Prod.fst = (b0).gs := h; exact (show ∃ A5 n5 c5 p5, vs 5 = .agg (four (b0) (.slice A5 n5 c5)) ∧ OwnG wS w7.heap.size (.slice A5 n5 c5) p5 ∧ p5.map Prod.fst = (b0).gs from ⟨A, n, c, p, e, hO.apart hW7 (by decide) (by decide) hM, hm⟩))
            | 6, _, _, h => exact h
            | 7, _, _, h => exact (show ∃ q7 cs7, vs 7 = .pointer (some ⟨q7, 0, none⟩) ∧ w7.heap.size ≤ q7 ∧ Whole wS q7 45 cs7 ∧ cs7.size = 4 from ⟨q7, _, e7, hq7, hW9, rfl⟩)
            | 8, h1, _, _ => exact absurd rfl h1
            | 9, _, _, h => exact h
            | q + 10, _, _, h => exact trivial
          clear e5
          unfold four at hK ⊢
          go_simp
          try rw [hSS]
          exact hK.out undef _ hB8 (show ∃ q8 A8 n8 c8 p8, (updv vs 8 undef) 7 = .pointer (some ⟨q8, 0, none⟩) ∧ Whole wS q8 45 (four (b0) (.slice A8 n8 c8)) ∧ OwnG wS w7.heap.size (.slice A8 n8 c8) p8 ∧ p8.map Prod.fst = (b0).gs from ⟨q7, A5, n5, c5, p5, e7, hW9, hO9, hM5⟩) hP (fun _ h => h)
        refine EachAll.snoc (i := 7) (o := { dst := some 7, op := Op.alloc 45, type := 0, pos := _, after := #[], guard := none }) (l := []) (A := fun vs => _) ?_ rfl rfl (fun _ => rfl) ?_
        rotate_left
        · intro vs w hI hJ hA K hK
          have hB := hI
          clear hJ
          clear hA
          refine Box.mk ?_
          try simp only [allPut, puts, Act.put, List.setIfInBounds_toArray, List.set_cons_zero, List.set_cons_succ] at hK ⊢
          go_simp
          have hb := (Below.refl _ w).alloc (Nat.le_refl _) (.cells z4 45)
          unfold z4 at hb
          exact hK.out _ _ (below_on hB hb) (show ∃ q7 cs7, (updv vs 7 _) 7 = .pointer (some ⟨q7, 0, none⟩) ∧ w7.heap.size ≤ q7 ∧ Whole _ q7 45 cs7 ∧ cs7.size = 4 from ⟨w.heap.size, _, rfl, hB.size, (Whole.new w _ _), rfl⟩) (fun j _ _ h => HKEEP.out vs w _ hb j h) (fun _ h => h)
        refine EachAll.snoc (i := 6) (o := { dst := some 39, op := Op.extract (Operand.tmp 33) 1, type := 31, pos := _, after := #[{ on := 4, ground := Ground.data }, { on := 8, ground := Ground.gcOnly Departure.lateStores }], guard := none }) (l := [0, 1, 2, 3, 4]) (A := fun vs => Act.put (Act.put (Act.put (Act.put (Act.put (_) (some 33) (vs 4)) (some 37) (vs 3)) (some 36) (vs 2)) (some 35) (vs 1)) (some 34) (vs 0)) ?_ rfl rfl (fun _ => rfl) ?_
        rotate_left
        · intro vs w hI hJ hA K hK
          have hB := hI
          clear hJ
          have hF4 : ∃ A4 n4 c4 p4, vs 4 = .tuple #[.agg (four (b0) (.slice A4 n4 c4)), .int .i64 43] ∧ OwnG w w7.heap.size (.slice A4 n4 c4) p4 ∧ p4.map Prod.fst = (b0).gs := hA 4 (by decide)
          obtain ⟨A4, n4, c4, p4, e4, hO4, hM4⟩ := hF4
          clear hA
          refine Box.mk ?_
          try simp only [e4, allPut, puts, Act.put, List.setIfInBounds_toArray, List.set_cons_zero, List.set_cons_succ] at hK ⊢
          unfold four
          go_simp
          exact hK.out _ _ hB (show (updv vs 6 _) 6 = .int .i64 43 from rfl) (fun _ _ _ h => h) (fun _ h => h)
        refine EachAll.snoc (i := 5) (o := { dst := some 38, op := Op.extract (Operand.tmp 33) 0, type := 45, pos := _, after := #[{ on := 4, ground := Ground.data }], guard := none }) (l := [0, 1, 2, 3, 4]) (A := fun vs => Act.put (Act.put (Act.put (Act.put (Act.put (_) (some 33) (vs 4)) (some 37) (vs 3)) (some 36) (vs 2)) (some 35) (vs 1)) (some 34) (vs 0)) ?_ rfl rfl (fun _ => rfl) ?_
        rotate_left
        · intro vs w hI hJ hA K hK
          have hB := hI
          clear hJ
          have hF4 : ∃ A4 n4 c4 p4, vs 4 = .tuple #[.agg (four (b0) (.slice A4 n4 c4)), .int .i64 43] ∧ OwnG w w7.heap.size (.slice A4 n4 c4) p4 ∧ p4.map Prod.fst = (b0).gs := hA 4 (by decide)
          obtain ⟨A4, n4, c4, p4, e4, hO4, hM4⟩ := hF4
          clear hA
          refine Box.mk ?_
          try simp only [e4, allPut, puts, Act.put, List.setIfInBounds_toArray, List.set_cons_zero, List.set_cons_succ] at hK ⊢
          unfold four
          go_simp
          exact hK.out _ _ hB (show ∃ A5 n5 c5 p5, (updv vs 5 _) 5 = .agg (four (b0) (.slice A5 n5 c5)) ∧ OwnG _ w7.heap.size (.slice A5 n5 c5) p5 ∧ p5.map Prod.fst = (b0).gs from ⟨A4, n4, c4, p4, rfl, hO4, hM4⟩) (fun _ _ _ h => h) (fun _ h => h)
        refine EachAll.snoc (i := 4) (o := { dst := some 33, op := Op.move (Operand.tmp 37), type := 46, pos := _, after := #[{ on := 3, ground := Ground.data }], guard := none }) (l := [0, 1, 2, 3]) (A := fun vs => Act.put (Act.put (Act.put (Act.put (_) (some 37) (vs 3)) (some 36) (vs 2)) (some 35) (vs 1)) (some 34) (vs 0)) ?_ rfl rfl (fun _ => rfl) ?_
        rotate_left
        · intro vs w hI hJ hA K hK
          have hB := hI
          clear hJ
          have hF3 : ∃ A3 n3 c3 p3, vs 3 = .tuple #[.agg (four (b0) (.slice A3 n3 c3)), .int .i64 43] ∧ OwnG w w7.heap.size (.slice A3 n3 c3) p3 ∧ p3.map Prod.fst = (b0).gs := hA 3 (by decide)
          obtain ⟨A3, n3, c3, p3, e3, hO3, hM3⟩ := hF3
          clear hA
          refine Box.mk ?_
          try simp only [e3, allPut, puts, Act.put, List.setIfInBounds_toArray, List.set_cons_zero, List.set_cons_succ] at hK ⊢
          go_simp
          exact hK.out _ _ hB (show ∃ A4 n4 c4 p4, (updv vs 4 _) 4 = .tuple #[.agg (four (b0) (.slice A4 n4 c4)), .int .i64 43] ∧ OwnG _ w7.heap.size (.slice A4 n4 c4) p4 ∧ p4.map Prod.fst = (b0).gs from ⟨A3, n3, c3, p3, rfl, hO3, hM3⟩) (fun _ _ _ h => h) (fun _ h => h)
        refine EachAll.snoc (i := 3) (o := { dst := some 37, op := Op.call { callee := Callee.value (Operand.func 11), args := #[Operand.tmp 34, Operand.tmp 36], argTypes := #[45, 28] }, type := 46, pos := _, after := #[{ on := 0, ground := Ground.data }, { on := 2, ground := Ground.data }, { on := 1, ground := Ground.chain }], guard := none }) (l := [0, 1, 2]) (A := fun vs => Act.put (Act.put (Act.put (_) (some 36) (vs 2)) (some 35) (vs 1)) (some 34) (vs 0)) ?_ rfl rfl (fun _ => rfl) ?_
        rotate_left
        · intro vs w hI hJ hA K hK
          have hB := hI
          clear hJ
          have e0 : vs 0 = .agg (four bC (.slice AC 1 nC)) := hA 0 (by decide)
          have hF2 : ∃ A2 c2, vs 2 = .agg (twelve { r0 with kind := 4, g := gx } (.slice A2 gx.stamp.length c2) (.slice none 0 0)) ∧ OwnI w w7.heap.size (.slice A2 gx.stamp.length c2) gx.stamp := hA 2 (by decide)
          obtain ⟨A2, c2, e2, hO2⟩ := hF2
          clear hA
          refine Box.mk ?_
          try simp only [e0, e2, allPut, puts, Act.put, List.setIfInBounds_toArray, List.set_cons_zero, List.set_cons_succ] at hK ⊢
          clear e0 e2
          go_simp
          have hfr : FitR w (.slice A2 gx.stamp.length c2) (.slice none 0 0) { r0 with kind := 4, g := gx } := fit_own (base := 0) rw_gx (own_low hO2 (Nat.zero_le _)) (World.ownsRow_nil _ _ _ _)
          with_reducible refine (b_Apply (.slice AC 1 nC) (.slice A2 gx.stamp.length c2) (.slice none 0 0) bC { r0 with kind := 4, g := gx } w (HFb.out.below hB) hfr).mono ?_
          unfold AppPost
          rw [HEA.out]
          rintro e w5 ⟨v5, p5, rfl, hm, ho, hb⟩
          obtain ⟨A5, c5, hv, _, _⟩ := own_shape ho.row
          subst hv
          go_simp
          exact hK.out _ _ (below_on hB hb) (show ∃ A3 n3 c3 p3, (updv vs 3 _) 3 = .tuple #[.agg (four (b0) (.slice A3 n3 c3)), .int .i64 43] ∧ OwnG w5 w7.heap.size (.slice A3 n3 c3) p3 ∧ p3.map Prod.fst = (b0).gs from ⟨A5, _, c5, p5, rfl, (ho.low hB.size), hm⟩) (fun j _ _ h => HKEEP.out vs w w5 hb j h) (fun _ h => h)
        refine EachAll.snoc (i := 2) (o := { dst := some 36, op := Op.build 28 #[(0, Operand.const (Value.int IntKind.i64 4)), (1, Operand.tmp 35)], type := 28, pos := _, after := #[{ on := 1, ground := Ground.data }], guard := none }) (l := [1]) (A := fun vs => Act.put (_) (some 35) (vs 1)) ?_ rfl rfl (fun _ => rfl) ?_
        rotate_left
        · intro vs w hI hJ hA K hK
          have hB := hI
          clear hJ
          have hF1 : ∃ A1 c1, vs 1 = .agg (six gx (.slice A1 gx.stamp.length c1)) ∧ OwnI w w7.heap.size (.slice A1 gx.stamp.length c1) gx.stamp := hA 1 (by decide)
          obtain ⟨A1, c1, e1, hO1⟩ := hF1
          clear hA
          refine Box.mk ?_
          try simp only [e1, allPut, puts, Act.put, List.setIfInBounds_toArray, List.set_cons_zero, List.set_cons_succ] at hK ⊢
          unfold six
          go_simp
          exact hK.out _ _ hB (show ∃ A2 c2, (updv vs 2 _) 2 = .agg (twelve { r0 with kind := 4, g := gx } (.slice A2 gx.stamp.length c2) (.slice none 0 0)) ∧ OwnI _ w7.heap.size (.slice A2 gx.stamp.length c2) gx.stamp from ⟨A1, c1, rfl, hO1⟩) (fun _ _ _ h => h) (fun _ h => h)
        refine EachAll.snoc (i := 1) (o := { dst := some 35, op := Op.call { callee := Callee.value (Operand.func 13), args := #[], argTypes := #[] }, type := 26, pos := _, after := #[], guard := none }) (l := []) (A := fun vs => _) ?_ rfl rfl (fun _ => rfl) ?_
        rotate_left
        · intro vs w hI hJ hA K hK
          have hB := hI
          clear hJ
          clear hA
          refine Box.mk ?_
          try simp only [allPut, puts, Act.put, List.setIfInBounds_toArray, List.set_cons_zero, List.set_cons_succ] at hK ⊢
          go_simp
          with_reducible refine (law_grant _).mono ?_
          rintro e w5 ⟨v5, rfl, ho, hb⟩
          obtain ⟨A5, c5, hv, _, _⟩ := own_shape ho
          subst hv
          unfold six
          go_simp
          exact hK.out _ _ (below_on hB hb) (show ∃ A1 c1, (updv vs 1 _) 1 = .agg (six gx (.slice A1 gx.stamp.length c1)) ∧ OwnI w5 w7.heap.size (.slice A1 gx.stamp.length c1) gx.stamp from ⟨A5, c5, rfl, (own_low ho hB.size)⟩) (fun j _ _ h => HKEEP.out vs w w5 hb j h) (fun _ h => h)
        refine EachAll.snoc (i := 0) (o := { dst := some 34, op := Op.load 45 (Operand.tmp 3), type := 45, pos := _, after := #[], guard := none }) (l := []) (A := fun vs => _) ?_ rfl rfl (fun _ => rfl) ?_
        rotate_left
        · intro vs w hI hJ hA K hK
          have hB := hI
          clear hJ
          clear hA
          refine Box.mk ?_
          try simp only [allPut, puts, Act.put, List.setIfInBounds_toArray, List.set_cons_zero, List.set_cons_succ] at hK ⊢
          have hW := (Mod.of_below hB []).whole HKb.out (by simp)
          obtain ⟨x0, x1, x2, x3⟩ := four_cells hW
          skip
          simp only [bC] at x0 x1 x2 x3
          go_simp
          exact hK.out _ _ hB (show (updv vs 0 _) 0 = .agg (four bC (.slice AC 1 nC)) from rfl) (fun _ _ _ h => h) (fun _ h => h)
        exact EachAll.nil
      · intro vs w hI hall
        have hB := hI
        have e0 : vs 0 = .agg (four bC (.slice AC 1 nC)) := hall 0 (by decide)
        have hF1 : ∃ A1 c1, vs 1 = .agg (six gx (.slice A1 gx.stamp.length c1)) ∧ OwnI w w7.heap.size (.slice A1 gx.stamp.length c1) gx.stamp := hall 1 (by decide)
        obtain ⟨A1, c1, e1, hO1⟩ := hF1
        have hF2 : ∃ A2 c2, vs 2 = .agg (twelve { r0 with kind := 4, g := gx } (.slice A2 gx.stamp.length c2) (.slice none 0 0)) ∧ OwnI w w7.heap.size (.slice A2 gx.stamp.length c2) gx.stamp := hall 2 (by decide)
        obtain ⟨A2, c2, e2, hO2⟩ := hF2
        have hF3 : ∃ A3 n3 c3 p3, vs 3 = .tuple #[.agg (four (b0) (.slice A3 n3 c3)), .int .i64 43] ∧ OwnG w w7.heap.size (.slice A3 n3 c3) p3 ∧ p3.map Prod.fst = (b0).gs := hall 3 (by decide)
        obtain ⟨A3, n3, c3, p3, e3, hO3, hM3⟩ := hF3
        have hF4 : ∃ A4 n4 c4 p4, vs 4 = .tuple #[.agg (four (b0) (.slice A4 n4 c4)), .int .i64 43] ∧ OwnG w w7.heap.size (.slice A4 n4 c4) p4 ∧ p4.map Prod.fst = (b0).gs := hall 4 (by decide)
        obtain ⟨A4, n4, c4, p4, e4, hO4, hM4⟩ := hF4
        have hF5 : ∃ A5 n5 c5 p5, vs 5 = .agg (four (b0) (.slice A5 n5 c5)) ∧ OwnG w w7.heap.size (.slice A5 n5 c5) p5 ∧ p5.map Prod.fst = (b0).gs := hall 5 (by decide)
        obtain ⟨A5, n5, c5, p5, e5, hO5, hM5⟩ := hF5
        have e6 : vs 6 = .int .i64 43 := hall 6 (by decide)
        have hF7 : ∃ q7 cs7, vs 7 = .pointer (some ⟨q7, 0, none⟩) ∧ w7.heap.size ≤ q7 ∧ Whole w q7 45 cs7 ∧ cs7.size = 4 := hall 7 (by decide)
        obtain ⟨q7, cs7, e7, hq7, hW7, hs7⟩ := hF7
        have hF8 : ∃ q8 A8 n8 c8 p8, vs 7 = .pointer (some ⟨q8, 0, none⟩) ∧ Whole w q8 45 (four (b0) (.slice A8 n8 c8)) ∧ OwnG w w7.heap.size (.slice A8 n8 c8) p8 ∧ p8.map Prod.fst = (b0).gs := hall 8 (by decide)
        obtain ⟨q8, A8, n8, c8, p8, e8, hW8, hO8, hM8⟩ := hF8
        have e9 : vs 9 = .int .i64 43 := hall 9 (by decide)
        clear hall HKEEP
        refine Box.mk ?_
        simp only [e0, e1, e2, e3, e4, e5, e6, e7, e9, allPut, puts, Act.put, List.setIfInBounds_toArray, List.set_cons_zero, List.set_cons_succ]
        have hqq : q8 = q7 := by have h := e8; rw [e7] at h; injection h with h; injection h with h; injection h with h; exact h.symm
        subst hqq
        have HQ := Lib.hid hq7
        have HW := Lib.hid hW8
        have HO := Lib.hid hO8
        have HM := Lib.hid hM8
        have HBB := Lib.hid hB
        clear e0 e1 e2 e3 e4 e5 e6 e7 e8 e9 hO1 hO2 hO3 hM3 hO4 hM4 hO5 hM5 hq7 hW7 hs7 hW8 hO8 hM8 hB hI
        go_wp2_with fail
        go_meet
        exact ⟨q8, rfl, rfl, HBB⟩
    case rest =>
      obtain ⟨q7, rfl, rfl, HB8⟩ := hcut
      have HFC9 := Lib.hid (HFb.out.below HB8.out)
      clear HFb
      have HB9 := Lib.hid (below_on HBW7.out HB8.out)
      have HKD9 := Lib.hid ((Mod.of_below HB8.out []).whole HKD.out (by simp))
      have HQC9 := Lib.hid ((Mod.of_below HB8.out []).whole HQC.out (by simp))
      have HK19 := Lib.hid ((Mod.of_below HB8.out []).whole HK17.out (by simp))
      have HOD9 := Lib.hid (HOD7.out.below HB8.out)
      clear HKD HQC HK17 HOD7 HBW7 HB8
      go_wp2_with fail
      refine (law_grant wc).mono ?_
      rintro e w9 ⟨v9, rfl, ho9, hb9⟩
      obtain ⟨A9, c9, hv9, _, _⟩ := own_shape ho9
      subst hv9
      have HO9 := Lib.hid ho9
      have HX9 := Lib.hid hb9
      clear ho9 hb9
      unfold six
      go_wp2_with fail
      refine (b_Encode (.slice A9 gx.stamp.length c9) (.slice none 0 0) { r0 with kind := 4, g := gx } w9 (fit_own (base := 0) rw_gx (own_low HO9.out (Nat.zero_le _)) (World.ownsRow_nil _ _ _ _))).mono ?_
      have ee : BM.encode { r0 with kind := 4, g := gx } = ([4, 1, 2, 1, 97, 2, 172, 2, 1, 1], 0) := by decide +kernel
      unfold EncPost
      rw [ee]
      clear ee
      rintro e w10 ⟨A10, c10, rfl, ho10, hb10⟩
      have HX10 := Lib.hid (below_on HX9.out hb10)
      have HS10 := Lib.hid (bytes_own ho10)
      clear ho10 hb10 HO9 HX9
      have HX11 := Lib.hid (below_on HX10.out ((Below.refl _ w10).alloc (Nat.le_refl _) (.cells #[.int .u8 6, .int .u8 5] 5)))
      have HS11 := Lib.hid (HS10.out.below ((Below.refl _ w10).alloc (Nat.le_refl _) (.cells #[.int .u8 6, .int .u8 5] 5)))
      have HN11 := Lib.hid (show Oct.BytesAt (w10.alloc (.cells #[.int .u8 6, .int .u8 5] 5)) (some ⟨w10.heap.size, 0, none⟩) [6, 5] from Oct.BytesAt.own (base := 0) (n := 2) (c := 2) ⟨rfl, .inr ⟨w10.heap.size, 2, #[.int .u8 6, .int .u8 5], rfl, Nat.zero_le _, Whole.new w10 5 _, Nat.le_refl _, by unfold maxLen; omega, rfl, rfl⟩⟩)
      go_wp2_with fail
      refine (b_Decode (some ⟨w10.heap.size, 0, none⟩) 2 [6, 5] _ HN11.out (by decide)).mono ?_
      have ed : BM.decode [6, 5] = ({ r0 with kind := 6, id := 5 }, 0) := by decide +kernel
      unfold DecPost
      rw [ed]
      clear ed
      rintro e w12 ⟨v12, u12, rfl, hv12, hu12, _, hb12⟩
      obtain ⟨V12, cv12, hvv, _, _⟩ := own_shape hv12
      obtain ⟨U12, cu12, huu, _, _⟩ := own_shape hu12
      have hvv' : v12 = .slice V12 0 cv12 := hvv
      have huu' : u12 = .slice U12 0 cu12 := huu
      clear hvv huu
      subst hvv' huu'
      have HX12 := Lib.hid (below_on HX11.out hb12)
      have HS12 := Lib.hid (HS11.out.below hb12)
      clear hv12 hu12 hb12 HX11 HX10 HS11 HS10 HN11
      have HR13 := Lib.hid (Whole.new w12 28 (twelve { r0 with kind := 6, id := 5 } (.slice V12 0 cv12) (.slice U12 0 cu12)))
      have hb13 := ((Below.refl _ w12).alloc (Nat.le_refl _) (.cells (twelve { r0 with kind := 6, id := 5 } (.slice V12 0 cv12) (.slice U12 0 cu12)) 28))
      have HX13 := Lib.hid (below_on HX12.out hb13)
      have HS13 := Lib.hid (HS12.out.below hb13)
      clear hb13 HX12 HS12
      show _
      unfold twelve at *
      go_upto_region 7 with (fail)
      generalize w12.alloc (.cells #[.int .i64 6, .int .i64 r0.g.id, .int .i64 r0.g.holder, .string r0.g.path, .int .i64 r0.g.mode, .slice V12 0 cv12, .int .i64 r0.g.term, .int .i64 5, .slice U12 0 cu12, .int .i64 r0.next, .int .i64 r0.boots, .int .i64 r0.longest] 28) = w13 at HR13 HX13 HS13 ⊢
      generalize w12.heap.size = pr at HR13 ⊢
      have HKD := Lib.hid ((Mod.of_below HX13.out []).whole HKD9.out (by simp))
      have HQC := Lib.hid ((Mod.of_below HX13.out []).whole HQC9.out (by simp))
      have HK1 := Lib.hid ((Mod.of_below HX13.out []).whole HK19.out (by simp))
      have HOD := Lib.hid (HOD9.out.below HX13.out)
      have HFC13 := Lib.hid (HFC9.out.below HX13.out)
      have HBW := Lib.hid (below_on HB9.out HX13.out)
      clear HKD9 HQC9 HK19 HOD9 HB9 HX13
      have x1 : w13.cell? ⟨p1, 1, none⟩ = some (.int .i64 1) := HK1.out.cell 1
      have q0 : w13.cell? ⟨q, 0, none⟩ = some (.int .i64 2) := HQC.out.cell 0
      have d0 : w13.cell? ⟨pd, 0, none⟩ = some (.int .i64 3) := HKD.out.cell 0
      have d3 : w13.cell? ⟨pd, 3, none⟩ = some (.slice AD 1 nD) := HKD.out.cell 3
      have hHD := HOD.out.hd
      rw [HMD.out] at hHD
      obtain ⟨A0, c0, hA0, hGR, _⟩ := hHD
      have hA1 : AD = A0 := by injection hA0
      subst hA1
      clear hA0
      obtain ⟨gb, go, rfl, _, hgr⟩ := hGR (by decide)
      obtain ⟨gv, _, _, _, _, g4, _, hfg⟩ := hgr 0 _ rfl
      obtain ⟨As, cs, hAs, hst⟩ := hfg.hd
      obtain ⟨sb, so, hsb, _, hsx⟩ := hst.ints (by decide)
      have s0 := hsx 0 2 rfl
      subst hsb
      have hAs' : gv = .slice (some ⟨sb, so, none⟩) 1 cs := hAs
      subst hAs'
      simp only [Nat.zero_mul, Nat.add_zero] at g4 s0
      have r0' : w13.cell? ⟨pr, 0, none⟩ = some (.int .i64 6) := HR13.out.cell 0
      have r2' : w13.cell? ⟨pr, 7, none⟩ = some (.int .i64 5) := HR13.out.cell 7
      have hcv : (convert 29 9 (.slice A10 10 c10)).run Try.prog w13 = .ok (.string ⟨#[4, 1, 2, 1, 97, 2, 172, 2, 1, 1]⟩) w13 := Oct.str_of (c := c10) (l := [4, 1, 2, 1, 97, 2, 172, 2, 1, 1]) HS13.out
      clear hgr hfg hst hsx hGR hAs
      have hl0 : IntKind.i64.wrap ((0 : Nat) : Int) = 0 := by decide
      have d1 : w13.cell? ⟨pd, 1, none⟩ = some (.int .i64 1) := HKD.out.cell 1
      have d2 : w13.cell? ⟨pd, 2, none⟩ = some (.int .i64 0) := HKD.out.cell 2
      have HFD := Lib.hid (fitB_own (b := bD) HOD.out HMD.out (by unfold In64 bD; simp) (by unfold In64 bD; simp) (by unfold In64 bD; simp))
      have HFC := Lib.hid HFC13.out
      go_wp2_with fail
      refine (b_Valid (.slice (some ⟨gb, go, none⟩) 1 nD) bD w13 HFD.out).mono ?_
      have evd : BM.okBk bD = true := by decide +kernel
      rw [evd]
      rintro e w14 ⟨rfl, hb14⟩
      have HX14 := Lib.hid hb14
      clear hb14 evd x1 q0 d0 d1 d2 d3 s0 g4 r0' r2' hcv
      go_wp2_with fail
      refine (b_Valid (.slice none 0 0) b0 w14 ⟨HdG.nil, by unfold In64; decide, by unfold In64; decide, by unfold In64; decide⟩).mono ?_
      have evd : BM.okBk b0 = false := by decide +kernel
      rw [evd]
      rintro e w15 ⟨rfl, hb15⟩
      have HX15 := Lib.hid (below_on HX14.out hb15)
      clear hb15 evd HX14
      have HKD15 := (Mod.of_below HX15.out []).whole HKD.out (by simp)
      have HQC15 := (Mod.of_below HX15.out []).whole HQC.out (by simp)
      have d0 : w15.cell? ⟨pd, 0, none⟩ = some (.int .i64 3) := HKD15.cell 0
      have d1 : w15.cell? ⟨pd, 1, none⟩ = some (.int .i64 1) := HKD15.cell 1
      have d2 : w15.cell? ⟨pd, 2, none⟩ = some (.int .i64 0) := HKD15.cell 2
      have d3 : w15.cell? ⟨pd, 3, none⟩ = some (.slice (some ⟨gb, go, none⟩) 1 nD) := HKD15.cell 3
      have c0' : w15.cell? ⟨q, 0, none⟩ = some (.int .i64 2) := HQC15.cell 0
      have c1' : w15.cell? ⟨q, 1, none⟩ = some (.int .i64 1) := HQC15.cell 1
      have c2' : w15.cell? ⟨q, 2, none⟩ = some (.int .i64 0) := HQC15.cell 2
      have c3' : w15.cell? ⟨q, 3, none⟩ = some (.slice AC 1 nC) := HQC15.cell 3
      clear HKD15 HQC15
      go_wp2_with fail
      refine (b_Same (.slice AC 1 nC) (.slice (some ⟨gb, go, none⟩) 1 nD) bC bD w15 (HFC.out.below HX15.out) (HFD.out.below HX15.out)).mono ?_
      have evd : decide (bC = bD) = false := by decide +kernel
      rw [evd]
      rintro e w16 ⟨rfl, hb16⟩
      have HX16 := Lib.hid (below_on HX15.out hb16)
      clear hb16 evd HX15 d0 d1 d2 d3 c0' c1' c2' c3'
      have HKD15 := (Mod.of_below HX16.out []).whole HKD.out (by simp)
      have d0 : w16.cell? ⟨pd, 0, none⟩ = some (.int .i64 3) := HKD15.cell 0
      have d1 : w16.cell? ⟨pd, 1, none⟩ = some (.int .i64 1) := HKD15.cell 1
      have d2 : w16.cell? ⟨pd, 2, none⟩ = some (.int .i64 0) := HKD15.cell 2
      have d3 : w16.cell? ⟨pd, 3, none⟩ = some (.slice (some ⟨gb, go, none⟩) 1 nD) := HKD15.cell 3
      clear HKD15
      go_wp2_with fail
      refine (b_Dump (.slice (some ⟨gb, go, none⟩) 1 nD) bD w16 (HFD.out.below HX16.out)).mono ?_
      rintro e w17 ⟨v17, ps17, rfl, hm17, ho17, hb17⟩
      obtain ⟨A17, n17, hv17, _, _⟩ := own_shape ho17.row
      have hl17 : ps17.length = 2 := by
        have h1 := congrArg List.length hm17
        have h2 : (BM.dump bD).length = 2 := by decide +kernel
        rw [h2, List.length_map] at h1
        exact h1
      rw [hl17] at hv17
      subst hv17
      have HX17 := Lib.hid (below_on HBW.out (below_on HX16.out hb17))
      clear hm17 ho17 hb17 hl17 d0 d1 d2 d3
      go_wp2_with fail
      go_ret
      exact ⟨rfl, HX17.out⟩
end Go.Proofs.Ytboflkadabagfab
