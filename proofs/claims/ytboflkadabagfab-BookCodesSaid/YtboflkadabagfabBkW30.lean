/- Dump: the package's call. -/
import Derived.Test.YtboflkadabagfabBkW29
import Derived.Test.YtboflkadabagfabBkWZ
namespace Go.Proofs.Ytboflkadabagfab
open Go.RowKit
open BM (Gr Rc Bk g0 r0 b0)
set_option linter.unusedVariables false
set_option linter.unusedSimpArgs false
set_option maxRecDepth 100000
def kept (g : Gr) : Rc := { r0 with kind := 3, g := g }
def firstR (b : Bk) : Rc := { r0 with kind := 1, next := b.next, boots := b.boots }
def longR (b : Bk) : Rc := { r0 with kind := 2, longest := b.longest }
theorem dump_eq {b : Bk} (h : BM.okBk b = true) : BM.dump b = (firstR b :: (if b.longest = 0 then [] else [longR b])) ++ b.gs.map kept := by
  unfold BM.dump
  rw [if_pos h]
  rfl
theorem rw_first {b : Bk} (h1 : In64 b.next) (h2 : In64 b.boots) : RW (firstR b) := ⟨rw0.g, rw0.gs, rw0.st, by unfold In64 firstR; simp, rw0.id, h1, h2, rw0.longest⟩
theorem rw_long {b : Bk} (h1 : In64 b.longest) : RW (longR b) := ⟨rw0.g, rw0.gs, rw0.st, by unfold In64 longR; simp, rw0.id, rw0.next, rw0.boots, h1⟩
theorem rw_kept {w : World} {v : Value} {g : Gr} (h : FitG w v g) (hg : BM.okGr g = true) : RW (kept g) := by
  obtain ⟨A, c, _, hs⟩ := h.hd
  have hs4 := (BM.stamp_parts (BM.okGr_parts hg).2.2.2.2.1).2.1
  exact ⟨h.wide, ⟨hs.rng, by show g.stamp.length ≤ 8; omega⟩, rw0.st, by unfold In64 kept; simp, rw0.id, rw0.next, rw0.boots, rw0.longest⟩
set_option maxHeartbeats 8000000 in
theorem dump_no (v : Value) (b : Bk) (w : World) (h : FitB w v b) (hok : BM.okBk b = false) :
    Calls Try.prog 16 #[.agg (four b v)] w (DumpPost w (BM.dump b)) := by
  have HX := Lib.hid ((Below.refl _ w).alloc (Nat.le_refl _) (.cells (four b v) 45))
  have HB := Lib.hid (h.below HX.out)
  have HK := Lib.hid (Whole.new w 45 (four b v))
  have HOK := Lib.hid hok
  clear h hok
  obtain ⟨e0, e1, e2, e3⟩ := four_cells HK.out
  go_enter Try.func16, Try.ntmps16
  go_wp2_with fail
  refine (b_Valid v b _ HB.out).mono ?_
  rintro e w5 ⟨rfl, hb5⟩
  have HX5 := Lib.hid (below_on HX.out hb5)
  clear hb5 e0 e1 e2 e3
  rw [HOK.out]
  go_wp2_with fail
  go_ret
  refine ⟨_, [], rfl, ?_, OwnR.nil, HX5.out⟩
  unfold BM.dump
  rw [HOK.out]
  rfl
set_option maxHeartbeats 8000000 in
theorem dump_zero (v : Value) (b : Bk) (w : World) (h : FitB w v b) (hok : BM.okBk b = true) (hlg : b.longest = 0) :
    Calls Try.prog 16 #[.agg (four b v)] w (DumpPost w (BM.dump b)) := by
  obtain ⟨A, c, rfl, hA, ha, hc, hca⟩ := h.gs
  have HA := Lib.hid hA
  clear hA ha hc hca
  have HX := Lib.hid ((Below.refl _ w).alloc (Nat.le_refl _) (.cells (four b (.slice A b.gs.length c)) 45))
  have HB := Lib.hid (h.below HX.out)
  have HK := Lib.hid (Whole.new w 45 (four b (.slice A b.gs.length c)))
  have HOK := Lib.hid hok
  have HFB := Lib.hid (And.intro h.next (And.intro h.boots h.longest))
  have HP := Lib.hid (BM.okBk_parts hok)
  have HL := Lib.hid hlg
  have HD := Lib.hid (show BM.dump b = [firstR b] ++ b.gs.map kept by rw [dump_eq hok, if_pos hlg])
  clear h hok hlg
  obtain ⟨e0, e1, e2, e3⟩ := four_cells HK.out
  go_enter Try.func16, Try.ntmps16
  go_wp2_with fail
  refine (b_Valid (.slice A b.gs.length c) b _ HB.out).mono ?_
  rintro e w5 ⟨rfl, hb5⟩
  have HX5 := Lib.hid (below_on HX.out hb5)
  have HB5 := Lib.hid (HB.out.below hb5)
  have HK5 := Lib.hid ((Mod.of_below hb5 []).whole HK.out (by simp))
  have hs5 := hb5.size
  clear hb5 e0 e1 e2 e3 HX HB HK
  have HS5 := Lib.hid (show w.heap.size + 1 ≤ w5.heap.size by simp at hs5; exact hs5)
  clear hs5
  rw [HOK.out]
  have HX6 := Lib.hid (HX5.out.alloc HX5.out.size (.cells #[.int .i64 1, .int .i64 0, .int .i64 0, .string ⟨#[]⟩, .int .i64 0, .slice none 0 0, .int .i64 0, .int .i64 0, .slice none 0 0, .int .i64 b.next, .int .i64 b.boots, .int .i64 0] 28))
  have HB6 := Lib.hid (HB5.out.below ((Below.refl _ w5).alloc (Nat.le_refl _) (.cells #[.int .i64 1, .int .i64 0, .int .i64 0, .string ⟨#[]⟩, .int .i64 0, .slice none 0 0, .int .i64 0, .int .i64 0, .slice none 0 0, .int .i64 b.next, .int .i64 b.boots, .int .i64 0] 28)))
  have HK6 := Lib.hid (HK5.out.alloc (.cells #[.int .i64 1, .int .i64 0, .int .i64 0, .string ⟨#[]⟩, .int .i64 0, .slice none 0 0, .int .i64 0, .int .i64 0, .slice none 0 0, .int .i64 b.next, .int .i64 b.boots, .int .i64 0] 28))
  have HO6 := Lib.hid (OwnR.one (w := w5.alloc (.cells #[.int .i64 1, .int .i64 0, .int .i64 0, .string ⟨#[]⟩, .int .i64 0, .slice none 0 0, .int .i64 0, .int .i64 0, .slice none 0 0, .int .i64 b.next, .int .i64 b.boots, .int .i64 0] 28)) (base := w.heap.size + 1) (r := firstR b) HS5.out (Whole.new w5 28 (twelve (firstR b) (.slice none 0 0) (.slice none 0 0))) (World.ownsRow_nil _ _ _ _) (World.ownsRow_nil _ _ _ _) (rw_first HFB.out.1 HFB.out.2.1))
  have HS6 := Lib.hid (show w.heap.size + 1 ≤ (w5.alloc (.cells #[.int .i64 1, .int .i64 0, .int .i64 0, .string ⟨#[]⟩, .int .i64 0, .slice none 0 0, .int .i64 0, .int .i64 0, .slice none 0 0, .int .i64 b.next, .int .i64 b.boots, .int .i64 0] 28)).heap.size by have := HS5.out; simp; omega)
  have HW5 := Lib.hid (Nat.le_refl w5.heap.size)
  obtain ⟨e0, e1, e2, e3⟩ := four_cells HK5.out
  obtain ⟨x0, x1, x2, x3⟩ := four_cells HK6.out
  have hl := HL.out
  rw [hl] at x2
  clear hl
  go_wp2_with fail
  generalize w5.alloc (.cells #[.int .i64 1, .int .i64 0, .int .i64 0, .string ⟨#[]⟩, .int .i64 0, .slice none 0 0, .int .i64 0, .int .i64 0, .slice none 0 0, .int .i64 b.next, .int .i64 b.boots, .int .i64 0] 28) = w6 at HX6 HB6 HK6 HO6 HS6 x0 x1 x2 x3 ⊢
  have HQ : ∃ ps0, Hid (OwnR w6 (w.heap.size + 1) (.slice (some ⟨w5.heap.size, 0, none⟩) 1 1) ps0) ∧ Hid (ps0.map Prod.fst = [firstR b]) ∧ Hid (ps0.length ≤ 2) := ⟨_, HO6, Lib.hid rfl, Lib.hid (by simp)⟩
  clear HO6 x0 x1 x2 x3 HB6 HK6
  obtain ⟨ps0, HO0, HM0, HN0⟩ := HQ
  clear HX5 HB5 HK5 HS5 HW5 HOK e0 e1 e2 e3
  have HGS := Lib.hid (show b.gs.length ≤ 6 from HP.out.2.2.2.1)
  have hgs6 : b.gs.length ≤ 6 := HGS.out
  go_loopw [3, 5, 27] (fun L _ i wx => ∃ (k : Nat) (ps : List (Rc × Value × Value)), i = .int .i64 (k : Int) ∧ k ≤ b.gs.length ∧ Hid (OwnR wx (w.heap.size + 1) L ps) ∧ Hid (ps.map Prod.fst = [firstR b] ++ (b.gs.take k).map kept) ∧ Hid (Below w.heap.size w wx) ∧ Hid (w.heap.size + 1 ≤ wx.heap.size)) (fun _ _ i _ => b.gs.length - (intOf i).toNat)
  case atStart => exact ⟨0, ps0, rfl, by omega, HO0, Lib.hid (by rw [HM0.out]; simp), HX6, HS6⟩
  case round =>
    obtain ⟨k, ps, rfl, hk, HO, HM, HB, HS⟩ := hrel
    by_cases hlt : k < b.gs.length
    · have HLN := Lib.hid (show ps.length ≤ 1000 by have := congrArg List.length HM.out; have := HN0.out; have := HGS.out; simp at *; omega)
      obtain ⟨ba, oa, eA, hza, hca'⟩ := (HA.out.below HB.out) (by omega)
      subst eA
      obtain ⟨Ax, cx, ⟨a0, a1, a2, a3, a4, a5⟩, hfa⟩ := (hca' k b.gs[k] (List.getElem?_eq_getElem hlt)).open_
      have HRW := Lib.hid (rw_kept hfa (BM.stand_ok HP.out.2.2.2.2 _ (List.getElem_mem hlt)).1)
      have HFA := Lib.hid hfa; clear hfa
      clear hca'
      have HTK := Lib.hid (show b.gs.take (k + 1) = b.gs.take k ++ [b.gs[k]] by rw [List.take_add_one, List.getElem?_eq_getElem hlt]; rfl)
      generalize b.gs[k] = x at HFA a0 a1 a2 a3 a4 a5 HTK HRW
      have HX0 := Lib.hid ((Below.refl _ wr).alloc (Nat.le_refl _) (.cells (six x (.slice Ax x.stamp.length cx)) 26))
      go_wp2_with fail
      refine (b_copied (.slice Ax x.stamp.length cx) x _ (HFA.out.below HX0.out)).mono ?_
      rintro e w8 ⟨nv, rfl, ho, hb8⟩
      have HO8 := Lib.hid (own_low ho (show w.heap.size + 1 ≤ _ by have := HX0.out.size; have := HS.out; omega))
      obtain ⟨An, cn, hv, _, _⟩ := own_shape ho
      subst hv
      have HX8 := Lib.hid (HX0.out.trans (hb8.mono HX0.out.size))
      have HR8 := Lib.hid (HO.out.below HX8.out)
      have HB8 := Lib.hid (below_on HB.out HX8.out)
      have HS8 := Lib.hid (Nat.le_trans HS.out HX8.out.size)
      clear ho hb8 a0 a1 a2 a3 a4 a5 HX0 HX8
      have HX9 := Lib.hid ((Below.refl _ w8).alloc (Nat.le_refl _) (.cells #[.int .i64 3, .int .i64 x.id, .int .i64 x.holder, .string x.path, .int .i64 x.mode, .slice An x.stamp.length cn, .int .i64 x.term, .int .i64 0, .slice none 0 0, .int .i64 0, .int .i64 0, .int .i64 0] 28))
      have HR9 := Lib.hid (HR8.out.below HX9.out)
      have HO9 := Lib.hid ((Mod.of_below HX9.out []).own HO8.out (by simp))
      have HP9 := Lib.hid (show Whole (w8.alloc (.cells #[.int .i64 3, .int .i64 x.id, .int .i64 x.holder, .string x.path, .int .i64 x.mode, .slice An x.stamp.length cn, .int .i64 x.term, .int .i64 0, .slice none 0 0, .int .i64 0, .int .i64 0, .int .i64 0] 28)) w8.heap.size 28 (twelve (kept x) (.slice An x.stamp.length cn) (.slice none 0 0)) from Whole.new w8 _ _)
      have HB9 := Lib.hid (below_on HB8.out HX9.out)
      have HS9 := Lib.hid (Nat.le_trans HS8.out HX9.out.size)
      have HLT := Lib.hid hlt
      clear HX9 HR8 HO8 HB8 HS8
      unfold six
      go_wp2_with (at_builtin; refine list_app_rec rfl (.tmp 31) (.tmp 35) rfl HR9.out (r := kept x) (gv := .slice An x.stamp.length cn) (sv := .slice none 0 0) HP9.out HLN.out HS9.out HO9.out (World.ownsRow_nil _ _ _ _) HRW.out rfl rfl ?_; intro v' w2 h2 h3; have H2 := Lib.hid h2; have H3 := Lib.hid h3; clear h2 h3)
      go_roundw
      case rel => exact ⟨k + 1, _, rfl, HLT.out, H2, Lib.hid (by rw [List.map_append, HM.out, HTK.out]; simp), Lib.hid (HB9.out.trans (H3.out.below HB9.out.size (fun y hy => by have := (HR9.out.row.lt y (by simpa using hy)).1; omega))), Lib.hid (Nat.le_trans HS9.out H3.out.size)⟩
      case measure => simp only [intOf]; have := HLT.out; omega
    · have HMM := Lib.hid (show ps.map Prod.fst = BM.dump b by rw [HD.out, HM.out, List.take_of_length_le (by omega)])
      go_wp2_with fail
      go_ret
      exact ⟨_, ps, rfl, HMM.out, HO.out.low (by omega), HB.out⟩
set_option maxHeartbeats 8000000 in
theorem dump_more (v : Value) (b : Bk) (w : World) (h : FitB w v b) (hok : BM.okBk b = true) (hlg : b.longest ≠ 0) :
    Calls Try.prog 16 #[.agg (four b v)] w (DumpPost w (BM.dump b)) := by
  obtain ⟨A, c, rfl, hA, ha, hc, hca⟩ := h.gs
  have HA := Lib.hid hA
  clear hA ha hc hca
  have HX := Lib.hid ((Below.refl _ w).alloc (Nat.le_refl _) (.cells (four b (.slice A b.gs.length c)) 45))
  have HB := Lib.hid (h.below HX.out)
  have HK := Lib.hid (Whole.new w 45 (four b (.slice A b.gs.length c)))
  have HOK := Lib.hid hok
  have HFB := Lib.hid (And.intro h.next (And.intro h.boots h.longest))
  have HP := Lib.hid (BM.okBk_parts hok)
  have HL := Lib.hid hlg
  have HD := Lib.hid (show BM.dump b = [firstR b, longR b] ++ b.gs.map kept by rw [dump_eq hok, if_neg hlg])
  clear h hok hlg
  obtain ⟨e0, e1, e2, e3⟩ := four_cells HK.out
  go_enter Try.func16, Try.ntmps16
  go_wp2_with fail
  refine (b_Valid (.slice A b.gs.length c) b _ HB.out).mono ?_
  rintro e w5 ⟨rfl, hb5⟩
  have HX5 := Lib.hid (below_on HX.out hb5)
  have HB5 := Lib.hid (HB.out.below hb5)
  have HK5 := Lib.hid ((Mod.of_below hb5 []).whole HK.out (by simp))
  have hs5 := hb5.size
  clear hb5 e0 e1 e2 e3 HX HB HK
  have HS5 := Lib.hid (show w.heap.size + 1 ≤ w5.heap.size by simp at hs5; exact hs5)
  clear hs5
  rw [HOK.out]
  have HX6 := Lib.hid (HX5.out.alloc HX5.out.size (.cells #[.int .i64 1, .int .i64 0, .int .i64 0, .string ⟨#[]⟩, .int .i64 0, .slice none 0 0, .int .i64 0, .int .i64 0, .slice none 0 0, .int .i64 b.next, .int .i64 b.boots, .int .i64 0] 28))
  have HB6 := Lib.hid (HB5.out.below ((Below.refl _ w5).alloc (Nat.le_refl _) (.cells #[.int .i64 1, .int .i64 0, .int .i64 0, .string ⟨#[]⟩, .int .i64 0, .slice none 0 0, .int .i64 0, .int .i64 0, .slice none 0 0, .int .i64 b.next, .int .i64 b.boots, .int .i64 0] 28)))
  have HK6 := Lib.hid (HK5.out.alloc (.cells #[.int .i64 1, .int .i64 0, .int .i64 0, .string ⟨#[]⟩, .int .i64 0, .slice none 0 0, .int .i64 0, .int .i64 0, .slice none 0 0, .int .i64 b.next, .int .i64 b.boots, .int .i64 0] 28))
  have HO6 := Lib.hid (OwnR.one (w := w5.alloc (.cells #[.int .i64 1, .int .i64 0, .int .i64 0, .string ⟨#[]⟩, .int .i64 0, .slice none 0 0, .int .i64 0, .int .i64 0, .slice none 0 0, .int .i64 b.next, .int .i64 b.boots, .int .i64 0] 28)) (base := w.heap.size + 1) (r := firstR b) HS5.out (Whole.new w5 28 (twelve (firstR b) (.slice none 0 0) (.slice none 0 0))) (World.ownsRow_nil _ _ _ _) (World.ownsRow_nil _ _ _ _) (rw_first HFB.out.1 HFB.out.2.1))
  have HS6 := Lib.hid (show w.heap.size + 1 ≤ (w5.alloc (.cells #[.int .i64 1, .int .i64 0, .int .i64 0, .string ⟨#[]⟩, .int .i64 0, .slice none 0 0, .int .i64 0, .int .i64 0, .slice none 0 0, .int .i64 b.next, .int .i64 b.boots, .int .i64 0] 28)).heap.size by have := HS5.out; simp; omega)
  have HW5 := Lib.hid (Nat.le_refl w5.heap.size)
  obtain ⟨e0, e1, e2, e3⟩ := four_cells HK5.out
  obtain ⟨x0, x1, x2, x3⟩ := four_cells HK6.out
  have hl := HL.out
  have HA7 := Lib.hid ((Below.refl _ (w5.alloc (.cells #[.int .i64 1, .int .i64 0, .int .i64 0, .string ⟨#[]⟩, .int .i64 0, .slice none 0 0, .int .i64 0, .int .i64 0, .slice none 0 0, .int .i64 b.next, .int .i64 b.boots, .int .i64 0] 28))).alloc (Nat.le_refl _) (.cells #[.int .i64 2, .int .i64 0, .int .i64 0, .string ⟨#[]⟩, .int .i64 0, .slice none 0 0, .int .i64 0, .int .i64 0, .slice none 0 0, .int .i64 0, .int .i64 0, .int .i64 b.longest] 28))
  have HX7 := Lib.hid (below_on HX6.out HA7.out)
  have HK7 := Lib.hid ((Mod.of_below HA7.out []).whole HK6.out (by simp))
  have HO7 := Lib.hid (HO6.out.below HA7.out)
  have HS7 := Lib.hid (Nat.le_trans HS6.out HA7.out.size)
  have HP7 := Lib.hid (show Whole ((w5.alloc (.cells #[.int .i64 1, .int .i64 0, .int .i64 0, .string ⟨#[]⟩, .int .i64 0, .slice none 0 0, .int .i64 0, .int .i64 0, .slice none 0 0, .int .i64 b.next, .int .i64 b.boots, .int .i64 0] 28)).alloc (.cells #[.int .i64 2, .int .i64 0, .int .i64 0, .string ⟨#[]⟩, .int .i64 0, .slice none 0 0, .int .i64 0, .int .i64 0, .slice none 0 0, .int .i64 0, .int .i64 0, .int .i64 b.longest] 28)) (w5.heap.size + 1) 28 (twelve (longR b) (.slice none 0 0) (.slice none 0 0)) from by have h := Whole.new (w5.alloc (.cells #[.int .i64 1, .int .i64 0, .int .i64 0, .string ⟨#[]⟩, .int .i64 0, .slice none 0 0, .int .i64 0, .int .i64 0, .slice none 0 0, .int .i64 b.next, .int .i64 b.boots, .int .i64 0] 28)) 28 #[.int .i64 2, .int .i64 0, .int .i64 0, .string ⟨#[]⟩, .int .i64 0, .slice none 0 0, .int .i64 0, .int .i64 0, .slice none 0 0, .int .i64 0, .int .i64 0, .int .i64 b.longest]; have e : (w5.alloc (.cells #[.int .i64 1, .int .i64 0, .int .i64 0, .string ⟨#[]⟩, .int .i64 0, .slice none 0 0, .int .i64 0, .int .i64 0, .slice none 0 0, .int .i64 b.next, .int .i64 b.boots, .int .i64 0] 28)).heap.size = w5.heap.size + 1 := (by simp); rw [e] at h; exact h)
  clear HX6 HK6 HO6 HS6 HA7 HB6
  go_wp2_with (at_builtin; refine list_app_rec rfl (.tmp 18) (.tmp 22) rfl HO7.out (r := longR b) (gv := .slice none 0 0) (sv := .slice none 0 0) HP7.out (by simp) HS7.out (World.ownsRow_nil _ _ _ _) (World.ownsRow_nil _ _ _ _) (rw_long HFB.out.2.2) rfl rfl ?_; intro v6 w6 h2 h3; have HO6 := Lib.hid h2; have HM6 := Lib.hid h3; clear h2 h3; obtain ⟨y0, y1, y2, y3⟩ := four_cells (HM6.out.whole HK7.out (by have := HS5.out; simp [Value.ownBlock]; omega)))
  have HX6 := Lib.hid (HX7.out.trans (HM6.out.below HX7.out.size (fun y hy => by have := (HO7.out.row.lt y (by simpa using hy)).1; omega)))
  have HS6 := Lib.hid (Nat.le_trans HS7.out HM6.out.size)
  have HQ : ∃ ps0, Hid (OwnR w6 (w.heap.size + 1) v6 ps0) ∧ Hid (ps0.map Prod.fst = [firstR b, longR b]) ∧ Hid (ps0.length ≤ 2) := ⟨_, HO6, Lib.hid rfl, Lib.hid (by simp)⟩
  clear HO6 x0 x1 x2 x3 y0 y1 y2 y3 HM6 HX7 HK7 HO7 HS7 HP7 hl
  obtain ⟨ps0, HO0, HM0, HN0⟩ := HQ
  clear HX5 HB5 HK5 HS5 HW5 HOK e0 e1 e2 e3
  have HGS := Lib.hid (show b.gs.length ≤ 6 from HP.out.2.2.2.1)
  have hgs6 : b.gs.length ≤ 6 := HGS.out
  go_loopw [3, 5, 27] (fun L _ i wx => ∃ (k : Nat) (ps : List (Rc × Value × Value)), i = .int .i64 (k : Int) ∧ k ≤ b.gs.length ∧ Hid (OwnR wx (w.heap.size + 1) L ps) ∧ Hid (ps.map Prod.fst = [firstR b, longR b] ++ (b.gs.take k).map kept) ∧ Hid (Below w.heap.size w wx) ∧ Hid (w.heap.size + 1 ≤ wx.heap.size)) (fun _ _ i _ => b.gs.length - (intOf i).toNat)
  case atStart => exact ⟨0, ps0, rfl, by omega, HO0, Lib.hid (by rw [HM0.out]; simp), HX6, HS6⟩
  case round =>
    obtain ⟨k, ps, rfl, hk, HO, HM, HB, HS⟩ := hrel
    by_cases hlt : k < b.gs.length
    · have HLN := Lib.hid (show ps.length ≤ 1000 by have := congrArg List.length HM.out; have := HN0.out; have := HGS.out; simp at *; omega)
      obtain ⟨ba, oa, eA, hza, hca'⟩ := (HA.out.below HB.out) (by omega)
      subst eA
      obtain ⟨Ax, cx, ⟨a0, a1, a2, a3, a4, a5⟩, hfa⟩ := (hca' k b.gs[k] (List.getElem?_eq_getElem hlt)).open_
      have HRW := Lib.hid (rw_kept hfa (BM.stand_ok HP.out.2.2.2.2 _ (List.getElem_mem hlt)).1)
      have HFA := Lib.hid hfa; clear hfa
      clear hca'
      have HTK := Lib.hid (show b.gs.take (k + 1) = b.gs.take k ++ [b.gs[k]] by rw [List.take_add_one, List.getElem?_eq_getElem hlt]; rfl)
      generalize b.gs[k] = x at HFA a0 a1 a2 a3 a4 a5 HTK HRW
      have HX0 := Lib.hid ((Below.refl _ wr).alloc (Nat.le_refl _) (.cells (six x (.slice Ax x.stamp.length cx)) 26))
      go_wp2_with fail
      refine (b_copied (.slice Ax x.stamp.length cx) x _ (HFA.out.below HX0.out)).mono ?_
      rintro e w8 ⟨nv, rfl, ho, hb8⟩
      have HO8 := Lib.hid (own_low ho (show w.heap.size + 1 ≤ _ by have := HX0.out.size; have := HS.out; omega))
      obtain ⟨An, cn, hv, _, _⟩ := own_shape ho
      subst hv
      have HX8 := Lib.hid (HX0.out.trans (hb8.mono HX0.out.size))
      have HR8 := Lib.hid (HO.out.below HX8.out)
      have HB8 := Lib.hid (below_on HB.out HX8.out)
      have HS8 := Lib.hid (Nat.le_trans HS.out HX8.out.size)
      clear ho hb8 a0 a1 a2 a3 a4 a5 HX0 HX8
      have HX9 := Lib.hid ((Below.refl _ w8).alloc (Nat.le_refl _) (.cells #[.int .i64 3, .int .i64 x.id, .int .i64 x.holder, .string x.path, .int .i64 x.mode, .slice An x.stamp.length cn, .int .i64 x.term, .int .i64 0, .slice none 0 0, .int .i64 0, .int .i64 0, .int .i64 0] 28))
      have HR9 := Lib.hid (HR8.out.below HX9.out)
      have HO9 := Lib.hid ((Mod.of_below HX9.out []).own HO8.out (by simp))
      have HP9 := Lib.hid (show Whole (w8.alloc (.cells #[.int .i64 3, .int .i64 x.id, .int .i64 x.holder, .string x.path, .int .i64 x.mode, .slice An x.stamp.length cn, .int .i64 x.term, .int .i64 0, .slice none 0 0, .int .i64 0, .int .i64 0, .int .i64 0] 28)) w8.heap.size 28 (twelve (kept x) (.slice An x.stamp.length cn) (.slice none 0 0)) from Whole.new w8 _ _)
      have HB9 := Lib.hid (below_on HB8.out HX9.out)
      have HS9 := Lib.hid (Nat.le_trans HS8.out HX9.out.size)
      have HLT := Lib.hid hlt
      clear HX9 HR8 HO8 HB8 HS8
      unfold six
      go_wp2_with (at_builtin; refine list_app_rec rfl (.tmp 31) (.tmp 35) rfl HR9.out (r := kept x) (gv := .slice An x.stamp.length cn) (sv := .slice none 0 0) HP9.out HLN.out HS9.out HO9.out (World.ownsRow_nil _ _ _ _) HRW.out rfl rfl ?_; intro v' w2 h2 h3; have H2 := Lib.hid h2; have H3 := Lib.hid h3; clear h2 h3)
      go_roundw
      case rel => exact ⟨k + 1, _, rfl, HLT.out, H2, Lib.hid (by rw [List.map_append, HM.out, HTK.out]; simp), Lib.hid (HB9.out.trans (H3.out.below HB9.out.size (fun y hy => by have := (HR9.out.row.lt y (by simpa using hy)).1; omega))), Lib.hid (Nat.le_trans HS9.out H3.out.size)⟩
      case measure => simp only [intOf]; have := HLT.out; omega
    · have HMM := Lib.hid (show ps.map Prod.fst = BM.dump b by rw [HD.out, HM.out, List.take_of_length_le (by omega)])
      go_wp2_with fail
      go_ret
      exact ⟨_, ps, rfl, HMM.out, HO.out.low (by omega), HB.out⟩
theorem b_Dump (v : Value) (b : Bk) (w : World) (h : FitB w v b) : Calls Try.prog 16 #[.agg (four b v)] w (DumpPost w (BM.dump b)) := by
  cases hok : BM.okBk b with
  | false => exact dump_no v b w h hok
  | true =>
    by_cases hl : b.longest = 0
    · exact dump_zero v b w h hok hl
    · exact dump_more v b w h hok hl
end Go.Proofs.Ytboflkadabagfab
