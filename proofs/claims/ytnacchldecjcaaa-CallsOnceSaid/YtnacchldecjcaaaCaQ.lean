/- An open call's Ask: Ask. -/
import Derived.Test.YtnacchldecjcaaaCaMay
import Derived.Test.YtnacchldecjcaaaCaSet
namespace Go.Proofs.Ytnacchldecjcaaa
open Go.RowKit
open CA (Cl St)
open WM (Msg)
set_option linter.unusedVariables false
set_option linter.unusedSimpArgs false
set_option maxRecDepth 100000
def zeroA : Value := .agg (cellsM WM.zero (.slice none 0 0))
theorem asks_valid {s : St} (h : CA.Inv s) {frm q : Int} (hh : CA.has s q = true) : WM.valid (CA.askM (CA.get s q) frm s.boot q (CA.low s)) = CA.asks s frm q := by
  obtain ⟨hx, e⟩ := CA.get_mem hh
  have h1 := h.lo _ hx
  have h2 := h.next
  rw [CA.valid_ask (h.may _ hx) (CA.count_of h.boot) (CA.count_of (by omega)) ⟨h.low_rng.1, by have := h.low_le _ hx; omega⟩]
  unfold CA.asks
  rw [hh, Bool.true_and]
section
variable {w : World} {g M : Nat} {s : St}
set_option maxHeartbeats 4000000 in
theorem Ask_no (h : CallsAt w g M s) (frm q : Int) (hh : CA.has s q = false) : Calls Try.prog 15 #[.pointer (some ⟨g, 0, none⟩), .int .i64 frm, .int .i64 q] w fun e w' => e = .returned (.tuple #[zeroA, .bool false]) ∧ Below w.heap.size w w' := by
  have hz := fun w : World => Try.zeroValue32 w
  have hz2 := fun w : World => Try.zeroValue45 w
  have HX := Lib.hid ((Below.refl _ w).alloc (Nat.le_refl _) (.cells (cellsM WM.zero (.slice none 0 0)) 45))
  have HR := Lib.hid (show MsgBlk (w.alloc (.cells (cellsM WM.zero (.slice none 0 0)) 45)) w.heap.size WM.zero (.slice none 0 0) from Whole.new w _ _)
  have HC := Lib.hid (h.below ((Below.refl _ w).alloc (Nat.le_refl _) (.cells (cellsM WM.zero (.slice none 0 0)) 45)))
  have HG := Lib.hid (Get_any HC.out q)
  rw [hh, CA.get_no hh] at HG
  clear h hh
  rw [show cellsM WM.zero (.slice none 0 0) = #[.int .i64 0, .int .i64 0, .int .i64 0, .int .i64 0, .int .i64 0, .int .i64 0, .int .i64 0, .string ⟨#[]⟩, .int .i64 0, .int .i64 0, .int .i64 0, .bool false, .int .i64 0, .slice none 0 0, .int .i64 0, .int .i64 0] from rfl] at HX HR HC HG
  go_enter Try.func15, Try.ntmps15
  go_wp2_with fail
  generalize w.alloc _ = w1 at HX HR HG HC ⊢
  refine HG.out.mono ?_
  rintro e w2 ⟨rfl, hb⟩
  have HX2 := Lib.hid (below_on HX.out hb)
  have HR2 := Lib.hid ((Mod.of_below hb []).whole HR.out (by simp))
  clear hb HX HR HC HG
  unfold aggC
  rw [show ten CA.zero = #[.int .i64 0, .int .i64 0, .int .i64 0, .string ⟨#[]⟩, .int .i64 0, .int .i64 0, .int .i64 0, .bool false, .int .i64 0, .int .i64 0] from rfl]
  have HX3 := Lib.hid (HX2.out.alloc HX2.out.size (.cells #[.int .i64 0, .int .i64 0, .int .i64 0, .string ⟨#[]⟩, .int .i64 0, .int .i64 0, .int .i64 0, .bool false, .int .i64 0, .int .i64 0] 32))
  have HR3 := Lib.hid (show MsgBlk (w2.alloc (.cells #[.int .i64 0, .int .i64 0, .int .i64 0, .string ⟨#[]⟩, .int .i64 0, .int .i64 0, .int .i64 0, .bool false, .int .i64 0, .int .i64 0] 32)) w.heap.size WM.zero (.slice none 0 0) from HR2.out.alloc _)
  clear HX2 HR2
  go_upto_region 2 with (fail)
  generalize w2.alloc _ = w3 at HX3 HR3 ⊢
  have hrow := row16 HR3.out WM.zero (.slice none 0 0)
  have HX9 := Lib.hid (HX3.out.trans (hrow.2.below HX3.out.size (by simp)))
  have HR9 := Lib.hid hrow.1
  clear hrow
  go_wp2_with (refine wpList_store_row rfl 45 (.tmp 6) (.tmp 19) rfl w.heap.size (cellsM WM.zero (.slice none 0 0)) rfl rfl 45 _ HR3.out (by kernel_rfl) rfl (by simp [cellsM, WM.zero, Value.oneCell']) ?_)
  generalize (World.setRow _ _ _) = w9 at HX9 HR9 ⊢
  obtain ⟨c0, c1, c2, c3, c4, c5, c6, c7, c8, c9, c10, c11, c12, c13, c14, c15⟩ := msg_cells HR9.out
  refine bodyPost_ret (v := .tuple #[zeroA, .bool false]) ?_ rfl ?_
  · rw [results_cell_tmp rfl]
    go_simp
    try rfl
  · exact ⟨rfl, HX9.out⟩
set_option maxHeartbeats 4000000 in
theorem Ask_nil (w : World) (frm q : Int) : Calls Try.prog 15 #[.pointer none, .int .i64 frm, .int .i64 q] w fun e w' => e = .returned (.tuple #[zeroA, .bool false]) ∧ Below w.heap.size w w' := by
  have hz := fun w : World => Try.zeroValue32 w
  have hz2 := fun w : World => Try.zeroValue45 w
  have HX := Lib.hid ((Below.refl _ w).alloc (Nat.le_refl _) (.cells (cellsM WM.zero (.slice none 0 0)) 45))
  have HR := Lib.hid (show MsgBlk (w.alloc (.cells (cellsM WM.zero (.slice none 0 0)) 45)) w.heap.size WM.zero (.slice none 0 0) from Whole.new w _ _)
  have HG := Lib.hid (Get_nil (w.alloc (.cells (cellsM WM.zero (.slice none 0 0)) 45)) q)
  rw [show cellsM WM.zero (.slice none 0 0) = #[.int .i64 0, .int .i64 0, .int .i64 0, .int .i64 0, .int .i64 0, .int .i64 0, .int .i64 0, .string ⟨#[]⟩, .int .i64 0, .int .i64 0, .int .i64 0, .bool false, .int .i64 0, .slice none 0 0, .int .i64 0, .int .i64 0] from rfl] at HX HR HG
  go_enter Try.func15, Try.ntmps15
  go_wp2_with fail
  generalize w.alloc _ = w1 at HX HR HG ⊢
  refine HG.out.mono ?_
  rintro e w2 ⟨rfl, hb⟩
  have HX2 := Lib.hid (below_on HX.out hb)
  have HR2 := Lib.hid ((Mod.of_below hb []).whole HR.out (by simp))
  clear hb HX HR HG
  unfold aggC
  rw [show ten CA.zero = #[.int .i64 0, .int .i64 0, .int .i64 0, .string ⟨#[]⟩, .int .i64 0, .int .i64 0, .int .i64 0, .bool false, .int .i64 0, .int .i64 0] from rfl]
  have HX3 := Lib.hid (HX2.out.alloc HX2.out.size (.cells #[.int .i64 0, .int .i64 0, .int .i64 0, .string ⟨#[]⟩, .int .i64 0, .int .i64 0, .int .i64 0, .bool false, .int .i64 0, .int .i64 0] 32))
  have HR3 := Lib.hid (show MsgBlk (w2.alloc (.cells #[.int .i64 0, .int .i64 0, .int .i64 0, .string ⟨#[]⟩, .int .i64 0, .int .i64 0, .int .i64 0, .bool false, .int .i64 0, .int .i64 0] 32)) w.heap.size WM.zero (.slice none 0 0) from HR2.out.alloc _)
  clear HX2 HR2
  go_upto_region 2 with (fail)
  generalize w2.alloc _ = w3 at HX3 HR3 ⊢
  have hrow := row16 HR3.out WM.zero (.slice none 0 0)
  have HX9 := Lib.hid (HX3.out.trans (hrow.2.below HX3.out.size (by simp)))
  have HR9 := Lib.hid hrow.1
  clear hrow
  go_wp2_with (refine wpList_store_row rfl 45 (.tmp 6) (.tmp 19) rfl w.heap.size (cellsM WM.zero (.slice none 0 0)) rfl rfl 45 _ HR3.out (by kernel_rfl) rfl (by simp [cellsM, WM.zero, Value.oneCell']) ?_)
  generalize (World.setRow _ _ _) = w9 at HX9 HR9 ⊢
  obtain ⟨c0, c1, c2, c3, c4, c5, c6, c7, c8, c9, c10, c11, c12, c13, c14, c15⟩ := msg_cells HR9.out
  refine bodyPost_ret (v := .tuple #[zeroA, .bool false]) ?_ rfl ?_
  · rw [results_cell_tmp rfl]
    go_simp
    try rfl
  · exact ⟨rfl, HX9.out⟩
set_option maxHeartbeats 4000000 in
theorem Ask_not (h : CallsAt w g M s) (frm q : Int) (hfr : In64 frm) (hh : CA.has s q = true) (ha : CA.asks s frm q = false) : Calls Try.prog 15 #[.pointer (some ⟨g, 0, none⟩), .int .i64 frm, .int .i64 q] w fun e w' => e = .returned (.tuple #[zeroA, .bool false]) ∧ Below w.heap.size w w' := by
  have hz := fun w : World => Try.zeroValue32 w
  have hz2 := fun w : World => Try.zeroValue45 w
  have HX := Lib.hid ((Below.refl _ w).alloc (Nat.le_refl _) (.cells (cellsM WM.zero (.slice none 0 0)) 45))
  have HR := Lib.hid (show MsgBlk (w.alloc (.cells (cellsM WM.zero (.slice none 0 0)) 45)) w.heap.size WM.zero (.slice none 0 0) from Whole.new w _ _)
  have HC := Lib.hid (h.below ((Below.refl _ w).alloc (Nat.le_refl _) (.cells (cellsM WM.zero (.slice none 0 0)) 45)))
  have HG := Lib.hid (Get_any HC.out q)
  have HH := Lib.hid (asks_valid (frm := frm) h.inv hh)
  have HIN := Lib.hid h.inv
  have HWX := Lib.hid (h.get_wide q)
  have HFR := Lib.hid hfr
  have HQ := Lib.hid (show In64 q by obtain ⟨hx, e⟩ := CA.get_mem hh; have := h.inv.lo _ hx; have := h.inv.next; unfold In64; omega)
  rw [hh] at HG
  rw [ha] at HH
  clear h hh ha hfr
  rw [show cellsM WM.zero (.slice none 0 0) = #[.int .i64 0, .int .i64 0, .int .i64 0, .int .i64 0, .int .i64 0, .int .i64 0, .int .i64 0, .string ⟨#[]⟩, .int .i64 0, .int .i64 0, .int .i64 0, .bool false, .int .i64 0, .slice none 0 0, .int .i64 0, .int .i64 0] from rfl] at HX HR HC HG
  go_enter Try.func15, Try.ntmps15
  go_wp2_with fail
  generalize w.alloc _ = w1 at HX HR HG HC ⊢
  refine HG.out.mono ?_
  rintro e w2 ⟨rfl, hb⟩
  have HX2 := Lib.hid (below_on HX.out hb)
  have HR2 := Lib.hid ((Mod.of_below hb []).whole HR.out (by simp))
  have HC2 := Lib.hid (HC.out.below hb)
  clear hb HX HR HC HG
  generalize hgx : CA.get s q = x at *
  have HGX := Lib.hid hgx; clear hgx
  have HX3 := Lib.hid (HX2.out.alloc HX2.out.size (.cells (ten x) 32))
  have HR3 := Lib.hid (show MsgBlk (w2.alloc (.cells (ten x) 32)) w.heap.size WM.zero (.slice none 0 0) from HR2.out.alloc _)
  have HC3 := Lib.hid (HC2.out.below ((Below.refl _ w2).alloc (Nat.le_refl _) (.cells (ten x) 32)))
  have HK3 := Lib.hid (show ClBlk (w2.alloc (.cells (ten x) 32)) w2.heap.size x from Whole.new w2 _ _)
  clear HX2 HR2 HC2
  unfold aggC
  rw [show ten x = #[.int .i64 x.seq, .int .i64 x.dst, .int .i64 x.verb, .string x.path, .int .i64 x.mode, .int .i64 x.term, .int .i64 x.id, .bool x.fresh, .int .i64 x.sent, .int .i64 x.tries] from rfl] at HX3 HR3 HC3 HK3 ⊢
  go_upto_region 2 with (fail)
  generalize w2.alloc _ = w3 at HX3 HR3 HC3 HK3 ⊢
  generalize w2.heap.size = b at *
  have HLD := Lib.hid (cl_range (x := x) HK3.out)
  go_wp2_with (refine wpList_load_mid rfl 32 (.tmp 8) rfl b 0 rfl (ten x).toList _ HLD.out Try.underlying32 rfl (by kernel_rfl) ?_)
  refine (ask_any x w3).mono ?_
  rintro e w4 ⟨rfl, hb⟩
  have HX4 := Lib.hid (below_on HX3.out hb)
  have HR4 := Lib.hid ((Mod.of_below hb []).whole HR3.out (by simp))
  have HC4 := Lib.hid (HC3.out.below hb)
  clear hb HX3 HR3 HC3 HK3 HLD
  have HX5 := Lib.hid (HX4.out.alloc HX4.out.size (.cells (cellsM (CA.askM x 0 0 0 0) (.slice none 0 0)) 45))
  have HR5 := Lib.hid (show MsgBlk (w4.alloc (.cells (cellsM (CA.askM x 0 0 0 0) (.slice none 0 0)) 45)) w.heap.size WM.zero (.slice none 0 0) from HR4.out.alloc _)
  have HC5 := Lib.hid (HC4.out.below ((Below.refl _ w4).alloc (Nat.le_refl _) (.cells (cellsM (CA.askM x 0 0 0 0) (.slice none 0 0)) 45)))
  have HK5 := Lib.hid (show MsgBlk (w4.alloc (.cells (cellsM (CA.askM x 0 0 0 0) (.slice none 0 0)) 45)) w4.heap.size (CA.askM x 0 0 0 0) (.slice none 0 0) from Whole.new w4 _ _)
  have HN := Lib.hid (show w.heap.size < w4.heap.size from HR4.out.lt)
  have HNG := Lib.hid (show g < w4.heap.size ∧ M < w4.heap.size from ⟨HC4.out.lt, HC4.out.ltM⟩)
  clear HX4 HR4 HC4
  rw [show cellsM (CA.askM x 0 0 0 0) (.slice none 0 0) = #[.int .i64 1, .int .i64 0, .int .i64 x.dst, .int .i64 0, .int .i64 0, .int .i64 0, .int .i64 x.verb, .string x.path, .int .i64 x.mode, .int .i64 x.term, .int .i64 x.id, .bool x.fresh, .int .i64 0, .slice none 0 0, .int .i64 0, .int .i64 0] from rfl] at HX5 HR5 HC5 HK5 ⊢
  go_upto_region 5 with (fail)
  generalize w4.alloc _ = w5 at HX5 HR5 HC5 HK5 ⊢
  generalize w4.heap.size = p at *
  go_cut [22] from 23 to 33 (fun s22 wx => Hid (MsgBlk wx p (CA.askM x frm s.boot q (CA.low s)) (.slice none 0 0)) ∧ Hid (MsgBlk wx w.heap.size WM.zero (.slice none 0 0)) ∧ Hid (Below w.heap.size w wx))
  case first =>
    go_wp2_with fail
    have hB : Below w5.heap.size w5 w5.drew := (Below.refl _ w5).drew
    replace HX5 := Lib.hid HX5.out.drew
    replace HR5 := Lib.hid (show MsgBlk w5.drew w.heap.size WM.zero (.slice none 0 0) from HR5.out)
    replace HC5 := Lib.hid (HC5.out.below hB)
    replace HK5 := Lib.hid (show MsgBlk w5.drew p (CA.askM x 0 0 0 0) (.slice none 0 0) from HK5.out)
    clear hB
    have HS0 := (show w5.drew.cell? ⟨g, 0, none⟩ = some (.int .i64 s.boot) ∧ w5.drew.cell? ⟨p, 1, none⟩ = some (.int .i64 0) ∧ w5.drew.cell? ⟨p, 3, none⟩ = some (.int .i64 0) ∧ w5.drew.cell? ⟨p, 4, none⟩ = some (.int .i64 0) ∧ w5.drew.cell? ⟨p, 5, none⟩ = some (.int .i64 0) ∧ w5.drew.frozen? ⟨p, 1, none⟩ = false ∧ w5.drew.frozen? ⟨p, 3, none⟩ = false ∧ w5.drew.frozen? ⟨p, 4, none⟩ = false ∧ w5.drew.frozen? ⟨p, 5, none⟩ = false from ⟨HC5.out.c0, HK5.out.cell 1, HK5.out.cell 3, HK5.out.cell 4, HK5.out.cell 5, HK5.out.frozen 1, HK5.out.frozen 3, HK5.out.frozen 4, HK5.out.frozen 5⟩)
    have hgp : ¬ g = p := by have := HNG.out; omega
    have hpg : ¬ p = g := by have := HNG.out; omega
    go_region_held3 (fun w' : World => w'.cell? ⟨g, 0, none⟩ = some (.int .i64 s.boot))
      (first
        | exact HSK
        | exact HS0.1
        | (go_keep; done))
      (first
        | (go_at_call 14; refine (Low_any HC5.out).mono ?_; rintro e6 w6 ⟨rfl, hb⟩; have HSK := (HC5.out.below hb).c0; replace HX5 := Lib.hid (below_on HX5.out hb); replace HR5 := Lib.hid ((Mod.of_below hb []).whole HR5.out (by simp)); replace HK5 := Lib.hid ((Mod.of_below hb []).whole HK5.out (by simp)); replace HC5 := Lib.hid (HC5.out.below hb); clear hb; have k1 := HK5.out.cell 1; have k3 := HK5.out.cell 3; have k4 := HK5.out.cell 4; have k5 := HK5.out.cell 5; have f1 := HK5.out.frozen 1; have f3 := HK5.out.frozen 3; have f4 := HK5.out.frozen 4; have f5 := HK5.out.frozen 5))
    all_goals
      go_wp2_with fail
      go_meet
      exact ⟨Lib.hid ((((HK5.out.store 1 _).store 3 _).store 4 _).store 5 _), Lib.hid ((((HR5.out.far (by have := HN.out; show w.heap.size ≠ p; omega) _).far (by have := HN.out; show w.heap.size ≠ p; omega) _).far (by have := HN.out; show w.heap.size ≠ p; omega) _).far (by have := HN.out; show w.heap.size ≠ p; omega) _), Lib.hid ((((HX5.out.setCell (by have := HN.out; show w.heap.size ≤ p; omega) _).setCell (by have := HN.out; show w.heap.size ≤ p; omega) _).setCell (by have := HN.out; show w.heap.size ≤ p; omega) _).setCell (by have := HN.out; show w.heap.size ≤ p; omega) _)⟩
  case rest =>
  obtain ⟨HK6, HR6, HX6⟩ := hcut
  clear HX5 HR5 HC5 HK5
  have HLM := Lib.hid (msg_range HK6.out)
  have HV := Lib.hid (Valid_ask HWX.out HFR.out (show In64 s.boot by have := HIN.out.boot; unfold In64; omega) HQ.out (show In64 (CA.low s) by have := HIN.out.low_rng; have := HIN.out.next; unfold In64; omega))
  rw [HH.out] at HV
  go_wp2_with (refine wpList_load_mid rfl 45 (.tmp 10) rfl p 0 rfl (cellsM (CA.askM x frm s.boot q (CA.low s)) (.slice none 0 0)).toList _ HLM.out Try.underlying45 rfl (by kernel_rfl) ?_)
  refine (HV.out _).mono ?_
  rintro e w7 ⟨rfl, hb⟩
  have HX7 := Lib.hid (below_on HX6.out hb)
  have HR7 := Lib.hid ((Mod.of_below hb []).whole HR6.out (by simp))
  have HK7 := Lib.hid ((Mod.of_below hb []).whole HK6.out (by simp))
  clear hb HX6 HR6 HK6 HLM HV
  have hrow := row16 HR7.out WM.zero (.slice none 0 0)
  have HX9 := Lib.hid (HX7.out.trans (hrow.2.below HX7.out.size (by simp)))
  have HR9 := Lib.hid hrow.1
  clear hrow
  go_wp2_with (refine wpList_store_row rfl 45 (.tmp 6) (.tmp 37) rfl w.heap.size (cellsM WM.zero (.slice none 0 0)) rfl rfl 45 _ HR7.out (by kernel_rfl) rfl (by simp [cellsM, WM.zero, Value.oneCell']) ?_)
  generalize (World.setRow _ _ _) = w9 at HX9 HR9 ⊢
  obtain ⟨c0, c1, c2, c3, c4, c5, c6, c7, c8, c9, c10, c11, c12, c13, c14, c15⟩ := msg_cells HR9.out
  refine bodyPost_ret (v := .tuple #[zeroA, .bool false]) ?_ rfl ?_
  · rw [results_cell_tmp rfl]
    go_simp
    try rfl
  · exact ⟨rfl, HX9.out⟩
set_option maxHeartbeats 4000000 in
theorem Ask_yes (h : CallsAt w g M s) (frm q : Int) (hfr : In64 frm) (hh : CA.has s q = true) (ha : CA.asks s frm q = true) : Calls Try.prog 15 #[.pointer (some ⟨g, 0, none⟩), .int .i64 frm, .int .i64 q] w fun e w' => e = .returned (.tuple #[.agg (cellsM (CA.askM (CA.get s q) frm s.boot q (CA.low s)) (.slice none 0 0)), .bool true]) ∧ Below w.heap.size w w' := by
  have hz := fun w : World => Try.zeroValue32 w
  have hz2 := fun w : World => Try.zeroValue45 w
  have HX := Lib.hid ((Below.refl _ w).alloc (Nat.le_refl _) (.cells (cellsM WM.zero (.slice none 0 0)) 45))
  have HR := Lib.hid (show MsgBlk (w.alloc (.cells (cellsM WM.zero (.slice none 0 0)) 45)) w.heap.size WM.zero (.slice none 0 0) from Whole.new w _ _)
  have HC := Lib.hid (h.below ((Below.refl _ w).alloc (Nat.le_refl _) (.cells (cellsM WM.zero (.slice none 0 0)) 45)))
  have HG := Lib.hid (Get_any HC.out q)
  have HH := Lib.hid (asks_valid (frm := frm) h.inv hh)
  have HIN := Lib.hid h.inv
  have HWX := Lib.hid (h.get_wide q)
  have HFR := Lib.hid hfr
  have HQ := Lib.hid (show In64 q by obtain ⟨hx, e⟩ := CA.get_mem hh; have := h.inv.lo _ hx; have := h.inv.next; unfold In64; omega)
  rw [hh] at HG
  rw [ha] at HH
  clear h hh ha hfr
  rw [show cellsM WM.zero (.slice none 0 0) = #[.int .i64 0, .int .i64 0, .int .i64 0, .int .i64 0, .int .i64 0, .int .i64 0, .int .i64 0, .string ⟨#[]⟩, .int .i64 0, .int .i64 0, .int .i64 0, .bool false, .int .i64 0, .slice none 0 0, .int .i64 0, .int .i64 0] from rfl] at HX HR HC HG
  go_enter Try.func15, Try.ntmps15
  go_wp2_with fail
  generalize w.alloc _ = w1 at HX HR HG HC ⊢
  refine HG.out.mono ?_
  rintro e w2 ⟨rfl, hb⟩
  have HX2 := Lib.hid (below_on HX.out hb)
  have HR2 := Lib.hid ((Mod.of_below hb []).whole HR.out (by simp))
  have HC2 := Lib.hid (HC.out.below hb)
  clear hb HX HR HC HG
  generalize hgx : CA.get s q = x at *
  have HGX := Lib.hid hgx; clear hgx
  have HX3 := Lib.hid (HX2.out.alloc HX2.out.size (.cells (ten x) 32))
  have HR3 := Lib.hid (show MsgBlk (w2.alloc (.cells (ten x) 32)) w.heap.size WM.zero (.slice none 0 0) from HR2.out.alloc _)
  have HC3 := Lib.hid (HC2.out.below ((Below.refl _ w2).alloc (Nat.le_refl _) (.cells (ten x) 32)))
  have HK3 := Lib.hid (show ClBlk (w2.alloc (.cells (ten x) 32)) w2.heap.size x from Whole.new w2 _ _)
  clear HX2 HR2 HC2
  unfold aggC
  rw [show ten x = #[.int .i64 x.seq, .int .i64 x.dst, .int .i64 x.verb, .string x.path, .int .i64 x.mode, .int .i64 x.term, .int .i64 x.id, .bool x.fresh, .int .i64 x.sent, .int .i64 x.tries] from rfl] at HX3 HR3 HC3 HK3 ⊢
  go_upto_region 2 with (fail)
  generalize w2.alloc _ = w3 at HX3 HR3 HC3 HK3 ⊢
  generalize w2.heap.size = b at *
  have HLD := Lib.hid (cl_range (x := x) HK3.out)
  go_wp2_with (refine wpList_load_mid rfl 32 (.tmp 8) rfl b 0 rfl (ten x).toList _ HLD.out Try.underlying32 rfl (by kernel_rfl) ?_)
  refine (ask_any x w3).mono ?_
  rintro e w4 ⟨rfl, hb⟩
  have HX4 := Lib.hid (below_on HX3.out hb)
  have HR4 := Lib.hid ((Mod.of_below hb []).whole HR3.out (by simp))
  have HC4 := Lib.hid (HC3.out.below hb)
  clear hb HX3 HR3 HC3 HK3 HLD
  have HX5 := Lib.hid (HX4.out.alloc HX4.out.size (.cells (cellsM (CA.askM x 0 0 0 0) (.slice none 0 0)) 45))
  have HR5 := Lib.hid (show MsgBlk (w4.alloc (.cells (cellsM (CA.askM x 0 0 0 0) (.slice none 0 0)) 45)) w.heap.size WM.zero (.slice none 0 0) from HR4.out.alloc _)
  have HC5 := Lib.hid (HC4.out.below ((Below.refl _ w4).alloc (Nat.le_refl _) (.cells (cellsM (CA.askM x 0 0 0 0) (.slice none 0 0)) 45)))
  have HK5 := Lib.hid (show MsgBlk (w4.alloc (.cells (cellsM (CA.askM x 0 0 0 0) (.slice none 0 0)) 45)) w4.heap.size (CA.askM x 0 0 0 0) (.slice none 0 0) from Whole.new w4 _ _)
  have HN := Lib.hid (show w.heap.size < w4.heap.size from HR4.out.lt)
  have HNG := Lib.hid (show g < w4.heap.size ∧ M < w4.heap.size from ⟨HC4.out.lt, HC4.out.ltM⟩)
  clear HX4 HR4 HC4
  rw [show cellsM (CA.askM x 0 0 0 0) (.slice none 0 0) = #[.int .i64 1, .int .i64 0, .int .i64 x.dst, .int .i64 0, .int .i64 0, .int .i64 0, .int .i64 x.verb, .string x.path, .int .i64 x.mode, .int .i64 x.term, .int .i64 x.id, .bool x.fresh, .int .i64 0, .slice none 0 0, .int .i64 0, .int .i64 0] from rfl] at HX5 HR5 HC5 HK5 ⊢
  go_upto_region 5 with (fail)
  generalize w4.alloc _ = w5 at HX5 HR5 HC5 HK5 ⊢
  generalize w4.heap.size = p at *
  go_cut [22] from 23 to 33 (fun s22 wx => Hid (MsgBlk wx p (CA.askM x frm s.boot q (CA.low s)) (.slice none 0 0)) ∧ Hid (MsgBlk wx w.heap.size WM.zero (.slice none 0 0)) ∧ Hid (Below w.heap.size w wx))
  case first =>
    go_wp2_with fail
    have hB : Below w5.heap.size w5 w5.drew := (Below.refl _ w5).drew
    replace HX5 := Lib.hid HX5.out.drew
    replace HR5 := Lib.hid (show MsgBlk w5.drew w.heap.size WM.zero (.slice none 0 0) from HR5.out)
    replace HC5 := Lib.hid (HC5.out.below hB)
    replace HK5 := Lib.hid (show MsgBlk w5.drew p (CA.askM x 0 0 0 0) (.slice none 0 0) from HK5.out)
    clear hB
    have HS0 := (show w5.drew.cell? ⟨g, 0, none⟩ = some (.int .i64 s.boot) ∧ w5.drew.cell? ⟨p, 1, none⟩ = some (.int .i64 0) ∧ w5.drew.cell? ⟨p, 3, none⟩ = some (.int .i64 0) ∧ w5.drew.cell? ⟨p, 4, none⟩ = some (.int .i64 0) ∧ w5.drew.cell? ⟨p, 5, none⟩ = some (.int .i64 0) ∧ w5.drew.frozen? ⟨p, 1, none⟩ = false ∧ w5.drew.frozen? ⟨p, 3, none⟩ = false ∧ w5.drew.frozen? ⟨p, 4, none⟩ = false ∧ w5.drew.frozen? ⟨p, 5, none⟩ = false from ⟨HC5.out.c0, HK5.out.cell 1, HK5.out.cell 3, HK5.out.cell 4, HK5.out.cell 5, HK5.out.frozen 1, HK5.out.frozen 3, HK5.out.frozen 4, HK5.out.frozen 5⟩)
    have hgp : ¬ g = p := by have := HNG.out; omega
    have hpg : ¬ p = g := by have := HNG.out; omega
    go_region_held3 (fun w' : World => w'.cell? ⟨g, 0, none⟩ = some (.int .i64 s.boot))
      (first
        | exact HSK
        | exact HS0.1
        | (go_keep; done))
      (first
        | (go_at_call 14; refine (Low_any HC5.out).mono ?_; rintro e6 w6 ⟨rfl, hb⟩; have HSK := (HC5.out.below hb).c0; replace HX5 := Lib.hid (below_on HX5.out hb); replace HR5 := Lib.hid ((Mod.of_below hb []).whole HR5.out (by simp)); replace HK5 := Lib.hid ((Mod.of_below hb []).whole HK5.out (by simp)); replace HC5 := Lib.hid (HC5.out.below hb); clear hb; have k1 := HK5.out.cell 1; have k3 := HK5.out.cell 3; have k4 := HK5.out.cell 4; have k5 := HK5.out.cell 5; have f1 := HK5.out.frozen 1; have f3 := HK5.out.frozen 3; have f4 := HK5.out.frozen 4; have f5 := HK5.out.frozen 5))
    all_goals
      go_wp2_with fail
      go_meet
      exact ⟨Lib.hid ((((HK5.out.store 1 _).store 3 _).store 4 _).store 5 _), Lib.hid ((((HR5.out.far (by have := HN.out; show w.heap.size ≠ p; omega) _).far (by have := HN.out; show w.heap.size ≠ p; omega) _).far (by have := HN.out; show w.heap.size ≠ p; omega) _).far (by have := HN.out; show w.heap.size ≠ p; omega) _), Lib.hid ((((HX5.out.setCell (by have := HN.out; show w.heap.size ≤ p; omega) _).setCell (by have := HN.out; show w.heap.size ≤ p; omega) _).setCell (by have := HN.out; show w.heap.size ≤ p; omega) _).setCell (by have := HN.out; show w.heap.size ≤ p; omega) _)⟩
  case rest =>
  obtain ⟨HK6, HR6, HX6⟩ := hcut
  clear HX5 HR5 HC5 HK5
  have HLM := Lib.hid (msg_range HK6.out)
  have HV := Lib.hid (Valid_ask HWX.out HFR.out (show In64 s.boot by have := HIN.out.boot; unfold In64; omega) HQ.out (show In64 (CA.low s) by have := HIN.out.low_rng; have := HIN.out.next; unfold In64; omega))
  rw [HH.out] at HV
  go_wp2_with (refine wpList_load_mid rfl 45 (.tmp 10) rfl p 0 rfl (cellsM (CA.askM x frm s.boot q (CA.low s)) (.slice none 0 0)).toList _ HLM.out Try.underlying45 rfl (by kernel_rfl) ?_)
  refine (HV.out _).mono ?_
  rintro e w7 ⟨rfl, hb⟩
  have HX7 := Lib.hid (below_on HX6.out hb)
  have HR7 := Lib.hid ((Mod.of_below hb []).whole HR6.out (by simp))
  have HK7 := Lib.hid ((Mod.of_below hb []).whole HK6.out (by simp))
  clear hb HX6 HR6 HK6 HLM HV
  have HLN := Lib.hid (msg_range HK7.out)
  generalize hgm : CA.askM x frm s.boot q (CA.low s) = m at *
  have HGM := Lib.hid hgm; clear hgm
  have hrow := row16 HR7.out m (.slice none 0 0)
  have HX9 := Lib.hid (HX7.out.trans (hrow.2.below HX7.out.size (by simp)))
  have HR9 := Lib.hid hrow.1
  clear hrow
  go_wp2_with (first
    | (refine wpList_load_mid rfl 45 (.tmp 10) rfl p 0 rfl (cellsM m (.slice none 0 0)).toList _ HLN.out Try.underlying45 rfl (by kernel_rfl) ?_)
    | (refine wpList_store_row rfl 45 (.tmp 6) (.tmp 38) rfl w.heap.size (cellsM m (.slice none 0 0)) rfl rfl 45 _ HR7.out (by kernel_rfl) rfl (by simp [cellsM, Value.oneCell']) ?_))
  generalize (World.setRow _ _ _) = w9 at HX9 HR9 ⊢
  obtain ⟨c0, c1, c2, c3, c4, c5, c6, c7, c8, c9, c10, c11, c12, c13, c14, c15⟩ := msg_cells HR9.out
  refine bodyPost_ret (v := .tuple #[.agg (cellsM m (.slice none 0 0)), .bool true]) ?_ rfl ?_
  · rw [results_cell_tmp rfl]
    go_simp
    try rfl
  · rw [HGX.out, HGM.out]
    exact ⟨rfl, HX9.out⟩
theorem Ask_any (h : CallsAt w g M s) (frm q : Int) (hfr : In64 frm) : Calls Try.prog 15 #[.pointer (some ⟨g, 0, none⟩), .int .i64 frm, .int .i64 q] w fun e w' => e = .returned (.tuple #[.agg (cellsM (CA.ask s frm q) (.slice none 0 0)), .bool (CA.asks s frm q)]) ∧ Below w.heap.size w w' := by
  cases ha : CA.asks s frm q with
  | true =>
    have hh : CA.has s q = true := by
      cases hh : CA.has s q with
      | true => rfl
      | false => unfold CA.asks at ha; rw [hh] at ha; cases ha
    have e : CA.ask s frm q = CA.askM (CA.get s q) frm s.boot q (CA.low s) := by unfold CA.ask; rw [if_pos ha]
    rw [e]
    exact Ask_yes h frm q hfr hh ha
  | false =>
    have e : CA.ask s frm q = WM.zero := by unfold CA.ask; rw [if_neg (by rw [ha]; decide)]
    rw [e]
    cases hh : CA.has s q with
    | true => exact Ask_not h frm q hfr hh ha
    | false => exact Ask_no h frm q hh
end
end Go.Proofs.Ytnacchldecjcaaa
