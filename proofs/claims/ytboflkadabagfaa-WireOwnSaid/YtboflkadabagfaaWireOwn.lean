/- What is handed in stays as it is, and what is answered shares no memory; for every message and all bytes. -/
import Derived.Test.YtboflkadabagfaaRows
import Derived.Test.YtboflkadabagfaaWireRH
import Derived.Test.YtboflkadabagfaaLaw
import Derived.JoinedCond
import Derived.OpenShut
namespace Go.Proofs.Ytboflkadabagfaa.lawWireOwn
open Go Go.RowKit Go.ChangeShapes Go.WideShapes Go.ChangeAt
set_option linter.unusedVariables false
set_option linter.unusedSimpArgs false
theorem at_two {y : World} {g : Nat} {l : List Int} (h : IntsAt y (some ⟨g, 0, none⟩) (l ++ [-91, -92])) : y.cell? ⟨g, l.length, none⟩ = some (.int .i64 (-91)) ∧ y.cell? ⟨g, l.length + 1, none⟩ = some (.int .i64 (-92)) := by
  obtain ⟨b, o, e, _, hc⟩ := h (by simp)
  injection e with e
  cases e
  have r0 := hc l.length (-91) (by simp)
  have r1 := hc (l.length + 1) (-92) (by simp)
  rw [Nat.zero_add] at r0 r1
  exact ⟨r0, r1⟩
theorem cap_of {w : World} {A : Option Addr} {c : Nat} {m : WM.Msg} (h : Came w A c m) : c ≤ 9223372036854775807 := by have := h.cap; omega
theorem jj {n : Nat} (h : n * 8 ≤ 140737488351232) : wrap64 ((n : Int) + 1) = (n : Int) + 1 ∧ (0 : Int) ≤ (n : Int) ∧ (n : Int) < ((n + 2 : Nat) : Int) ∧ (0 : Int) ≤ (n : Int) + 1 ∧ (n : Int) + 1 < ((n + 2 : Nat) : Int) ∧ (n : Int) < (n : Int) + 2 ∧ IntKind.i64.wrap ((n : Int) + 1) = (n : Int) + 1 := by
  refine ⟨?_, by omega, by omega, by omega, by omega, by omega, by rw [IntKind.wrap_i64]; omega⟩
  unfold wrap64
  omega
theorem cat_same (l m : List UInt8) : ((⟨l.toArray⟩ : ByteArray) ++ ⟨m.toArray⟩) = ⟨(l ++ m).toArray⟩ := WideShapes.bytes_inj (by rw [ByteArray.data_append]; simp)
theorem cat_no (l : List UInt8) : (!l ++ [91, 92] == ((⟨l.toArray⟩ : ByteArray) ++ ⟨#[91, 92]⟩).toList) = false := by
  have e := cat_same l [91, 92]
  rw [show (⟨#[91, 92]⟩ : ByteArray) = ⟨([91, 92] : List UInt8).toArray⟩ from rfl, e]
  simp
theorem front {w : World} {A : Option Addr} {l r : List UInt8} (h : Oct.BytesAt w A (l ++ r)) : Oct.BytesAt w A l := fun h0 => by
  obtain ⟨b, o, e, hb, hc⟩ := h (by rw [List.length_append]; omega)
  exact ⟨b, o, e, hb, fun j x hx => hc j x (by rw [List.getElem?_append_left (List.getElem?_eq_some_iff.1 hx).1]; exact hx)⟩
theorem full_i {w : World} {base n : Nat} {v : Value} {ys : List Value} (h : w.ownsRow base 3 1 v n ys) (h0 : 0 < n) : ∃ g cap, v = .slice (some ⟨g, 0, none⟩) n cap ∧ n ≤ cap ∧ cap ≤ 9223372036854775807 ∧ base ≤ g := by
  rcases h.2 with ⟨_, h⟩ | ⟨g, cap, cur, rfl, hb, _, h1, h2, _⟩
  · omega
  · exact ⟨g, cap, rfl, h1, by unfold maxLen at h2; omega, hb⟩
theorem full_b {w : World} {base n : Nat} {v : Value} {ys : List Value} (h : w.ownsRow base 5 1 v n ys) (h0 : 0 < n) : ∃ g cap, v = .slice (some ⟨g, 0, none⟩) n cap ∧ n ≤ cap ∧ cap ≤ 9223372036854775807 ∧ base ≤ g := by
  rcases h.2 with ⟨_, h⟩ | ⟨g, cap, cur, rfl, hb, _, h1, h2, _⟩
  · omega
  · exact ⟨g, cap, rfl, h1, by unfold maxLen at h2; omega, hb⟩
set_option maxRecDepth 100000 in
set_option maxHeartbeats 16000000 in
theorem walk (A : Option Addr) (c : Nat) (m : WM.Msg) (A2 : Option Addr) (c2 : Nat) (l : List UInt8) (w : World) (hC : Came w A c m) (hB : Oct.BytesAt w A2 l) (hc2 : l.length ≤ c2) (hm2 : c2 ≤ 140737488351232) :
    Calls Try.prog 6 #[.agg (cellsM m (.slice A m.stamp.length c)), .slice A2 l.length c2] w (LK.True_ w) := by
  have HX := Lib.hid ((Below.refl _ w).alloc (Nat.le_refl _) (.cells (cellsM m (.slice A m.stamp.length c)) 28))
  have HK := Lib.hid (show MsgBlk (w.alloc (.cells (cellsM m (.slice A m.stamp.length c)) 28)) w.heap.size m (.slice A m.stamp.length c) from Whole.new w 28 (cellsM m (.slice A m.stamp.length c)))
  have HC := Lib.hid (hC.below HX.out)
  have HY := Lib.hid (hB.below HX.out)
  clear hC hB
  go_enter Try.func6, Try.ntmps6
  go_upto_region 1 with (fail)
  generalize w.alloc (.cells (cellsM m (.slice A m.stamp.length c)) 28) = w0 at HX HK HC HY ⊢
  go_wp2_with fail
  refine (awake_any _).mono ?_
  rintro e w1 ⟨rfl, hb⟩
  replace HX := Lib.hid (below_on HX.out hb)
  replace HK := Lib.hid ((Mod.of_below hb []).whole HK.out (by simp))
  replace HC := Lib.hid (HC.out.below hb)
  replace HY := Lib.hid (HY.out.below hb)
  have HW1 := Lib.hid (show w.heap.size ≤ w1.heap.size from HX.out.size)
  clear hb
  have c13 : (w1.alloc (.cells #[] 3)).cell? ⟨w.heap.size, 13, none⟩ = some (.slice A m.stamp.length c) := (HK.out.alloc (.cells #[] 3)).cell 13
  have hl : m.stamp.length * 8 ≤ 140737488351232 := by have := HC.out.cap; have := HC.out.le; omega
  go_upto_region 4 with (first
    | (at_builtin; refine app_all rfl (.tmp 27) (.tmp 29) rfl A c m.stamp.length m.stamp rfl HC.out.ints w1.heap.size rfl rfl rfl (by omega) ?_; intro A' n' c' w2 hm; have HM := Lib.hid hm; clear hm c13; have e := HM.out.1.out; subst e)
    | (at_builtin; refine app_moreI rfl (.tmp 30) (.tmp 31) rfl w1.heap.size (.slice A' m.stamp.length c') m.stamp [-91, -92] (some ⟨w2.heap.size, 0, none⟩) 2 2 (HM.out.2.2.1.out.alloc (.cells (i64s [-91, -92]).toArray 3)) (Gw.ints_lit w2 [-91, -92]) rfl (by simp; omega) (by have := HM.out.2.2.2.1.out.size; simp; omega) rfl rfl ?_; intro v3 w3 k1 k2 k3))
  have hb : Below w1.heap.size w1 w3 := (HM.out.2.2.2.1.out.trans ((Below.refl _ w2).alloc (by have := HM.out.2.2.2.1.out.size; omega) (.cells (i64s [-91, -92]).toArray 3))).trans (k2.below (by have := HM.out.2.2.2.1.out.size; simp; omega) (fun x hx => (HM.out.2.2.1.out.lt x (by simpa using hx)).1))
  have HR := Lib.hid k1
  have HS1 := Lib.hid (show w1.heap.size ≤ w3.heap.size from hb.size)
  replace HX := Lib.hid (below_on HX.out hb)
  replace HK := Lib.hid ((Mod.of_below hb []).whole HK.out (by simp))
  replace HC := Lib.hid (HC.out.below hb)
  replace HY := Lib.hid (HY.out.below hb)
  clear hb k1 k2 k3 HM
  obtain ⟨gr, cr, ev, hcr, hcr2, hgr⟩ := full_i HR.out (by simp)
  subst ev
  have hn2 : (m.stamp ++ [-91, -92]).length = m.stamp.length + 2 := by simp
  rw [hn2] at HR hcr ⊢
  clear hn2
  have HGR := Lib.hid (show gr < w3.heap.size from (HR.out.lt gr rfl).2)
  have HGRL := Lib.hid hgr
  have HRI := Lib.hid (show IntsAt w3 (some ⟨gr, 0, none⟩) (m.stamp ++ [-91, -92]) from IntsAt.own HR.out)
  have HLD := Lib.hid (msg_range HK.out)
  have HNW := Lib.hid (show MsgBlk (w3.alloc (.cells (cellsM WM.zero (.slice none 0 0)) 28)) w3.heap.size WM.zero (.slice none 0 0) from Whole.new w3 _ _)
  have HBX := Lib.hid ((row16 HNW.out m (.slice A m.stamp.length c)).1)
  have hb := ((Below.refl _ w3).alloc (Nat.le_refl _) (.cells (cellsM WM.zero (.slice none 0 0)) 28)).trans ((row16 HNW.out m (.slice A m.stamp.length c)).2.below (by simp) (by simp))
  have HBL := Lib.hid hb
  have HSZ := Lib.hid (show w3.heap.size + 1 ≤ _ from Nat.le_trans (by simp) (row16 HNW.out m (.slice A m.stamp.length c)).2.size)
  clear hb
  unfold cellsM WM.zero at HNW
  rw [show cellsM WM.zero (.slice none 0 0) = #[.int .i64 0, .int .i64 0, .int .i64 0, .int .i64 0, .int .i64 0, .int .i64 0, .int .i64 0, .string ⟨#[]⟩, .int .i64 0, .int .i64 0, .int .i64 0, .bool false, .int .i64 0, .slice none 0 0, .int .i64 0, .int .i64 0] from rfl] at HBL HBX HSZ
  go_upto_region 5 with (first | (refine wpList_load_mid rfl 28 (.tmp 2) rfl w.heap.size 0 rfl (cellsM m (.slice A m.stamp.length c)).toList _ HLD.out Try.underlying28 rfl (by kernel_rfl) ?_) | (refine wpList_store_row rfl 28 (.tmp 6) (.tmp 33) rfl w3.heap.size (cellsM m (.slice A m.stamp.length c)) rfl rfl 28 _ HNW.out (by kernel_rfl) rfl (by simp [cellsM, Value.oneCell']) ?_))
  generalize World.setRow _ _ _ = w4 at HBL HBX HSZ ⊢
  clear HNW
  clear HLD
  have HRN := Lib.hid hcr
  have c13 := ((Mod.of_below HBL.out []).whole HK.out (by simp)).cell 13
  have d13 := HBX.out.cell 13
  have f13 := HBX.out.frozen 13
  have h1 : m.stamp.length ≤ cr := by omega
  have h2 : ¬ cr < m.stamp.length := by omega
  unfold cellsM at c13 d13
  go_upto_region 6 with (fail)
  have HBI := Lib.hid (show MsgBlk (w4.setCell ⟨w3.heap.size, 13, none⟩ (.slice (some ⟨gr, 0, none⟩) m.stamp.length cr)) w3.heap.size m (.slice (some ⟨gr, 0, none⟩) m.stamp.length cr) from HBX.out.store 13 _)
  have hM : Mod [w3.heap.size] w4 (w4.setCell ⟨w3.heap.size, 13, none⟩ (.slice (some ⟨gr, 0, none⟩) m.stamp.length cr)) := (Mod.refl _ w4).store (p := ⟨w3.heap.size, 13, none⟩) (.inl (by simp)) _
  have hb : Below w3.heap.size w3 (w4.setCell ⟨w3.heap.size, 13, none⟩ (.slice (some ⟨gr, 0, none⟩) m.stamp.length cr)) := HBL.out.trans (hM.below HBL.out.size (by simp))
  replace HX := Lib.hid (below_on HX.out hb)
  replace HK := Lib.hid ((Mod.of_below hb []).whole HK.out (by simp))
  replace HC := Lib.hid (HC.out.below hb)
  replace HY := Lib.hid (HY.out.below hb)
  replace HR := Lib.hid ((Mod.of_below hb []).own HR.out (by simp))
  replace HRI := Lib.hid (HRI.out.below hb)
  have HSI := Lib.hid (show w3.heap.size + 1 ≤ (w4.setCell ⟨w3.heap.size, 13, none⟩ (.slice (some ⟨gr, 0, none⟩) m.stamp.length cr)).heap.size by simpa using HSZ.out)
  clear hb hM c13 d13 f13 h1 h2 HBX HBL HSZ
  generalize w4.setCell ⟨w3.heap.size, 13, none⟩ (.slice (some ⟨gr, 0, none⟩) m.stamp.length cr) = w5 at HX HK HC HY HR HRI HBI HSI ⊢
  have HFI := Lib.hid (show Fit w5 (some ⟨gr, 0, none⟩) cr m from ⟨HC.out.wide, by have h := HRI.out.take m.stamp.length; rw [List.take_left] at h; exact h, fun ad e => by injection e with e; subst e; exact (HR.out.lt gr rfl).2, by have := HRN.out; omega, hcr2⟩)
  have HLD := Lib.hid (msg_range HBI.out)
  go_wp2_with (refine wpList_load_mid rfl 28 (.tmp 6) rfl w3.heap.size 0 rfl (cellsM m (.slice (some ⟨gr, 0, none⟩) m.stamp.length cr)).toList _ HLD.out Try.underlying28 rfl (by kernel_rfl) ?_)
  clear HLD
  refine (wEncO_any _ _ m _ HFI.out).mono ?_
  rintro e w6 ⟨P1, p1, rfl, hy, hb⟩
  replace HX := Lib.hid (below_on HX.out hb)
  replace HK := Lib.hid ((Mod.of_below hb []).whole HK.out (by simp))
  replace HC := Lib.hid (HC.out.below hb)
  replace HY := Lib.hid (HY.out.below hb)
  replace HR := Lib.hid ((Mod.of_below hb []).own HR.out (by simp))
  replace HRI := Lib.hid (HRI.out.below hb)
  replace HBI := Lib.hid ((Mod.of_below hb []).whole HBI.out (by simp))
  replace HFI := Lib.hid (HFI.out.below hb)
  have HY1 := Lib.hid hy.out
  have HGY1 := Lib.hid (show ∀ k, (Value.slice P1 (encE m).length p1).ownBlock = some k → w5.heap.size ≤ k ∧ k < w6.heap.size from fun k hk => hy.out.lt k hk)
  have HSw6 := Lib.hid hb.size
  clear hb hy
  have HLD := Lib.hid (msg_range HBI.out)
  go_wp2_with (refine wpList_load_mid rfl 28 (.tmp 6) rfl w3.heap.size 0 rfl (cellsM m (.slice (some ⟨gr, 0, none⟩) m.stamp.length cr)).toList _ HLD.out Try.underlying28 rfl (by kernel_rfl) ?_)
  clear HLD
  refine (wEncO_any _ _ m _ HFI.out).mono ?_
  rintro e w7 ⟨P2, p2, rfl, hy, hb⟩
  replace HX := Lib.hid (below_on HX.out hb)
  replace HK := Lib.hid ((Mod.of_below hb []).whole HK.out (by simp))
  replace HC := Lib.hid (HC.out.below hb)
  replace HY := Lib.hid (HY.out.below hb)
  replace HR := Lib.hid ((Mod.of_below hb []).own HR.out (by simp))
  replace HRI := Lib.hid (HRI.out.below hb)
  replace HBI := Lib.hid ((Mod.of_below hb []).whole HBI.out (by simp))
  replace HFI := Lib.hid (HFI.out.below hb)
  replace HY1 := Lib.hid ((Mod.of_below hb []).own HY1.out (by simp))
  have HY2 := Lib.hid hy.out
  have HGY2 := Lib.hid (show ∀ k, (Value.slice P2 (encE m).length p2).ownBlock = some k → w6.heap.size ≤ k ∧ k < w7.heap.size from fun k hk => hy.out.lt k hk)
  have HSw7 := Lib.hid hb.size
  clear hb hy
  have HLD := Lib.hid (msg_range HBI.out)
  go_wp2_with (refine wpList_load_mid rfl 28 (.tmp 6) rfl w3.heap.size 0 rfl (cellsM m (.slice (some ⟨gr, 0, none⟩) m.stamp.length cr)).toList _ HLD.out Try.underlying28 rfl (by kernel_rfl) ?_)
  clear HLD
  refine (Same_any _ _ _ _ m m _ HFI.out.ints HFI.out.ints HFI.out.le HFI.out.le HFI.out.cap HFI.out.cap).mono ?_
  rintro e w8 ⟨rfl, hb⟩
  replace HX := Lib.hid (below_on HX.out hb)
  replace HK := Lib.hid ((Mod.of_below hb []).whole HK.out (by simp))
  replace HC := Lib.hid (HC.out.below hb)
  replace HY := Lib.hid (HY.out.below hb)
  replace HR := Lib.hid ((Mod.of_below hb []).own HR.out (by simp))
  replace HRI := Lib.hid (HRI.out.below hb)
  replace HBI := Lib.hid ((Mod.of_below hb []).whole HBI.out (by simp))
  replace HFI := Lib.hid (HFI.out.below hb)
  replace HY1 := Lib.hid ((Mod.of_below hb []).own HY1.out (by simp))
  replace HY2 := Lib.hid ((Mod.of_below hb []).own HY2.out (by simp))
  have HSw8 := Lib.hid hb.size
  clear hb
  go_upto_region 10 with (first
    | (at_builtin; refine By.app_all rfl (.tmp 53) (.tmp 54) rfl A2 c2 l.length l rfl HY.out w8.heap.size rfl rfl rfl (by omega) ?_; intro A' n' c' w9 hm; have HM := Lib.hid hm; clear hm; have e := HM.out.1.out; subst e)
    | (at_builtin; refine Gw.app_more rfl (.tmp 55) (.tmp 56) rfl w8.heap.size (.slice A' l.length c') l [91, 92] (some ⟨w9.heap.size, 0, none⟩) 2 2 (HM.out.2.2.1.out.alloc (.cells #[.int .u8 ((91 : UInt8).toNat : Int), .int .u8 ((92 : UInt8).toNat : Int)] 5)) (bytes_two w9 91 92) rfl (by simp; omega) (by have := HM.out.2.2.2.1.out.size; simp; omega) rfl rfl ?_; intro v3 w10 k1 k2 k3))
  have hb : Below w8.heap.size w8 w10 := (HM.out.2.2.2.1.out.trans ((Below.refl _ w9).alloc (by have := HM.out.2.2.2.1.out.size; omega) (.cells #[.int .u8 ((91 : UInt8).toNat : Int), .int .u8 ((92 : UInt8).toNat : Int)] 5))).trans (k2.below (by have := HM.out.2.2.2.1.out.size; simp; omega) (fun x hx => (HM.out.2.2.1.out.lt x (by simpa using hx)).1))
  have HU := Lib.hid k1
  have HSw10 := Lib.hid hb.size
  replace HX := Lib.hid (below_on HX.out hb)
  replace HK := Lib.hid ((Mod.of_below hb []).whole HK.out (by simp))
  replace HC := Lib.hid (HC.out.below hb)
  replace HY := Lib.hid (HY.out.below hb)
  replace HR := Lib.hid ((Mod.of_below hb []).own HR.out (by simp))
  replace HRI := Lib.hid (HRI.out.below hb)
  replace HBI := Lib.hid ((Mod.of_below hb []).whole HBI.out (by simp))
  replace HFI := Lib.hid (HFI.out.below hb)
  replace HY1 := Lib.hid ((Mod.of_below hb []).own HY1.out (by simp))
  replace HY2 := Lib.hid ((Mod.of_below hb []).own HY2.out (by simp))
  clear hb k1 k2 k3 HM
  obtain ⟨gu, cu, ev, hcu, hcu2, hgu⟩ := full_b HU.out (by simp)
  subst ev
  have hn2 : (l ++ [91, 92]).length = l.length + 2 := by simp
  rw [hn2] at HU hcu ⊢
  clear hn2
  have HGU := Lib.hid (show w8.heap.size ≤ gu ∧ gu < w10.heap.size from HU.out.lt gu rfl)
  have HUN := Lib.hid hcu
  have HUB := Lib.hid (show Oct.BytesAt w10 (some ⟨gu, 0, none⟩) (l ++ [91, 92]) from By.BytesAt.own HU.out)
  have HUL := Lib.hid (front HUB.out)
  have h1 : l.length ≤ cu := by omega
  have h2 : ¬ cu < l.length := by omega
  have HWI := Lib.hid (decM_wide l)
  go_wp2_with fail
  refine (wDec_any (some ⟨gu, 0, none⟩) cu l _ HUL.out (by omega)).mono ?_
  rintro e w11 ⟨D3, k3, rfl, ho, hb⟩
  replace HX := Lib.hid (below_on HX.out hb)
  replace HK := Lib.hid ((Mod.of_below hb []).whole HK.out (by simp))
  replace HC := Lib.hid (HC.out.below hb)
  replace HY := Lib.hid (HY.out.below hb)
  replace HR := Lib.hid ((Mod.of_below hb []).own HR.out (by simp))
  replace HRI := Lib.hid (HRI.out.below hb)
  replace HBI := Lib.hid ((Mod.of_below hb []).whole HBI.out (by simp))
  replace HFI := Lib.hid (HFI.out.below hb)
  replace HY1 := Lib.hid ((Mod.of_below hb []).own HY1.out (by simp))
  replace HY2 := Lib.hid ((Mod.of_below hb []).own HY2.out (by simp))
  replace HU := Lib.hid ((Mod.of_below hb []).own HU.out (by simp))
  replace HUB := Lib.hid (HUB.out.below hb)
  replace HUL := Lib.hid (HUL.out.below hb)
  have HO3 := Lib.hid ho.out
  have HGO3 := Lib.hid (show ∀ k, (Value.slice D3 (decM l).stamp.length k3).ownBlock = some k → w10.heap.size ≤ k ∧ k < w11.heap.size from fun k hk => ho.out.lt k hk)
  have HSw11 := Lib.hid hb.size
  clear hb ho
  skip
  have HNW := Lib.hid (show MsgBlk (w11.alloc (.cells (cellsM WM.zero (.slice none 0 0)) 28)) w11.heap.size WM.zero (.slice none 0 0) from Whole.new w11 _ _)
  have HBX := Lib.hid ((row16 HNW.out (decM l) (.slice D3 (decM l).stamp.length k3)).1)
  have hb := ((Below.refl _ w11).alloc (Nat.le_refl _) (.cells (cellsM WM.zero (.slice none 0 0)) 28)).trans ((row16 HNW.out (decM l) (.slice D3 (decM l).stamp.length k3)).2.below (by simp) (by simp))
  replace HX := Lib.hid (below_on HX.out hb)
  replace HK := Lib.hid ((Mod.of_below hb []).whole HK.out (by simp))
  replace HC := Lib.hid (HC.out.below hb)
  replace HY := Lib.hid (HY.out.below hb)
  replace HR := Lib.hid ((Mod.of_below hb []).own HR.out (by simp))
  replace HRI := Lib.hid (HRI.out.below hb)
  replace HBI := Lib.hid ((Mod.of_below hb []).whole HBI.out (by simp))
  replace HFI := Lib.hid (HFI.out.below hb)
  replace HY1 := Lib.hid ((Mod.of_below hb []).own HY1.out (by simp))
  replace HY2 := Lib.hid ((Mod.of_below hb []).own HY2.out (by simp))
  replace HU := Lib.hid ((Mod.of_below hb []).own HU.out (by simp))
  replace HUB := Lib.hid (HUB.out.below hb)
  replace HUL := Lib.hid (HUL.out.below hb)
  replace HO3 := Lib.hid ((Mod.of_below hb []).own HO3.out (by simp))
  have HSZ := Lib.hid (show w11.heap.size + 1 ≤ _ from Nat.le_trans (by simp) (row16 HNW.out (decM l) (.slice D3 (decM l).stamp.length k3)).2.size)
  clear hb
  unfold cellsM WM.zero at HNW
  rw [show cellsM WM.zero (.slice none 0 0) = #[.int .i64 0, .int .i64 0, .int .i64 0, .int .i64 0, .int .i64 0, .int .i64 0, .int .i64 0, .string ⟨#[]⟩, .int .i64 0, .int .i64 0, .int .i64 0, .bool false, .int .i64 0, .slice none 0 0, .int .i64 0, .int .i64 0] from rfl] at HX HK HC HY HR HRI HBI HFI HY1 HY2 HU HUB HUL HO3 HBX HSZ
  go_upto_region 11 with (first | (refine wpList_store_row rfl 28 (.tmp 12) (.tmp 64) rfl w11.heap.size (cellsM (decM l) (.slice D3 (decM l).stamp.length k3)) rfl rfl 28 _ HNW.out (by kernel_rfl) rfl (by simp [cellsM, Value.oneCell']) ?_))
  generalize World.setRow _ _ _ = w11b at HX HK HC HY HR HRI HBI HFI HY1 HY2 HU HUB HUL HO3 HBX HSZ ⊢
  clear HNW
  have HP := HBX
  clear HBX
  have HSw11b := HSZ
  clear HSZ
  go_wp2_with fail
  refine (wDec_any (some ⟨gu, 0, none⟩) cu l _ HUL.out (by omega)).mono ?_
  rintro e w12 ⟨D4, k4, rfl, ho, hb⟩
  replace HX := Lib.hid (below_on HX.out hb)
  replace HK := Lib.hid ((Mod.of_below hb []).whole HK.out (by simp))
  replace HC := Lib.hid (HC.out.below hb)
  replace HY := Lib.hid (HY.out.below hb)
  replace HR := Lib.hid ((Mod.of_below hb []).own HR.out (by simp))
  replace HRI := Lib.hid (HRI.out.below hb)
  replace HBI := Lib.hid ((Mod.of_below hb []).whole HBI.out (by simp))
  replace HFI := Lib.hid (HFI.out.below hb)
  replace HY1 := Lib.hid ((Mod.of_below hb []).own HY1.out (by simp))
  replace HY2 := Lib.hid ((Mod.of_below hb []).own HY2.out (by simp))
  replace HU := Lib.hid ((Mod.of_below hb []).own HU.out (by simp))
  replace HUB := Lib.hid (HUB.out.below hb)
  replace HUL := Lib.hid (HUL.out.below hb)
  replace HO3 := Lib.hid ((Mod.of_below hb []).own HO3.out (by simp))
  replace HP := Lib.hid ((Mod.of_below hb []).whole HP.out (by simp))
  have HO4 := Lib.hid ho.out
  have HGO4 := Lib.hid (show ∀ k, (Value.slice D4 (decM l).stamp.length k4).ownBlock = some k → w11b.heap.size ≤ k ∧ k < w12.heap.size from fun k hk => ho.out.lt k hk)
  have HSw12 := Lib.hid hb.size
  clear hb ho
  skip
  have HNW := Lib.hid (show MsgBlk (w12.alloc (.cells (cellsM WM.zero (.slice none 0 0)) 28)) w12.heap.size WM.zero (.slice none 0 0) from Whole.new w12 _ _)
  have HBX := Lib.hid ((row16 HNW.out (decM l) (.slice D4 (decM l).stamp.length k4)).1)
  have hb := ((Below.refl _ w12).alloc (Nat.le_refl _) (.cells (cellsM WM.zero (.slice none 0 0)) 28)).trans ((row16 HNW.out (decM l) (.slice D4 (decM l).stamp.length k4)).2.below (by simp) (by simp))
  replace HX := Lib.hid (below_on HX.out hb)
  replace HK := Lib.hid ((Mod.of_below hb []).whole HK.out (by simp))
  replace HC := Lib.hid (HC.out.below hb)
  replace HY := Lib.hid (HY.out.below hb)
  replace HR := Lib.hid ((Mod.of_below hb []).own HR.out (by simp))
  replace HRI := Lib.hid (HRI.out.below hb)
  replace HBI := Lib.hid ((Mod.of_below hb []).whole HBI.out (by simp))
  replace HFI := Lib.hid (HFI.out.below hb)
  replace HY1 := Lib.hid ((Mod.of_below hb []).own HY1.out (by simp))
  replace HY2 := Lib.hid ((Mod.of_below hb []).own HY2.out (by simp))
  replace HU := Lib.hid ((Mod.of_below hb []).own HU.out (by simp))
  replace HUB := Lib.hid (HUB.out.below hb)
  replace HUL := Lib.hid (HUL.out.below hb)
  replace HO3 := Lib.hid ((Mod.of_below hb []).own HO3.out (by simp))
  replace HP := Lib.hid ((Mod.of_below hb []).whole HP.out (by simp))
  replace HO4 := Lib.hid ((Mod.of_below hb []).own HO4.out (by simp))
  have HSZ := Lib.hid (show w12.heap.size + 1 ≤ _ from Nat.le_trans (by simp) (row16 HNW.out (decM l) (.slice D4 (decM l).stamp.length k4)).2.size)
  clear hb
  unfold cellsM WM.zero at HNW
  rw [show cellsM WM.zero (.slice none 0 0) = #[.int .i64 0, .int .i64 0, .int .i64 0, .int .i64 0, .int .i64 0, .int .i64 0, .int .i64 0, .string ⟨#[]⟩, .int .i64 0, .int .i64 0, .int .i64 0, .bool false, .int .i64 0, .slice none 0 0, .int .i64 0, .int .i64 0] from rfl] at HX HK HC HY HR HRI HBI HFI HY1 HY2 HU HUB HUL HO3 HP HO4 HBX HSZ
  go_upto_region 12 with (first | (refine wpList_store_row rfl 28 (.tmp 14) (.tmp 72) rfl w12.heap.size (cellsM (decM l) (.slice D4 (decM l).stamp.length k4)) rfl rfl 28 _ HNW.out (by kernel_rfl) rfl (by simp [cellsM, Value.oneCell']) ?_))
  generalize World.setRow _ _ _ = w12b at HX HK HC HY HR HRI HBI HFI HY1 HY2 HU HUB HUL HO3 HP HO4 HBX HSZ ⊢
  clear HNW
  have HQ := HBX
  clear HBX
  have HSw12b := HSZ
  clear HSZ
  obtain ⟨xf, hxf⟩ : ∃ x, x = (⟨(l ++ [91, 92]).toArray⟩ : ByteArray) := ⟨_, rfl⟩
  obtain ⟨xl, hxl⟩ : ∃ x, x = (⟨l.toArray⟩ : ByteArray) := ⟨_, rfl⟩
  have HXF := Lib.hid hxf.symm
  have HXL := Lib.hid hxl.symm
  have HCAT := Lib.hid (show xf = xl ++ (⟨#[91, 92]⟩ : ByteArray) by rw [hxf, hxl, show (⟨#[91, 92]⟩ : ByteArray) = ⟨([91, 92] : List UInt8).toArray⟩ from rfl, cat_same])
  have HSX := Lib.hid (show xl.size ≤ 140737488351232 by rw [hxl]; show l.toArray.size ≤ _; simp; omega)
  clear hxf hxl
  have HJJ := Lib.hid (jj hl)
  have HIX := Lib.hid (show ∀ y, IntsAt y (some ⟨gr, 0, none⟩) (m.stamp ++ [-91, -92]) → y.cell? ⟨gr, m.stamp.length, none⟩ = some (.int .i64 (-91)) ∧ y.cell? ⟨gr, m.stamp.length + 1, none⟩ = some (.int .i64 (-92)) from fun y h => at_two h)
  go_upto_region 12 with (fail)
  have hKeep : ∀ (us : Nat → Value) (wa wb : World), Below wa.heap.size wa wb → ∀ j, known [fun us y => us 0 = .pointer (some ⟨w3.heap.size, 13, none⟩), fun us y => us 1 = .slice (some ⟨gr, 0, none⟩) m.stamp.length cr, fun us y => us 2 = .pointer (some ⟨w.heap.size, 13, none⟩), fun us y => us 3 = .slice A m.stamp.length c, fun us y => us 4 = .bool true, fun us y => us 5 = .bool false, fun us y => us 6 = .bool false, fun us y => us 7 = .slice (some ⟨gr, 0, none⟩) (m.stamp.length + 2) cr, fun us y => us 8 = .pointer (some ⟨w.heap.size, 13, none⟩), fun us y => us 9 = .slice A m.stamp.length c, fun us y => us 10 = .int .i64 (m.stamp.length : Int), fun us y => us 11 = .pointer (some ⟨gr, m.stamp.length, none⟩), fun us y => us 12 = .int .i64 (-91), fun us y => us 13 = .bool false, fun us y => us 14 = .bool false, fun us y => us 15 = .bool false, fun us y => us 16 = .slice (some ⟨gr, 0, none⟩) (m.stamp.length + 2) cr, fun us y => us 17 = .pointer (some ⟨w.heap.size, 13, none⟩), fun us y => us 18 = .slice A m.stamp.length c, fun us y => us 19 = .int .i64 (m.stamp.length : Int), fun us y => us 20 = .int .i64 ((m.stamp.length : Int) + 1), fun us y => us 21 = .pointer (some ⟨gr, m.stamp.length + 1, none⟩), fun us y => us 22 = .int .i64 (-92), fun us y => us 23 = .bool false, fun us y => us 24 = .bool false, fun us y => us 25 = .bool false, fun us y => us 26 = .slice (some ⟨gu, 0, none⟩) (l.length + 2) cu, fun us y => us 27 = .string xf, fun us y => us 28 = .slice A2 l.length c2, fun us y => us 29 = .string xl, fun us y => us 30 = .string (xl ++ (⟨#[91, 92]⟩ : ByteArray)), fun us y => us 31 = .bool false, fun us y => us 32 = .bool false] j us wa → known [fun us y => us 0 = .pointer (some ⟨w3.heap.size, 13, none⟩), fun us y => us 1 = .slice (some ⟨gr, 0, none⟩) m.stamp.length cr, fun us y => us 2 = .pointer (some ⟨w.heap.size, 13, none⟩), fun us y => us 3 = .slice A m.stamp.length c, fun us y => us 4 = .bool true, fun us y => us 5 = .bool false, fun us y => us 6 = .bool false, fun us y => us 7 = .slice (some ⟨gr, 0, none⟩) (m.stamp.length + 2) cr, fun us y => us 8 = .pointer (some ⟨w.heap.size, 13, none⟩), fun us y => us 9 = .slice A m.stamp.length c, fun us y => us 10 = .int .i64 (m.stamp.length : Int), fun us y => us 11 = .pointer (some ⟨gr, m.stamp.length, none⟩), fun us y => us 12 = .int .i64 (-91), fun us y => us 13 = .bool false, fun us y => us 14 = .bool false, fun us y => us 15 = .bool false, fun us y => us 16 = .slice (some ⟨gr, 0, none⟩) (m.stamp.length + 2) cr, fun us y => us 17 = .pointer (some ⟨w.heap.size, 13, none⟩), fun us y => us 18 = .slice A m.stamp.length c, fun us y => us 19 = .int .i64 (m.stamp.length : Int), fun us y => us 20 = .int .i64 ((m.stamp.length : Int) + 1), fun us y => us 21 = .pointer (some ⟨gr, m.stamp.length + 1, none⟩), fun us y => us 22 = .int .i64 (-92), fun us y => us 23 = .bool false, fun us y => us 24 = .bool false, fun us y => us 25 = .bool false, fun us y => us 26 = .slice (some ⟨gu, 0, none⟩) (l.length + 2) cu, fun us y => us 27 = .string xf, fun us y => us 28 = .slice A2 l.length c2, fun us y => us 29 = .string xl, fun us y => us 30 = .string (xl ++ (⟨#[91, 92]⟩ : ByteArray)), fun us y => us 31 = .bool false, fun us y => us 32 = .bool false] j us wb := by
    intro us wa wb hb j h
    match j, h with
    | 0, h => exact h
    | 1, h => exact h
    | 2, h => exact h
    | 3, h => exact h
    | 4, h => exact h
    | 5, h => exact h
    | 6, h => exact h
    | 7, h => exact h
    | 8, h => exact h
    | 9, h => exact h
    | 10, h => exact h
    | 11, h => exact h
    | 12, h => exact h
    | 13, h => exact h
    | 14, h => exact h
    | 15, h => exact h
    | 16, h => exact h
    | 17, h => exact h
    | 18, h => exact h
    | 19, h => exact h
    | 20, h => exact h
    | 21, h => exact h
    | 22, h => exact h
    | 23, h => exact h
    | 24, h => exact h
    | 25, h => exact h
    | 26, h => exact h
    | 27, h => exact h
    | 28, h => exact h
    | 29, h => exact h
    | 30, h => exact h
    | 31, h => exact h
    | 32, h => exact h
    | q + 33, h => exact trivial
  have HKEEP := Lib.hid hKeep
  clear hKeep
  refine region_eseq [some 74, some 75, some 76, some 77, some 78, some 79, some 80, some 81, some 82, some 83, some 84, some 85, some 86, some 87, some 88, some 89, some 90, some 91, some 92, some 93, some 94, some 95, some 96, some 97, some 98, some 99, some 100, some 101, some 102, some 103, some 104, some 105, some 106] (known [fun us y => us 0 = .pointer (some ⟨w3.heap.size, 13, none⟩), fun us y => us 1 = .slice (some ⟨gr, 0, none⟩) m.stamp.length cr, fun us y => us 2 = .pointer (some ⟨w.heap.size, 13, none⟩), fun us y => us 3 = .slice A m.stamp.length c, fun us y => us 4 = .bool true, fun us y => us 5 = .bool false, fun us y => us 6 = .bool false, fun us y => us 7 = .slice (some ⟨gr, 0, none⟩) (m.stamp.length + 2) cr, fun us y => us 8 = .pointer (some ⟨w.heap.size, 13, none⟩), fun us y => us 9 = .slice A m.stamp.length c, fun us y => us 10 = .int .i64 (m.stamp.length : Int), fun us y => us 11 = .pointer (some ⟨gr, m.stamp.length, none⟩), fun us y => us 12 = .int .i64 (-91), fun us y => us 13 = .bool false, fun us y => us 14 = .bool false, fun us y => us 15 = .bool false, fun us y => us 16 = .slice (some ⟨gr, 0, none⟩) (m.stamp.length + 2) cr, fun us y => us 17 = .pointer (some ⟨w.heap.size, 13, none⟩), fun us y => us 18 = .slice A m.stamp.length c, fun us y => us 19 = .int .i64 (m.stamp.length : Int), fun us y => us 20 = .int .i64 ((m.stamp.length : Int) + 1), fun us y => us 21 = .pointer (some ⟨gr, m.stamp.length + 1, none⟩), fun us y => us 22 = .int .i64 (-92), fun us y => us 23 = .bool false, fun us y => us 24 = .bool false, fun us y => us 25 = .bool false, fun us y => us 26 = .slice (some ⟨gu, 0, none⟩) (l.length + 2) cu, fun us y => us 27 = .string xf, fun us y => us 28 = .slice A2 l.length c2, fun us y => us 29 = .string xl, fun us y => us 30 = .string (xl ++ (⟨#[91, 92]⟩ : ByteArray)), fun us y => us 31 = .bool false, fun us y => us 32 = .bool false]) (fun y => Below w12b.heap.size w12b y) (fun y => True) [] [[], [0], [], [2], [0, 1, 2, 3], [0, 1, 2, 3, 4], [0, 1, 2, 3, 4, 5], [0, 1, 2, 3, 4, 5, 6], [0, 1, 2, 3, 4, 5, 6], [0, 1, 2, 3, 4, 5, 6, 8], [0, 1, 2, 3, 4, 5, 6, 8, 9], [0, 1, 2, 3, 4, 5, 6, 7, 8, 9, 10], [0, 1, 2, 3, 4, 5, 6, 7, 8, 9, 10, 11], [0, 1, 2, 3, 4, 5, 6, 7, 8, 9, 10, 11, 12], [0, 1, 2, 3, 4, 5, 6, 7, 8, 9, 10, 11, 12, 13], [0, 1, 2, 3, 4, 5, 6, 7, 8, 9, 10, 11, 12, 13, 14], [0, 1, 2, 3, 4, 5, 6, 7, 8, 9, 10, 11, 12, 13, 14, 15], [0, 1, 2, 3, 4, 5, 6, 7, 8, 9, 10, 11, 12, 13, 14, 15], [0, 1, 2, 3, 4, 5, 6, 7, 8, 9, 10, 11, 12, 13, 14, 15, 17], [0, 1, 2, 3, 4, 5, 6, 7, 8, 9, 10, 11, 12, 13, 14, 15, 17, 18], [0, 1, 2, 3, 4, 5, 6, 7, 8, 9, 10, 11, 12, 13, 14, 15, 17, 18, 19], [0, 1, 2, 3, 4, 5, 6, 7, 8, 9, 10, 11, 12, 13, 14, 15, 16, 17, 18, 19, 20], [0, 1, 2, 3, 4, 5, 6, 7, 8, 9, 10, 11, 12, 13, 14, 15, 16, 17, 18, 19, 20, 21], [0, 1, 2, 3, 4, 5, 6, 7, 8, 9, 10, 11, 12, 13, 14, 15, 16, 17, 18, 19, 20, 21, 22], [0, 1, 2, 3, 4, 5, 6, 7, 8, 9, 10, 11, 12, 13, 14, 15, 16, 17, 18, 19, 20, 21, 22, 23], [0, 1, 2, 3, 4, 5, 6, 7, 8, 9, 10, 11, 12, 13, 14, 15, 16, 17, 18, 19, 20, 21, 22, 23, 24], [0, 1, 2, 3, 4, 5, 6, 7, 8, 9, 10, 11, 12, 13, 14, 15, 16, 17, 18, 19, 20, 21, 22, 23, 24, 25], [0, 1, 2, 3, 4, 5, 6, 7, 8, 9, 10, 11, 12, 13, 14, 15, 16, 17, 18, 19, 20, 21, 22, 23, 24, 25, 26], [0, 1, 2, 3, 4, 5, 6, 7, 8, 9, 10, 11, 12, 13, 14, 15, 16, 17, 18, 19, 20, 21, 22, 23, 24, 25], [0, 1, 2, 3, 4, 5, 6, 7, 8, 9, 10, 11, 12, 13, 14, 15, 16, 17, 18, 19, 20, 21, 22, 23, 24, 25, 28], [0, 1, 2, 3, 4, 5, 6, 7, 8, 9, 10, 11, 12, 13, 14, 15, 16, 17, 18, 19, 20, 21, 22, 23, 24, 25, 28, 29], [0, 1, 2, 3, 4, 5, 6, 7, 8, 9, 10, 11, 12, 13, 14, 15, 16, 17, 18, 19, 20, 21, 22, 23, 24, 25, 26, 27, 28, 29, 30], [0, 1, 2, 3, 4, 5, 6, 7, 8, 9, 10, 11, 12, 13, 14, 15, 16, 17, 18, 19, 20, 21, 22, 23, 24, 25, 26, 27, 28, 29, 30, 31]] (by
    intro j us us' y h hF
    match j, h, hF with
    | 0, h, hF => (have hF : us 0 = .pointer (some ⟨w3.heap.size, 13, none⟩) := hF; rw [h 0 (.inl rfl)] at hF; exact hF)
    | 1, h, hF => (have hF : us 1 = .slice (some ⟨gr, 0, none⟩) m.stamp.length cr := hF; rw [h 1 (.inl rfl)] at hF; exact hF)
    | 2, h, hF => (have hF : us 2 = .pointer (some ⟨w.heap.size, 13, none⟩) := hF; rw [h 2 (.inl rfl)] at hF; exact hF)
    | 3, h, hF => (have hF : us 3 = .slice A m.stamp.length c := hF; rw [h 3 (.inl rfl)] at hF; exact hF)
    | 4, h, hF => (have hF : us 4 = .bool true := hF; rw [h 4 (.inl rfl)] at hF; exact hF)
    | 5, h, hF => (have hF : us 5 = .bool false := hF; rw [h 5 (.inl rfl)] at hF; exact hF)
    | 6, h, hF => (have hF : us 6 = .bool false := hF; rw [h 6 (.inl rfl)] at hF; exact hF)
    | 7, h, hF => (have hF : us 7 = .slice (some ⟨gr, 0, none⟩) (m.stamp.length + 2) cr := hF; rw [h 7 (.inl rfl)] at hF; exact hF)
    | 8, h, hF => (have hF : us 8 = .pointer (some ⟨w.heap.size, 13, none⟩) := hF; rw [h 8 (.inl rfl)] at hF; exact hF)
    | 9, h, hF => (have hF : us 9 = .slice A m.stamp.length c := hF; rw [h 9 (.inl rfl)] at hF; exact hF)
    | 10, h, hF => (have hF : us 10 = .int .i64 (m.stamp.length : Int) := hF; rw [h 10 (.inl rfl)] at hF; exact hF)
    | 11, h, hF => (have hF : us 11 = .pointer (some ⟨gr, m.stamp.length, none⟩) := hF; rw [h 11 (.inl rfl)] at hF; exact hF)
    | 12, h, hF => (have hF : us 12 = .int .i64 (-91) := hF; rw [h 12 (.inl rfl)] at hF; exact hF)
    | 13, h, hF => (have hF : us 13 = .bool false := hF; rw [h 13 (.inl rfl)] at hF; exact hF)
    | 14, h, hF => (have hF : us 14 = .bool false := hF; rw [h 14 (.inl rfl)] at hF; exact hF)
    | 15, h, hF => (have hF : us 15 = .bool false := hF; rw [h 15 (.inl rfl)] at hF; exact hF)
    | 16, h, hF => (have hF : us 16 = .slice (some ⟨gr, 0, none⟩) (m.stamp.length + 2) cr := hF; rw [h 16 (.inl rfl)] at hF; exact hF)
    | 17, h, hF => (have hF : us 17 = .pointer (some ⟨w.heap.size, 13, none⟩) := hF; rw [h 17 (.inl rfl)] at hF; exact hF)
    | 18, h, hF => (have hF : us 18 = .slice A m.stamp.length c := hF; rw [h 18 (.inl rfl)] at hF; exact hF)
    | 19, h, hF => (have hF : us 19 = .int .i64 (m.stamp.length : Int) := hF; rw [h 19 (.inl rfl)] at hF; exact hF)
    | 20, h, hF => (have hF : us 20 = .int .i64 ((m.stamp.length : Int) + 1) := hF; rw [h 20 (.inl rfl)] at hF; exact hF)
    | 21, h, hF => (have hF : us 21 = .pointer (some ⟨gr, m.stamp.length + 1, none⟩) := hF; rw [h 21 (.inl rfl)] at hF; exact hF)
    | 22, h, hF => (have hF : us 22 = .int .i64 (-92) := hF; rw [h 22 (.inl rfl)] at hF; exact hF)
    | 23, h, hF => (have hF : us 23 = .bool false := hF; rw [h 23 (.inl rfl)] at hF; exact hF)
    | 24, h, hF => (have hF : us 24 = .bool false := hF; rw [h 24 (.inl rfl)] at hF; exact hF)
    | 25, h, hF => (have hF : us 25 = .bool false := hF; rw [h 25 (.inl rfl)] at hF; exact hF)
    | 26, h, hF => (have hF : us 26 = .slice (some ⟨gu, 0, none⟩) (l.length + 2) cu := hF; rw [h 26 (.inl rfl)] at hF; exact hF)
    | 27, h, hF => (have hF : us 27 = .string xf := hF; rw [h 27 (.inl rfl)] at hF; exact hF)
    | 28, h, hF => (have hF : us 28 = .slice A2 l.length c2 := hF; rw [h 28 (.inl rfl)] at hF; exact hF)
    | 29, h, hF => (have hF : us 29 = .string xl := hF; rw [h 29 (.inl rfl)] at hF; exact hF)
    | 30, h, hF => (have hF : us 30 = .string (xl ++ (⟨#[91, 92]⟩ : ByteArray)) := hF; rw [h 30 (.inl rfl)] at hF; exact hF)
    | 31, h, hF => (have hF : us 31 = .bool false := hF; rw [h 31 (.inl rfl)] at hF; exact hF)
    | 32, h, hF => (have hF : us 32 = .bool false := hF; rw [h 32 (.inl rfl)] at hF; exact hF)
    | q + 33, h, hF => exact trivial) rfl (by kernel_rfl) (by kernel_rfl) (by kernel_rfl) (Below.refl _ _) (trivial) (Z := fun vs => ch _ vs 74 [32, 31, 30, 29, 28, 27, 26, 25, 24, 23, 22, 21, 20, 19, 18, 17, 16, 15, 14, 13, 12, 11, 10, 9, 8, 7, 6, 5, 4, 3, 2, 1, 0]) (fun _ => rfl) ?_ ?_
  · skip
    refine EAll.snoc (i := 32) ?_ rfl rfl trivial ?_
    rotate_left
    · intro vs B y hI hJ hL hA K E hK
      have hB := hI
      clear hJ
      have e25 : vs 25 = .bool false := hA 25 (by decide)
      have e31 : vs 31 = .bool false := hA 31 (by decide)
      clear hA
      have t99 := (hL.at_ 25 (by decide) 99 rfl).trans (congrArg some e25)
      have t105 := (hL.at_ 31 (by decide) 105 rfl).trans (congrArg some e31)
      clear hL e25 e31
      refine Box.mk ?_
      go_simp
      exact hK.out _ _ hB (show (updv vs 32 _) 32 = .bool false from rfl) (fun _ _ _ h => h) (fun _ h => h)
    refine EAll.snoc (i := 31) ?_ rfl rfl (fun vs y hF h => absurd (show vs 25 = .bool false from hF 25 (by decide)) h) ?_
    rotate_left
    · intro vs B y hI hJ hL hA hg K E hK
      have hB := hI
      clear hJ hg
      have e27 : vs 27 = .string xf := hA 27 (by decide)
      have e30 : vs 30 = .string (xl ++ (⟨#[91, 92]⟩ : ByteArray)) := hA 30 (by decide)
      clear hA
      have t101 := (hL.at_ 27 (by decide) 101 rfl).trans (congrArg some e27)
      have t104 := (hL.at_ 30 (by decide) 104 rfl).trans (congrArg some e30)
      clear hL e27 e30
      refine Box.mk ?_
      have hx := HCAT.out
      generalize xl ++ (⟨#[91, 92]⟩ : ByteArray) = xx at hx t104
      subst hx
      have h1 : (xf.toList == xf.toList) = true := by simp
      have h2 : (xf.toList != xf.toList) = false := by simp
      go_simp
      exact hK.out _ _ hB (show (updv vs 31 _) 31 = .bool false from rfl) (fun _ _ _ h => h) (fun _ h => h)
    refine EAll.snoc (i := 30) ?_ rfl rfl (fun vs y hF h => absurd (show vs 25 = .bool false from hF 25 (by decide)) h) ?_
    rotate_left
    · intro vs B y hI hJ hL hA hg K E hK
      have hB := hI
      clear hJ hg
      have e29 : vs 29 = .string xl := hA 29 (by decide)
      clear hA
      have t103 := (hL.at_ 29 (by decide) 103 rfl).trans (congrArg some e29)
      clear hL e29
      refine Box.mk ?_
      have h1 : ¬ 9223372036854775807 < xl.size + 2 := by have := HSX.out; omega
      go_simp
      exact hK.out _ _ hB (show (updv vs 30 _) 30 = .string (xl ++ (⟨#[91, 92]⟩ : ByteArray)) from rfl) (fun _ _ _ h => h) (fun _ h => h)
    refine EAll.snoc (i := 29) ?_ rfl rfl (fun vs y hF h => absurd (show vs 25 = .bool false from hF 25 (by decide)) h) ?_
    rotate_left
    · intro vs B y hI hJ hL hA hg K E hK
      have hB := hI
      clear hJ hg
      have e28 : vs 28 = .slice A2 l.length c2 := hA 28 (by decide)
      clear hA
      have t102 := (hL.at_ 28 (by decide) 102 rfl).trans (congrArg some e28)
      clear hL e28
      refine Box.mk ?_
      have hcl := By.conv_of (c := c2) rfl (show By.BytesAt y A2 l from HY.out.below hB)
      rw [HXL.out] at hcl
      go_simp
      exact hK.out _ _ hB (show (updv vs 29 _) 29 = .string xl from rfl) (fun _ _ _ h => h) (fun _ h => h)
    refine EAll.snoc (i := 28) ?_ rfl rfl (fun vs y hF h => absurd (show vs 25 = .bool false from hF 25 (by decide)) h) ?_
    rotate_left
    · intro vs B y hI hJ hL hA hg K E hK
      have hB := hI
      clear hJ hg
      clear hA
      have t1 : B.tmps[1]? = some (.slice A2 l.length c2) := (hL.out 1 rfl).trans rfl
      clear hL
      refine Box.mk ?_
      go_simp
      exact hK.out _ _ hB (show (updv vs 28 _) 28 = .slice A2 l.length c2 from rfl) (fun _ _ _ h => h) (fun _ h => h)
    refine EAll.snoc (i := 27) ?_ rfl rfl (fun vs y hF h => absurd (show vs 25 = .bool false from hF 25 (by decide)) h) ?_
    rotate_left
    · intro vs B y hI hJ hL hA hg K E hK
      have hB := hI
      clear hJ hg
      have e26 : vs 26 = .slice (some ⟨gu, 0, none⟩) (l.length + 2) cu := hA 26 (by decide)
      clear hA
      have t100 := (hL.at_ 26 (by decide) 100 rfl).trans (congrArg some e26)
      clear hL e26
      refine Box.mk ?_
      have hcf := By.conv_of (n := l.length + 2) (c := cu) (by simp) (show By.BytesAt y (some ⟨gu, 0, none⟩) (l ++ [91, 92]) from HUB.out.below hB)
      rw [HXF.out] at hcf
      go_simp
      exact hK.out _ _ hB (show (updv vs 27 _) 27 = .string xf from rfl) (fun _ _ _ h => h) (fun _ h => h)
    refine EAll.snoc (i := 26) ?_ rfl rfl (fun vs y hF h => absurd (show vs 25 = .bool false from hF 25 (by decide)) h) ?_
    rotate_left
    · intro vs B y hI hJ hL hA hg K E hK
      have hB := hI
      clear hJ hg
      clear hA
      have t11 : B.tmps[11]? = some (.slice (some ⟨gu, 0, none⟩) (l.length + 2) cu) := (hL.out 11 rfl).trans rfl
      clear hL
      refine Box.mk ?_
      go_simp
      exact hK.out _ _ hB (show (updv vs 26 _) 26 = .slice (some ⟨gu, 0, none⟩) (l.length + 2) cu from rfl) (fun _ _ _ h => h) (fun _ h => h)
    refine EAll.snoc (i := 25) ?_ rfl rfl trivial ?_
    rotate_left
    · intro vs B y hI hJ hL hA K E hK
      have hB := hI
      clear hJ
      have e24 : vs 24 = .bool false := hA 24 (by decide)
      clear hA
      have t98 := (hL.at_ 24 (by decide) 98 rfl).trans (congrArg some e24)
      clear hL e24
      refine Box.mk ?_
      go_simp
      exact hK.out _ _ hB (show (updv vs 25 _) 25 = .bool false from rfl) (fun _ _ _ h => h) (fun _ h => h)
    refine EAll.snoc (i := 24) ?_ rfl rfl trivial ?_
    rotate_left
    · intro vs B y hI hJ hL hA K E hK
      have hB := hI
      clear hJ
      have e15 : vs 15 = .bool false := hA 15 (by decide)
      have e23 : vs 23 = .bool false := hA 23 (by decide)
      clear hA
      have t89 := (hL.at_ 15 (by decide) 89 rfl).trans (congrArg some e15)
      have t97 := (hL.at_ 23 (by decide) 97 rfl).trans (congrArg some e23)
      clear hL e15 e23
      refine Box.mk ?_
      go_simp
      exact hK.out _ _ hB (show (updv vs 24 _) 24 = .bool false from rfl) (fun _ _ _ h => h) (fun _ h => h)
    refine EAll.snoc (i := 23) ?_ rfl rfl (fun vs y hF h => absurd (show vs 15 = .bool false from hF 15 (by decide)) h) ?_
    rotate_left
    · intro vs B y hI hJ hL hA hg K E hK
      have hB := hI
      clear hJ hg
      have e22 : vs 22 = .int .i64 (-92) := hA 22 (by decide)
      clear hA
      have t96 := (hL.at_ 22 (by decide) 96 rfl).trans (congrArg some e22)
      clear hL e22
      refine Box.mk ?_
      go_simp
      exact hK.out _ _ hB (show (updv vs 23 _) 23 = .bool false from rfl) (fun _ _ _ h => h) (fun _ h => h)
    refine EAll.snoc (i := 22) ?_ rfl rfl (fun vs y hF h => absurd (show vs 15 = .bool false from hF 15 (by decide)) h) ?_
    rotate_left
    · intro vs B y hI hJ hL hA hg K E hK
      have hB := hI
      clear hJ hg
      have e21 : vs 21 = .pointer (some ⟨gr, m.stamp.length + 1, none⟩) := hA 21 (by decide)
      clear hA
      have t95 := (hL.at_ 21 (by decide) 95 rfl).trans (congrArg some e21)
      clear hL e21
      refine Box.mk ?_
      have z := (HIX.out y (HRI.out.below hB)).2
      go_simp
      exact hK.out _ _ hB (show (updv vs 22 _) 22 = .int .i64 (-92) from rfl) (fun _ _ _ h => h) (fun _ h => h)
    refine EAll.snoc (i := 21) ?_ rfl rfl (fun vs y hF h => absurd (show vs 15 = .bool false from hF 15 (by decide)) h) ?_
    rotate_left
    · intro vs B y hI hJ hL hA hg K E hK
      have hB := hI
      clear hJ hg
      have e16 : vs 16 = .slice (some ⟨gr, 0, none⟩) (m.stamp.length + 2) cr := hA 16 (by decide)
      have e20 : vs 20 = .int .i64 ((m.stamp.length : Int) + 1) := hA 20 (by decide)
      clear hA
      have t90 := (hL.at_ 16 (by decide) 90 rfl).trans (congrArg some e16)
      have t94 := (hL.at_ 20 (by decide) 94 rfl).trans (congrArg some e20)
      clear hL e16 e20
      refine Box.mk ?_
      obtain ⟨jw, j0, j1, j2, j3, j4, j5⟩ := HJJ.out
      go_simp
      exact hK.out _ _ hB (show (updv vs 21 _) 21 = .pointer (some ⟨gr, m.stamp.length + 1, none⟩) from rfl) (fun _ _ _ h => h) (fun _ h => h)
    refine EAll.snoc (i := 20) ?_ rfl rfl (fun vs y hF h => absurd (show vs 15 = .bool false from hF 15 (by decide)) h) ?_
    rotate_left
    · intro vs B y hI hJ hL hA hg K E hK
      have hB := hI
      clear hJ hg
      have e19 : vs 19 = .int .i64 (m.stamp.length : Int) := hA 19 (by decide)
      clear hA
      have t93 := (hL.at_ 19 (by decide) 93 rfl).trans (congrArg some e19)
      clear hL e19
      refine Box.mk ?_
      obtain ⟨jw, j0, j1, j2, j3, j4, j5⟩ := HJJ.out
      go_simp
      exact hK.out _ _ hB (show (updv vs 20 _) 20 = .int .i64 ((m.stamp.length : Int) + 1) from rfl) (fun _ _ _ h => h) (fun _ h => h)
    refine EAll.snoc (i := 19) ?_ rfl rfl (fun vs y hF h => absurd (show vs 15 = .bool false from hF 15 (by decide)) h) ?_
    rotate_left
    · intro vs B y hI hJ hL hA hg K E hK
      have hB := hI
      clear hJ hg
      have e18 : vs 18 = .slice A m.stamp.length c := hA 18 (by decide)
      clear hA
      have t92 := (hL.at_ 18 (by decide) 92 rfl).trans (congrArg some e18)
      clear hL e18
      refine Box.mk ?_
      go_simp
      exact hK.out _ _ hB (show (updv vs 19 _) 19 = .int .i64 (m.stamp.length : Int) from rfl) (fun _ _ _ h => h) (fun _ h => h)
    refine EAll.snoc (i := 18) ?_ rfl rfl (fun vs y hF h => absurd (show vs 15 = .bool false from hF 15 (by decide)) h) ?_
    rotate_left
    · intro vs B y hI hJ hL hA hg K E hK
      have hB := hI
      clear hJ hg
      have e17 : vs 17 = .pointer (some ⟨w.heap.size, 13, none⟩) := hA 17 (by decide)
      clear hA
      have t91 := (hL.at_ 17 (by decide) 91 rfl).trans (congrArg some e17)
      clear hL e17
      refine Box.mk ?_
      have z := ((Mod.of_below hB []).whole HK.out (by simp)).cell 13
      unfold cellsM at z
      go_simp
      exact hK.out _ _ hB (show (updv vs 18 _) 18 = .slice A m.stamp.length c from rfl) (fun _ _ _ h => h) (fun _ h => h)
    refine EAll.snoc (i := 17) ?_ rfl rfl (fun vs y hF h => absurd (show vs 15 = .bool false from hF 15 (by decide)) h) ?_
    rotate_left
    · intro vs B y hI hJ hL hA hg K E hK
      have hB := hI
      clear hJ hg
      clear hA
      have t2 : B.tmps[2]? = some (.pointer (some ⟨w.heap.size, 0, none⟩)) := (hL.out 2 rfl).trans rfl
      clear hL
      refine Box.mk ?_
      go_simp
      exact hK.out _ _ hB (show (updv vs 17 _) 17 = .pointer (some ⟨w.heap.size, 13, none⟩) from rfl) (fun _ _ _ h => h) (fun _ h => h)
    refine EAll.snoc (i := 16) ?_ rfl rfl (fun vs y hF h => absurd (show vs 15 = .bool false from hF 15 (by decide)) h) ?_
    rotate_left
    · intro vs B y hI hJ hL hA hg K E hK
      have hB := hI
      clear hJ hg
      clear hA
      have t5 : B.tmps[5]? = some (.slice (some ⟨gr, 0, none⟩) (m.stamp.length + 2) cr) := (hL.out 5 rfl).trans rfl
      clear hL
      refine Box.mk ?_
      go_simp
      exact hK.out _ _ hB (show (updv vs 16 _) 16 = .slice (some ⟨gr, 0, none⟩) (m.stamp.length + 2) cr from rfl) (fun _ _ _ h => h) (fun _ h => h)
    refine EAll.snoc (i := 15) ?_ rfl rfl trivial ?_
    rotate_left
    · intro vs B y hI hJ hL hA K E hK
      have hB := hI
      clear hJ
      have e14 : vs 14 = .bool false := hA 14 (by decide)
      clear hA
      have t88 := (hL.at_ 14 (by decide) 88 rfl).trans (congrArg some e14)
      clear hL e14
      refine Box.mk ?_
      go_simp
      exact hK.out _ _ hB (show (updv vs 15 _) 15 = .bool false from rfl) (fun _ _ _ h => h) (fun _ h => h)
    refine EAll.snoc (i := 14) ?_ rfl rfl trivial ?_
    rotate_left
    · intro vs B y hI hJ hL hA K E hK
      have hB := hI
      clear hJ
      have e6 : vs 6 = .bool false := hA 6 (by decide)
      have e13 : vs 13 = .bool false := hA 13 (by decide)
      clear hA
      have t80 := (hL.at_ 6 (by decide) 80 rfl).trans (congrArg some e6)
      have t87 := (hL.at_ 13 (by decide) 87 rfl).trans (congrArg some e13)
      clear hL e6 e13
      refine Box.mk ?_
      go_simp
      exact hK.out _ _ hB (show (updv vs 14 _) 14 = .bool false from rfl) (fun _ _ _ h => h) (fun _ h => h)
    refine EAll.snoc (i := 13) ?_ rfl rfl (fun vs y hF h => absurd (show vs 6 = .bool false from hF 6 (by decide)) h) ?_
    rotate_left
    · intro vs B y hI hJ hL hA hg K E hK
      have hB := hI
      clear hJ hg
      have e12 : vs 12 = .int .i64 (-91) := hA 12 (by decide)
      clear hA
      have t86 := (hL.at_ 12 (by decide) 86 rfl).trans (congrArg some e12)
      clear hL e12
      refine Box.mk ?_
      go_simp
      exact hK.out _ _ hB (show (updv vs 13 _) 13 = .bool false from rfl) (fun _ _ _ h => h) (fun _ h => h)
    refine EAll.snoc (i := 12) ?_ rfl rfl (fun vs y hF h => absurd (show vs 6 = .bool false from hF 6 (by decide)) h) ?_
    rotate_left
    · intro vs B y hI hJ hL hA hg K E hK
      have hB := hI
      clear hJ hg
      have e11 : vs 11 = .pointer (some ⟨gr, m.stamp.length, none⟩) := hA 11 (by decide)
      clear hA
      have t85 := (hL.at_ 11 (by decide) 85 rfl).trans (congrArg some e11)
      clear hL e11
      refine Box.mk ?_
      have z := (HIX.out y (HRI.out.below hB)).1
      go_simp
      exact hK.out _ _ hB (show (updv vs 12 _) 12 = .int .i64 (-91) from rfl) (fun _ _ _ h => h) (fun _ h => h)
    refine EAll.snoc (i := 11) ?_ rfl rfl (fun vs y hF h => absurd (show vs 6 = .bool false from hF 6 (by decide)) h) ?_
    rotate_left
    · intro vs B y hI hJ hL hA hg K E hK
      have hB := hI
      clear hJ hg
      have e7 : vs 7 = .slice (some ⟨gr, 0, none⟩) (m.stamp.length + 2) cr := hA 7 (by decide)
      have e10 : vs 10 = .int .i64 (m.stamp.length : Int) := hA 10 (by decide)
      clear hA
      have t81 := (hL.at_ 7 (by decide) 81 rfl).trans (congrArg some e7)
      have t84 := (hL.at_ 10 (by decide) 84 rfl).trans (congrArg some e10)
      clear hL e7 e10
      refine Box.mk ?_
      obtain ⟨jw, j0, j1, j2, j3, j4, j5⟩ := HJJ.out
      go_simp
      exact hK.out _ _ hB (show (updv vs 11 _) 11 = .pointer (some ⟨gr, m.stamp.length, none⟩) from rfl) (fun _ _ _ h => h) (fun _ h => h)
    refine EAll.snoc (i := 10) ?_ rfl rfl (fun vs y hF h => absurd (show vs 6 = .bool false from hF 6 (by decide)) h) ?_
    rotate_left
    · intro vs B y hI hJ hL hA hg K E hK
      have hB := hI
      clear hJ hg
      have e9 : vs 9 = .slice A m.stamp.length c := hA 9 (by decide)
      clear hA
      have t83 := (hL.at_ 9 (by decide) 83 rfl).trans (congrArg some e9)
      clear hL e9
      refine Box.mk ?_
      go_simp
      exact hK.out _ _ hB (show (updv vs 10 _) 10 = .int .i64 (m.stamp.length : Int) from rfl) (fun _ _ _ h => h) (fun _ h => h)
    refine EAll.snoc (i := 9) ?_ rfl rfl (fun vs y hF h => absurd (show vs 6 = .bool false from hF 6 (by decide)) h) ?_
    rotate_left
    · intro vs B y hI hJ hL hA hg K E hK
      have hB := hI
      clear hJ hg
      have e8 : vs 8 = .pointer (some ⟨w.heap.size, 13, none⟩) := hA 8 (by decide)
      clear hA
      have t82 := (hL.at_ 8 (by decide) 82 rfl).trans (congrArg some e8)
      clear hL e8
      refine Box.mk ?_
      have z := ((Mod.of_below hB []).whole HK.out (by simp)).cell 13
      unfold cellsM at z
      go_simp
      exact hK.out _ _ hB (show (updv vs 9 _) 9 = .slice A m.stamp.length c from rfl) (fun _ _ _ h => h) (fun _ h => h)
    refine EAll.snoc (i := 8) ?_ rfl rfl (fun vs y hF h => absurd (show vs 6 = .bool false from hF 6 (by decide)) h) ?_
    rotate_left
    · intro vs B y hI hJ hL hA hg K E hK
      have hB := hI
      clear hJ hg
      clear hA
      have t2 : B.tmps[2]? = some (.pointer (some ⟨w.heap.size, 0, none⟩)) := (hL.out 2 rfl).trans rfl
      clear hL
      refine Box.mk ?_
      go_simp
      exact hK.out _ _ hB (show (updv vs 8 _) 8 = .pointer (some ⟨w.heap.size, 13, none⟩) from rfl) (fun _ _ _ h => h) (fun _ h => h)
    refine EAll.snoc (i := 7) ?_ rfl rfl (fun vs y hF h => absurd (show vs 6 = .bool false from hF 6 (by decide)) h) ?_
    rotate_left
    · intro vs B y hI hJ hL hA hg K E hK
      have hB := hI
      clear hJ hg
      clear hA
      have t5 : B.tmps[5]? = some (.slice (some ⟨gr, 0, none⟩) (m.stamp.length + 2) cr) := (hL.out 5 rfl).trans rfl
      clear hL
      refine Box.mk ?_
      go_simp
      exact hK.out _ _ hB (show (updv vs 7 _) 7 = .slice (some ⟨gr, 0, none⟩) (m.stamp.length + 2) cr from rfl) (fun _ _ _ h => h) (fun _ h => h)
    refine EAll.snoc (i := 6) ?_ rfl rfl trivial ?_
    rotate_left
    · intro vs B y hI hJ hL hA K E hK
      have hB := hI
      clear hJ
      have e5 : vs 5 = .bool false := hA 5 (by decide)
      clear hA
      have t79 := (hL.at_ 5 (by decide) 79 rfl).trans (congrArg some e5)
      clear hL e5
      refine Box.mk ?_
      go_simp
      exact hK.out _ _ hB (show (updv vs 6 _) 6 = .bool false from rfl) (fun _ _ _ h => h) (fun _ h => h)
    refine EAll.snoc (i := 5) ?_ rfl rfl trivial ?_
    rotate_left
    · intro vs B y hI hJ hL hA K E hK
      have hB := hI
      clear hJ
      have e4 : vs 4 = .bool true := hA 4 (by decide)
      clear hA
      have t78 := (hL.at_ 4 (by decide) 78 rfl).trans (congrArg some e4)
      clear hL e4
      refine Box.mk ?_
      go_simp
      exact hK.out _ _ hB (show (updv vs 5 _) 5 = .bool false from rfl) (fun _ _ _ h => h) (fun _ h => h)
    refine EAll.snoc (i := 4) ?_ rfl rfl trivial ?_
    rotate_left
    · intro vs B y hI hJ hL hA K E hK
      have hB := hI
      clear hJ
      have e1 : vs 1 = .slice (some ⟨gr, 0, none⟩) m.stamp.length cr := hA 1 (by decide)
      have e3 : vs 3 = .slice A m.stamp.length c := hA 3 (by decide)
      clear hA
      have t75 := (hL.at_ 1 (by decide) 75 rfl).trans (congrArg some e1)
      have t77 := (hL.at_ 3 (by decide) 77 rfl).trans (congrArg some e3)
      clear hL e1 e3
      refine Box.mk ?_
      go_simp
      with_reducible refine (SameInts_any _ _ _ _ m.stamp m.stamp y (HFI.out.ints.below hB) (HC.out.ints.below hB) HFI.out.le HC.out.le HFI.out.cap (cap_of HC.out)).mono ?_
      rw [decide_eq_true (show m.stamp = m.stamp from rfl)]
      rintro e w5 ⟨rfl, hb⟩
      go_simp
      exact hK.out _ _ (below_on hB hb) (show (updv vs 4 _) 4 = .bool true from rfl) (fun j _ _ h => HKEEP.out vs y w5 hb j h) (fun _ h => h)
    refine EAll.snoc (i := 3) ?_ rfl rfl trivial ?_
    rotate_left
    · intro vs B y hI hJ hL hA K E hK
      have hB := hI
      clear hJ
      have e2 : vs 2 = .pointer (some ⟨w.heap.size, 13, none⟩) := hA 2 (by decide)
      clear hA
      have t76 := (hL.at_ 2 (by decide) 76 rfl).trans (congrArg some e2)
      clear hL e2
      refine Box.mk ?_
      have z := ((Mod.of_below hB []).whole HK.out (by simp)).cell 13
      unfold cellsM at z
      go_simp
      exact hK.out _ _ hB (show (updv vs 3 _) 3 = .slice A m.stamp.length c from rfl) (fun _ _ _ h => h) (fun _ h => h)
    refine EAll.snoc (i := 2) ?_ rfl rfl trivial ?_
    rotate_left
    · intro vs B y hI hJ hL hA K E hK
      have hB := hI
      clear hJ
      clear hA
      have t2 : B.tmps[2]? = some (.pointer (some ⟨w.heap.size, 0, none⟩)) := (hL.out 2 rfl).trans rfl
      clear hL
      refine Box.mk ?_
      go_simp
      exact hK.out _ _ hB (show (updv vs 2 _) 2 = .pointer (some ⟨w.heap.size, 13, none⟩) from rfl) (fun _ _ _ h => h) (fun _ h => h)
    refine EAll.snoc (i := 1) ?_ rfl rfl trivial ?_
    rotate_left
    · intro vs B y hI hJ hL hA K E hK
      have hB := hI
      clear hJ
      have e0 : vs 0 = .pointer (some ⟨w3.heap.size, 13, none⟩) := hA 0 (by decide)
      clear hA
      have t74 := (hL.at_ 0 (by decide) 74 rfl).trans (congrArg some e0)
      clear hL e0
      refine Box.mk ?_
      have z := ((Mod.of_below hB []).whole HBI.out (by simp)).cell 13
      unfold cellsM at z
      go_simp
      exact hK.out _ _ hB (show (updv vs 1 _) 1 = .slice (some ⟨gr, 0, none⟩) m.stamp.length cr from rfl) (fun _ _ _ h => h) (fun _ h => h)
    refine EAll.snoc (i := 0) ?_ rfl rfl trivial ?_
    rotate_left
    · intro vs B y hI hJ hL hA K E hK
      have hB := hI
      clear hJ
      clear hA
      have t6 : B.tmps[6]? = some (.pointer (some ⟨w3.heap.size, 0, none⟩)) := (hL.out 6 rfl).trans rfl
      clear hL
      refine Box.mk ?_
      go_simp
      exact hK.out _ _ hB (show (updv vs 0 _) 0 = .pointer (some ⟨w3.heap.size, 13, none⟩) from rfl) (fun _ _ _ h => h) (fun _ h => h)
    exact EAll.nil
  · intro vs y hI hall
    have hB := hI
    have e32 : vs 32 = .bool false := hall 32 (by decide)
    clear hall HKEEP
    refine Box.mk ?_
    simp only [e32, ch, cq, allPut, puts, Act.put, List.setIfInBounds_toArray, List.set_cons_zero, List.set_cons_succ]
    have HX13 := Lib.hid (below_on HX.out hB)
    replace HK := Lib.hid ((Mod.of_below hB []).whole HK.out (by simp))
    replace HC := Lib.hid (HC.out.below hB)
    replace HY := Lib.hid (HY.out.below hB)
    replace HR := Lib.hid ((Mod.of_below hB []).own HR.out (by simp))
    replace HRI := Lib.hid (HRI.out.below hB)
    replace HBI := Lib.hid ((Mod.of_below hB []).whole HBI.out (by simp))
    replace HFI := Lib.hid (HFI.out.below hB)
    replace HY1 := Lib.hid ((Mod.of_below hB []).own HY1.out (by simp))
    replace HY2 := Lib.hid ((Mod.of_below hB []).own HY2.out (by simp))
    replace HU := Lib.hid ((Mod.of_below hB []).own HU.out (by simp))
    replace HUB := Lib.hid (HUB.out.below hB)
    replace HUL := Lib.hid (HUL.out.below hB)
    replace HO3 := Lib.hid ((Mod.of_below hB []).own HO3.out (by simp))
    replace HP := Lib.hid ((Mod.of_below hB []).whole HP.out (by simp))
    replace HO4 := Lib.hid ((Mod.of_below hB []).own HO4.out (by simp))
    replace HQ := Lib.hid ((Mod.of_below hB []).whole HQ.out (by simp))
    have HSw13 := Lib.hid hB.size
    clear e32 hB
    replace HX := Lib.hid HX13.out
    clear HX13 HJJ HIX HCAT HXF HXL HSX
    go_upto_region 14 with (fail)
    have HLD := Lib.hid (msg_range HK.out)
    go_wp2_with (refine wpList_load_mid rfl 28 (.tmp 2) rfl w.heap.size 0 rfl (cellsM m (.slice A m.stamp.length c)).toList _ HLD.out Try.underlying28 rfl (by kernel_rfl) ?_)
    clear HLD
    refine (rEncO_any A c m _ HC.out.six).mono ?_
    rintro e w14 ⟨A14, c14, rfl, hy, hb⟩
    replace HX := Lib.hid (below_on HX.out hb)
    replace HK := Lib.hid ((Mod.of_below hb []).whole HK.out (by simp))
    replace HC := Lib.hid (HC.out.below hb)
    replace HY := Lib.hid (HY.out.below hb)
    replace HR := Lib.hid ((Mod.of_below hb []).own HR.out (by simp))
    replace HRI := Lib.hid (HRI.out.below hb)
    replace HBI := Lib.hid ((Mod.of_below hb []).whole HBI.out (by simp))
    replace HFI := Lib.hid (HFI.out.below hb)
    replace HY1 := Lib.hid ((Mod.of_below hb []).own HY1.out (by simp))
    replace HY2 := Lib.hid ((Mod.of_below hb []).own HY2.out (by simp))
    replace HU := Lib.hid ((Mod.of_below hb []).own HU.out (by simp))
    replace HUB := Lib.hid (HUB.out.below hb)
    replace HUL := Lib.hid (HUL.out.below hb)
    replace HO3 := Lib.hid ((Mod.of_below hb []).own HO3.out (by simp))
    replace HP := Lib.hid ((Mod.of_below hb []).whole HP.out (by simp))
    replace HO4 := Lib.hid ((Mod.of_below hb []).own HO4.out (by simp))
    replace HQ := Lib.hid ((Mod.of_below hb []).whole HQ.out (by simp))
    have HW := Lib.hid hy.out
    have HGW := Lib.hid (show ∀ k, (Value.slice A14 (encE m).length c14).ownBlock = some k → y.heap.size ≤ k from fun k hk => (hy.out.lt k hk).1)
    have HSw14 := Lib.hid hb.size
    clear hb hy
    go_wp2_with fail
    refine (rDec_any A2 c2 l _ HY.out hc2 (by omega)).mono ?_
    rintro e w15 ⟨D5, k5, rfl, ho, hb⟩
    replace HX := Lib.hid (below_on HX.out hb)
    replace HK := Lib.hid ((Mod.of_below hb []).whole HK.out (by simp))
    replace HC := Lib.hid (HC.out.below hb)
    replace HY := Lib.hid (HY.out.below hb)
    replace HR := Lib.hid ((Mod.of_below hb []).own HR.out (by simp))
    replace HRI := Lib.hid (HRI.out.below hb)
    replace HBI := Lib.hid ((Mod.of_below hb []).whole HBI.out (by simp))
    replace HFI := Lib.hid (HFI.out.below hb)
    replace HY1 := Lib.hid ((Mod.of_below hb []).own HY1.out (by simp))
    replace HY2 := Lib.hid ((Mod.of_below hb []).own HY2.out (by simp))
    replace HU := Lib.hid ((Mod.of_below hb []).own HU.out (by simp))
    replace HUB := Lib.hid (HUB.out.below hb)
    replace HUL := Lib.hid (HUL.out.below hb)
    replace HO3 := Lib.hid ((Mod.of_below hb []).own HO3.out (by simp))
    replace HP := Lib.hid ((Mod.of_below hb []).whole HP.out (by simp))
    replace HO4 := Lib.hid ((Mod.of_below hb []).own HO4.out (by simp))
    replace HQ := Lib.hid ((Mod.of_below hb []).whole HQ.out (by simp))
    replace HW := Lib.hid ((Mod.of_below hb []).own HW.out (by simp))
    have HO5 := Lib.hid ho.out
    have HGO5 := Lib.hid (show ∀ k, (Value.slice D5 (decM l).stamp.length k5).ownBlock = some k → w14.heap.size ≤ k from fun k hk => (ho.out.lt k hk).1)
    have HSw15 := Lib.hid hb.size
    clear hb ho
    skip
    have HNW := Lib.hid (show MsgBlk (w15.alloc (.cells (cellsM WM.zero (.slice none 0 0)) 28)) w15.heap.size WM.zero (.slice none 0 0) from Whole.new w15 _ _)
    have HBX := Lib.hid ((row16 HNW.out (decM l) (.slice D5 (decM l).stamp.length k5)).1)
    have hb := ((Below.refl _ w15).alloc (Nat.le_refl _) (.cells (cellsM WM.zero (.slice none 0 0)) 28)).trans ((row16 HNW.out (decM l) (.slice D5 (decM l).stamp.length k5)).2.below (by simp) (by simp))
    replace HX := Lib.hid (below_on HX.out hb)
    replace HK := Lib.hid ((Mod.of_below hb []).whole HK.out (by simp))
    replace HC := Lib.hid (HC.out.below hb)
    replace HY := Lib.hid (HY.out.below hb)
    replace HR := Lib.hid ((Mod.of_below hb []).own HR.out (by simp))
    replace HRI := Lib.hid (HRI.out.below hb)
    replace HBI := Lib.hid ((Mod.of_below hb []).whole HBI.out (by simp))
    replace HFI := Lib.hid (HFI.out.below hb)
    replace HY1 := Lib.hid ((Mod.of_below hb []).own HY1.out (by simp))
    replace HY2 := Lib.hid ((Mod.of_below hb []).own HY2.out (by simp))
    replace HU := Lib.hid ((Mod.of_below hb []).own HU.out (by simp))
    replace HUB := Lib.hid (HUB.out.below hb)
    replace HUL := Lib.hid (HUL.out.below hb)
    replace HO3 := Lib.hid ((Mod.of_below hb []).own HO3.out (by simp))
    replace HP := Lib.hid ((Mod.of_below hb []).whole HP.out (by simp))
    replace HO4 := Lib.hid ((Mod.of_below hb []).own HO4.out (by simp))
    replace HQ := Lib.hid ((Mod.of_below hb []).whole HQ.out (by simp))
    replace HW := Lib.hid ((Mod.of_below hb []).own HW.out (by simp))
    replace HO5 := Lib.hid ((Mod.of_below hb []).own HO5.out (by simp))
    have HSZ := Lib.hid (show w15.heap.size + 1 ≤ _ from Nat.le_trans (by simp) (row16 HNW.out (decM l) (.slice D5 (decM l).stamp.length k5)).2.size)
    clear hb
    unfold cellsM WM.zero at HNW
    rw [show cellsM WM.zero (.slice none 0 0) = #[.int .i64 0, .int .i64 0, .int .i64 0, .int .i64 0, .int .i64 0, .int .i64 0, .int .i64 0, .string ⟨#[]⟩, .int .i64 0, .int .i64 0, .int .i64 0, .bool false, .int .i64 0, .slice none 0 0, .int .i64 0, .int .i64 0] from rfl] at HX HK HC HY HR HRI HBI HFI HY1 HY2 HU HUB HUL HO3 HP HO4 HQ HW HO5 HBX HSZ
    go_upto_region 16 with (first | (refine wpList_store_row rfl 28 (.tmp 18) (.tmp 115) rfl w15.heap.size (cellsM (decM l) (.slice D5 (decM l).stamp.length k5)) rfl rfl 28 _ HNW.out (by kernel_rfl) rfl (by simp [cellsM, Value.oneCell']) ?_))
    generalize World.setRow _ _ _ = ws at HX HK HC HY HR HRI HBI HFI HY1 HY2 HU HUB HUL HO3 HP HO4 HQ HW HO5 HBX HSZ ⊢
    clear HNW
    have HT := HBX
    clear HBX
    have hsz : w1.heap.size ≤ w3.heap.size ∧ w3.heap.size ≤ w5.heap.size ∧ w5.heap.size ≤ w6.heap.size ∧ w6.heap.size ≤ w7.heap.size ∧ w7.heap.size ≤ w8.heap.size ∧ w8.heap.size ≤ w10.heap.size ∧ w10.heap.size ≤ w11.heap.size ∧ w11.heap.size + 1 ≤ w11b.heap.size ∧ w11b.heap.size ≤ w12.heap.size ∧ w12.heap.size + 1 ≤ w12b.heap.size ∧ w12b.heap.size ≤ y.heap.size ∧ y.heap.size ≤ w14.heap.size ∧ w14.heap.size ≤ w15.heap.size ∧ w15.heap.size + 1 ≤ ws.heap.size := ⟨HS1.out, by have := HSI.out; omega, HSw6.out, HSw7.out, HSw8.out, HSw10.out, HSw11.out, HSw11b.out, HSw12.out, HSw12b.out, HSw13.out, HSw14.out, HSw15.out, HSZ.out⟩
    have HSS := Lib.hid hsz
    clear hsz HSI HSw6 HSw7 HSw8 HSw10 HSw11 HSw11b HSw12 HSw12b HSw13 HSw14 HSw15 HSZ
    obtain ⟨F, hF⟩ : ∃ F, F = Fs w1.heap.size w6.heap.size w7.heap.size w11b.heap.size := ⟨_, rfl⟩
    have HFM := Lib.hid (show ∀ k, k ∈ F ↔ k < w11b.heap.size ∧ w1.heap.size ≤ k ∧ (k < w6.heap.size ∨ w7.heap.size ≤ k) from fun k => by rw [hF]; exact mem_Fs)
    clear hF
    have HPh := Lib.hid (show PhO ws F (some ⟨gr, 0, none⟩) (m.stamp.length + 2) cr (some ⟨gu, 0, none⟩) (l.length + 2) cu P1 (encE m).length p1 w11.heap.size (decM l) D3 (decM l).stamp.length k3 ws by
      have hs := HSS.out
      refine ⟨Mod.refl _ _, own_gwi HR.out (fun k hk => .inl ((HFM.out k).2 ?_)), own_gwb HU.out (fun k hk => .inl ((HFM.out k).2 ?_)), own_gwb HY1.out (fun k hk => .inl ((HFM.out k).2 ?_)), HP.out, (HFM.out _).2 ?_, own_gwi HO3.out (fun k hk => .inl ((HFM.out k).2 ?_))⟩
      · have h := HGR.out; have h2 := HGRL.out; injection hk with hk; subst hk; dsimp only; omega
      · have h := HGU.out; injection hk with hk; subst hk; dsimp only; omega
      · have h := HGY1.out k hk; omega
      · omega
      · have h := HGO3.out k hk; omega)
    have HWW := Lib.hid (show ∀ w', Mod F ws w' → Below w.heap.size w w' from fun w' hm => HX.out.trans (hm.below HX.out.size (fun k hk => Nat.le_trans HW1.out ((HFM.out k).1 hk).2.1)))
    have HEL := Lib.hid (encE_len m)
    have HDL := Lib.hid (decM_len l)
    have HKY := Lib.hid (show ∀ w', Mod F ws w' → w'.ownsRow w6.heap.size 5 1 (.slice P2 (encE m).length p2) (encE m).length (By.u8s (encE m)) from fun w' hm => hm.own HY2.out (fun k hk hx => by have h1 := HGY2.out k hk; have h2 := (HFM.out k).1 hx; omega))
    have HKW := Lib.hid (show ∀ w', Mod F ws w' → w'.ownsRow y.heap.size 5 1 (.slice A14 (encE m).length c14) (encE m).length (By.u8s (encE m)) from fun w' hm => hm.own HW.out (fun k hk hx => by have h1 := HGW.out k hk; have h2 := (HFM.out k).1 hx; have h3 := HSS.out; omega))
    have HKQ := Lib.hid (show ∀ w', Mod F ws w' → Fit w' D4 k4 (decM l) ∧ MsgBlk w' w12.heap.size (decM l) (.slice D4 (decM l).stamp.length k4) from fun w' hm => ⟨own_fit HWI.out (hm.own HO4.out (fun k hk hx => by have h1 := HGO4.out k hk; have h2 := (HFM.out k).1 hx; omega)), hm.whole HQ.out (fun hx => by have h2 := (HFM.out _).1 hx; have h3 := HSS.out; omega)⟩)
    have HKT := Lib.hid (show ∀ w', Mod F ws w' → Fit w' D5 k5 (decM l) ∧ MsgBlk w' w15.heap.size (decM l) (.slice D5 (decM l).stamp.length k5) from fun w' hm => ⟨own_fit HWI.out (hm.own HO5.out (fun k hk hx => by have h1 := HGO5.out k hk; have h2 := (HFM.out k).1 hx; have h3 := HSS.out; omega)), hm.whole HT.out (fun hx => by have h2 := (HFM.out _).1 hx; have h3 := HSS.out; omega)⟩)
    skip
    go_wp2_with fail
    go_loopw [119] (fun i wx => ∃ k : Nat, i = .int .i64 (k : Int) ∧ k ≤ m.stamp.length + 2 ∧ Hid (PhO ws F (some ⟨gr, 0, none⟩) (m.stamp.length + 2) cr (some ⟨gu, 0, none⟩) (l.length + 2) cu P1 ((encE m).length) p1 w11.heap.size (decM l) D3 ((decM l).stamp.length) k3 wx)) (fun i _ => m.stamp.length + 2 - (intOf i).toNat)
    case atStart => exact ⟨0, rfl, Nat.zero_le _, HPh⟩
    case round =>
      obtain ⟨k, rfl, hk, HPk⟩ := hrel
      by_cases hlt : k < m.stamp.length + 2
      · obtain ⟨g, u, cs, eA, cu9, fu, HWh, HFg⟩ := HPk.out.room.cellW hlt
        cases eA
        have HP2 := Lib.hid (HPk.out.cell (i := k) HFg.out HWh.out (by decide) (.int .i64 7))
        have hbd : m.stamp.length + 2 ≤ 140737488355328 := by omega
        go_wp2_with fail
        go_roundw
        case rel => exact ⟨k + 1, by go_num, hlt, HP2⟩
        case measure => simp only [intOf]; go_num
      · clear hk
        have HPa := HPk
        go_wp2_with fail
        go_loopw [128] (fun i wx => ∃ k : Nat, i = .int .i64 (k : Int) ∧ k ≤ l.length + 2 ∧ Hid (PhO ws F (some ⟨gr, 0, none⟩) (m.stamp.length + 2) cr (some ⟨gu, 0, none⟩) (l.length + 2) cu P1 ((encE m).length) p1 w11.heap.size (decM l) D3 ((decM l).stamp.length) k3 wx)) (fun i _ => l.length + 2 - (intOf i).toNat)
        case atStart => exact ⟨0, rfl, Nat.zero_le _, HPa⟩
        case round =>
          obtain ⟨k, rfl, hk, HPk⟩ := hrel
          by_cases hlt : k < l.length + 2
          · obtain ⟨g, u, cs, eA, cu9, fu, HWh, HFg⟩ := HPk.out.full.cellW hlt
            cases eA
            have HP2 := Lib.hid (HPk.out.cell (i := k) HFg.out HWh.out (by decide) (.int .u8 120))
            have hbd : l.length + 2 ≤ 140737488355328 := by omega
            go_wp2_with fail
            go_roundw
            case rel => exact ⟨k + 1, by go_num, hlt, HP2⟩
            case measure => simp only [intOf]; go_num
          · clear hk
            have HPb := HPk
            go_wp2_with fail
            go_loopw [137] (fun i wx => ∃ k : Nat, i = .int .i64 (k : Int) ∧ k ≤ (encE m).length ∧ Hid (PhO ws F (some ⟨gr, 0, none⟩) (m.stamp.length + 2) cr (some ⟨gu, 0, none⟩) (l.length + 2) cu P1 ((encE m).length) p1 w11.heap.size (decM l) D3 ((decM l).stamp.length) k3 wx)) (fun i _ => (encE m).length - (intOf i).toNat)
            case atStart => exact ⟨0, rfl, Nat.zero_le _, HPb⟩
            case round =>
              obtain ⟨k, rfl, hk, HPk⟩ := hrel
              by_cases hlt : k < (encE m).length
              · obtain ⟨g, u, cs, eA, cu9, fu, HWh, HFg⟩ := HPk.out.x.cellW hlt
                subst eA
                have HP2 := Lib.hid (HPk.out.cell (i := k) HFg.out HWh.out (by decide) (.int .u8 122))
                have hbd : (encE m).length ≤ 140737488355328 := by have := HEL.out; omega
                go_wp2_with fail
                go_roundw
                case rel => exact ⟨k + 1, by go_num, hlt, HP2⟩
                case measure => simp only [intOf]; go_num
              · clear hk
                have HPc := HPk
                have c13 := HPc.out.box.cell 13
                unfold cellsM at c13
                go_wp2_with fail
                go_loopw [147] (fun i wx => ∃ k : Nat, i = .int .i64 (k : Int) ∧ k ≤ (decM l).stamp.length ∧ Hid (PhO ws F (some ⟨gr, 0, none⟩) (m.stamp.length + 2) cr (some ⟨gu, 0, none⟩) (l.length + 2) cu P1 ((encE m).length) p1 w11.heap.size (decM l) D3 ((decM l).stamp.length) k3 wx)) (fun i _ => (decM l).stamp.length - (intOf i).toNat)
                case atStart => exact ⟨0, rfl, Nat.zero_le _, HPc⟩
                case round =>
                  obtain ⟨k, rfl, hk, HPk⟩ := hrel
                  by_cases hlt : k < (decM l).stamp.length
                  · obtain ⟨g, u, cs, eA, cu9, fu, HWh, HFg⟩ := HPk.out.p.cellW hlt
                    subst eA
                    have c13 := HPk.out.box.cell 13
                    unfold cellsM at c13
                    have HP2 := Lib.hid (HPk.out.cell (i := k) HFg.out HWh.out (by decide) (.int .i64 (-5)))
                    have hbd : (decM l).stamp.length ≤ 140737488355328 := by have := HDL.out; omega
                    go_wp2_with fail
                    go_roundw
                    case rel => exact ⟨k + 1, by go_num, hlt, HP2⟩
                    case measure => simp only [intOf]; go_num
                  · clear hk
                    have HPq := HPk
                    go_wp2_with fail
                    go_loopw [24, 7] (fun i v wx => ∃ (k : Nat) (A' : Option Addr) (c' : Nat) (E' : Option Addr) (e' : Nat), i = .int .i64 (k : Int) ∧ v = .slice A' ((encE m).length + k) c' ∧ k ≤ 40 ∧ Hid (PhO ws F (some ⟨gr, 0, none⟩) (m.stamp.length + 2) cr (some ⟨gu, 0, none⟩) (l.length + 2) cu A' ((encE m).length + k) c' w11.heap.size (decM l) E' ((decM l).stamp.length + k) e' wx)) (fun i _ _ => 40 - (intOf i).toNat)
                    case atStart => exact ⟨0, P1, p1, D3, k3, rfl, rfl, Nat.zero_le _, HPq⟩
                    case round =>
                      obtain ⟨k, A', c', E', e', rfl, rfl, hk, HPk⟩ := hrel
                      have hB := HPk.out.mod.size
                      by_cases hlt : k < 40
                      · have hlx : (encE m).length + k ≤ 1000 := by have := HEL.out; omega
                        have hlp : (decM l).stamp.length + k ≤ 1000 := by have := HDL.out; omega
                        have HPa := Lib.hid (HPk.out.on ((Below.refl _ wr).alloc (Nat.le_refl _) (.cells #[.int .u8 122] 5)))
                        go_upto_region 40 with (refine Own.list_app_gwb rfl (.tmp 159) (.tmp 160) rfl HPa.out.x wr.heap.size (.int .u8 122) rfl (Whole.new wr 5 #[.int .u8 122]) hlx (by simp; omega) rfl rfl ?_; intro A2' c2' wv hg hm hh)
                        have HPx := Lib.hid (HPa.out.appX hg hm hh)
                        clear hg hm hh HPa
                        have hB2 := HPx.out.mod.size
                        have HPz := Lib.hid (HPx.out.on ((Below.refl _ wv).alloc (Nat.le_refl _) (.cells #[.int .i64 (-6)] 3)))
                        have c13 := HPx.out.box.cell 13
                        unfold cellsM at c13
                        go_upto_region 38 with (refine Own.list_app_gwi rfl (.tmp 163) (.tmp 164) rfl HPz.out.p wv.heap.size (.int .i64 (-6)) rfl (Whole.new wv 3 #[.int .i64 (-6)]) hlp (by simp; omega) rfl rfl ?_; intro E2 e2 wu hg hm hh; have HPy := Lib.hid (HPz.out.appP hg hm hh); clear hg hm hh HPz; have d13 := HPy.out.1.box.cell 13; have f13 := HPy.out.1.box.frozen 13; unfold cellsM at d13)
                        have HPw := Lib.hid HPy.out.2
                        clear HPy d13 f13 c13
                        generalize wu.setCell ⟨w11.heap.size, 13, none⟩ (.slice E2 ((decM l).stamp.length + k + 1) e2) = wt at HPw ⊢
                        go_wp2_with fail
                        go_roundw
                        case rel => exact ⟨k + 1, A2', c2', E2, e2, by go_num, rfl, hlt, HPw⟩
                        case measure => simp only [intOf]; go_num
                      · clear hk hB
                        have HM := Lib.hid HPk.out.mod
                        have hcv1 := By.str_of (c := p2) (show By.BytesAt wr P2 (encE m) from By.BytesAt.own (HKY.out wr HM.out))
                        have hcv2 := By.str_of (c := c14) (show By.BytesAt wr A14 (encE m) from By.BytesAt.own (HKW.out wr HM.out))
                        have HQ9 := Lib.hid (HKQ.out wr HM.out)
                        have HT9 := Lib.hid (HKT.out wr HM.out)
                        have HLQ := Lib.hid (msg_range HQ9.out.2)
                        have HLT := Lib.hid (msg_range HT9.out.2)
                        have HBW := Lib.hid (HWW.out wr HM.out)
                        clear hcv1 hcv2
                        have HBY2 := Lib.hid (show By.BytesAt wr P2 (encE m) from By.BytesAt.own (HKY.out wr HM.out))
                        have HBY3 := Lib.hid (show By.BytesAt wr A14 (encE m) from By.BytesAt.own (HKW.out wr HM.out))
                        go_upto_region 41 with (fail)
                        have hKeep : ∀ (us : Nat → Value) (wa wb : World), Below wa.heap.size wa wb → ∀ j, known [fun us y => us 0 = .slice P2 (encE m).length p2, fun us y => us 1 = .string ⟨(encE m).toArray⟩, fun us y => us 2 = .slice A14 (encE m).length c14, fun us y => us 3 = .string ⟨(encE m).toArray⟩, fun us y => us 4 = .bool true, fun us y => us 5 = .bool true, fun us y => us 6 = .agg (cellsM (decM l) (.slice D4 (decM l).stamp.length k4)), fun us y => us 7 = .agg (cellsM (decM l) (.slice D5 (decM l).stamp.length k5)), fun us y => us 8 = .bool true, fun us y => us 9 = .bool true, fun us y => us 10 = .bool true] j us wa → known [fun us y => us 0 = .slice P2 (encE m).length p2, fun us y => us 1 = .string ⟨(encE m).toArray⟩, fun us y => us 2 = .slice A14 (encE m).length c14, fun us y => us 3 = .string ⟨(encE m).toArray⟩, fun us y => us 4 = .bool true, fun us y => us 5 = .bool true, fun us y => us 6 = .agg (cellsM (decM l) (.slice D4 (decM l).stamp.length k4)), fun us y => us 7 = .agg (cellsM (decM l) (.slice D5 (decM l).stamp.length k5)), fun us y => us 8 = .bool true, fun us y => us 9 = .bool true, fun us y => us 10 = .bool true] j us wb := by
                          intro us wa wb hb j h
                          match j, h with
                          | 0, h => exact h
                          | 1, h => exact h
                          | 2, h => exact h
                          | 3, h => exact h
                          | 4, h => exact h
                          | 5, h => exact h
                          | 6, h => exact h
                          | 7, h => exact h
                          | 8, h => exact h
                          | 9, h => exact h
                          | 10, h => exact h
                          | q + 11, h => exact trivial
                        have HKEEP := Lib.hid hKeep
                        clear hKeep
                        refine region_eseq [some 167, some 168, some 169, some 170, some 171, some 172, some 173, some 174, some 175, some 176, some 4] (known [fun us y => us 0 = .slice P2 (encE m).length p2, fun us y => us 1 = .string ⟨(encE m).toArray⟩, fun us y => us 2 = .slice A14 (encE m).length c14, fun us y => us 3 = .string ⟨(encE m).toArray⟩, fun us y => us 4 = .bool true, fun us y => us 5 = .bool true, fun us y => us 6 = .agg (cellsM (decM l) (.slice D4 (decM l).stamp.length k4)), fun us y => us 7 = .agg (cellsM (decM l) (.slice D5 (decM l).stamp.length k5)), fun us y => us 8 = .bool true, fun us y => us 9 = .bool true, fun us y => us 10 = .bool true]) (fun y => Below wr.heap.size wr y) (fun y => True) [] [[], [0], [], [2], [0, 1, 2, 3], [0, 1, 2, 3, 4], [0, 1, 2, 3, 4, 5], [0, 1, 2, 3, 4, 5], [0, 1, 2, 3, 4, 5, 6, 7], [0, 1, 2, 3, 4, 5, 6, 7, 8], [0, 1, 2, 3, 4, 5, 6, 7, 8, 9]] (by
                          intro j us us' y h hF
                          match j, h, hF with
                          | 0, h, hF => (have hF : us 0 = .slice P2 (encE m).length p2 := hF; rw [h 0 (.inl rfl)] at hF; exact hF)
                          | 1, h, hF => (have hF : us 1 = .string ⟨(encE m).toArray⟩ := hF; rw [h 1 (.inl rfl)] at hF; exact hF)
                          | 2, h, hF => (have hF : us 2 = .slice A14 (encE m).length c14 := hF; rw [h 2 (.inl rfl)] at hF; exact hF)
                          | 3, h, hF => (have hF : us 3 = .string ⟨(encE m).toArray⟩ := hF; rw [h 3 (.inl rfl)] at hF; exact hF)
                          | 4, h, hF => (have hF : us 4 = .bool true := hF; rw [h 4 (.inl rfl)] at hF; exact hF)
                          | 5, h, hF => (have hF : us 5 = .bool true := hF; rw [h 5 (.inl rfl)] at hF; exact hF)
                          | 6, h, hF => (have hF : us 6 = .agg (cellsM (decM l) (.slice D4 (decM l).stamp.length k4)) := hF; rw [h 6 (.inl rfl)] at hF; exact hF)
                          | 7, h, hF => (have hF : us 7 = .agg (cellsM (decM l) (.slice D5 (decM l).stamp.length k5)) := hF; rw [h 7 (.inl rfl)] at hF; exact hF)
                          | 8, h, hF => (have hF : us 8 = .bool true := hF; rw [h 8 (.inl rfl)] at hF; exact hF)
                          | 9, h, hF => (have hF : us 9 = .bool true := hF; rw [h 9 (.inl rfl)] at hF; exact hF)
                          | 10, h, hF => (have hF : us 10 = .bool true := hF; rw [h 10 (.inl rfl)] at hF; exact hF)
                          | q + 11, h, hF => exact trivial) rfl (by kernel_rfl) (by kernel_rfl) (by kernel_rfl) (Below.refl _ _) (trivial) (Z := fun vs => cq _ vs [(4, 10), (176, 9), (175, 8), (174, 7), (173, 6), (172, 5), (171, 4), (170, 3), (169, 2), (168, 1), (167, 0)]) (fun _ => rfl) ?_ ?_
                        · skip
                          refine EAll.snoc (i := 10) ?_ rfl rfl trivial ?_
                          rotate_left
                          · intro vs B yy hI hJ hL hA K E hK
                            have hB := hI
                            clear hJ
                            have e9 : vs 9 = .bool true := hA 9 (by decide)
                            clear hA
                            have t176 := (hL.at_ 9 (by decide) 176 rfl).trans (congrArg some e9)
                            clear hL e9
                            refine Box.mk ?_
                            go_simp
                            exact hK.out _ _ hB (show (updv vs 10 _) 10 = .bool true from rfl) (fun _ _ _ h => h) (fun _ h => h)
                          refine EAll.snoc (i := 9) ?_ rfl rfl trivial ?_
                          rotate_left
                          · intro vs B yy hI hJ hL hA K E hK
                            have hB := hI
                            clear hJ
                            have e5 : vs 5 = .bool true := hA 5 (by decide)
                            have e8 : vs 8 = .bool true := hA 8 (by decide)
                            clear hA
                            have t172 := (hL.at_ 5 (by decide) 172 rfl).trans (congrArg some e5)
                            have t175 := (hL.at_ 8 (by decide) 175 rfl).trans (congrArg some e8)
                            clear hL e5 e8
                            refine Box.mk ?_
                            go_simp
                            exact hK.out _ _ hB (show (updv vs 9 _) 9 = .bool true from rfl) (fun _ _ _ h => h) (fun _ h => h)
                          refine EAll.snoc (i := 8) ?_ rfl rfl (fun vs y hF h => absurd (show vs 5 = .bool true from hF 5 (by decide)) h) ?_
                          rotate_left
                          · intro vs B yy hI hJ hL hA hg K E hK
                            have hB := hI
                            clear hJ hg
                            have e6 : vs 6 = .agg (cellsM (decM l) (.slice D4 (decM l).stamp.length k4)) := hA 6 (by decide)
                            have e7 : vs 7 = .agg (cellsM (decM l) (.slice D5 (decM l).stamp.length k5)) := hA 7 (by decide)
                            clear hA
                            have t173 := (hL.at_ 6 (by decide) 173 rfl).trans (congrArg some e6)
                            have t174 := (hL.at_ 7 (by decide) 174 rfl).trans (congrArg some e7)
                            clear hL e6 e7
                            refine Box.mk ?_
                            go_simp
                            with_reducible refine (r6_Same D4 D5 k4 k5 (decM l) (decM l) yy (HQ9.out.1.ints.below hB) (HT9.out.1.ints.below hB) HQ9.out.1.le HT9.out.1.le HQ9.out.1.cap HT9.out.1.cap).mono ?_
                            rw [decide_eq_true (show decM l = decM l from rfl)]
                            rintro e w5 ⟨rfl, hb⟩
                            go_simp
                            exact hK.out _ _ (below_on hB hb) (show (updv vs 8 _) 8 = .bool true from rfl) (fun j _ _ h => HKEEP.out vs yy w5 hb j h) (fun _ h => h)
                          refine EAll.snoc (i := 7) ?_ rfl rfl (fun vs y hF h => absurd (show vs 5 = .bool true from hF 5 (by decide)) h) ?_
                          rotate_left
                          · intro vs B yy hI hJ hL hA hg K E hK
                            have hB := hI
                            clear hJ hg
                            clear hA
                            have t18 : B.tmps[18]? = some (.pointer (some ⟨w15.heap.size, 0, none⟩)) := (hL.out 18 rfl).trans rfl
                            clear hL
                            refine Box.mk ?_
                            refine wp_load_mid 28 (.tmp 18) rfl (w15.heap.size) 0 (by simp [Act.eval, t18]) (cellsM (decM l) (.slice D5 (decM l).stamp.length k5)).toList _ (msg_range (show MsgBlk yy (w15.heap.size) (decM l) (.slice D5 (decM l).stamp.length k5) from (Mod.of_below hB []).whole HT9.out.2 (by simp))) Try.underlying28 rfl (by kernel_rfl) ?_
                            exact hK.out _ _ hB (show (updv vs 7 _) 7 = .agg (cellsM (decM l) (.slice D5 (decM l).stamp.length k5)) from rfl) (fun _ _ _ h => h) (fun _ h => h)
                          refine EAll.snoc (i := 6) ?_ rfl rfl (fun vs y hF h => absurd (show vs 5 = .bool true from hF 5 (by decide)) h) ?_
                          rotate_left
                          · intro vs B yy hI hJ hL hA hg K E hK
                            have hB := hI
                            clear hJ hg
                            clear hA
                            have t14 : B.tmps[14]? = some (.pointer (some ⟨w12.heap.size, 0, none⟩)) := (hL.out 14 rfl).trans rfl
                            clear hL
                            refine Box.mk ?_
                            refine wp_load_mid 28 (.tmp 14) rfl (w12.heap.size) 0 (by simp [Act.eval, t14]) (cellsM (decM l) (.slice D4 (decM l).stamp.length k4)).toList _ (msg_range (show MsgBlk yy (w12.heap.size) (decM l) (.slice D4 (decM l).stamp.length k4) from (Mod.of_below hB []).whole HQ9.out.2 (by simp))) Try.underlying28 rfl (by kernel_rfl) ?_
                            exact hK.out _ _ hB (show (updv vs 6 _) 6 = .agg (cellsM (decM l) (.slice D4 (decM l).stamp.length k4)) from rfl) (fun _ _ _ h => h) (fun _ h => h)
                          refine EAll.snoc (i := 5) ?_ rfl rfl trivial ?_
                          rotate_left
                          · intro vs B yy hI hJ hL hA K E hK
                            have hB := hI
                            clear hJ
                            have e4 : vs 4 = .bool true := hA 4 (by decide)
                            clear hA
                            have t171 := (hL.at_ 4 (by decide) 171 rfl).trans (congrArg some e4)
                            clear hL e4
                            refine Box.mk ?_
                            go_simp
                            exact hK.out _ _ hB (show (updv vs 5 _) 5 = .bool true from rfl) (fun _ _ _ h => h) (fun _ h => h)
                          refine EAll.snoc (i := 4) ?_ rfl rfl trivial ?_
                          rotate_left
                          · intro vs B yy hI hJ hL hA K E hK
                            have hB := hI
                            clear hJ
                            have e1 : vs 1 = .string ⟨(encE m).toArray⟩ := hA 1 (by decide)
                            have e3 : vs 3 = .string ⟨(encE m).toArray⟩ := hA 3 (by decide)
                            clear hA
                            have t168 := (hL.at_ 1 (by decide) 168 rfl).trans (congrArg some e1)
                            have t170 := (hL.at_ 3 (by decide) 170 rfl).trans (congrArg some e3)
                            clear hL e1 e3
                            refine Box.mk ?_
                            go_simp
                            exact hK.out _ _ hB (show (updv vs 4 _) 4 = .bool true from rfl) (fun _ _ _ h => h) (fun _ h => h)
                          refine EAll.snoc (i := 3) ?_ rfl rfl trivial ?_
                          rotate_left
                          · intro vs B yy hI hJ hL hA K E hK
                            have hB := hI
                            clear hJ
                            have e2 : vs 2 = .slice A14 (encE m).length c14 := hA 2 (by decide)
                            clear hA
                            have t169 := (hL.at_ 2 (by decide) 169 rfl).trans (congrArg some e2)
                            clear hL e2
                            refine Box.mk ?_
                            have hcv := By.str_of (c := c14) (HBY3.out.below hB)
                            go_simp
                            exact hK.out _ _ hB (show (updv vs 3 _) 3 = .string ⟨(encE m).toArray⟩ from rfl) (fun _ _ _ h => h) (fun _ h => h)
                          refine EAll.snoc (i := 2) ?_ rfl rfl trivial ?_
                          rotate_left
                          · intro vs B yy hI hJ hL hA K E hK
                            have hB := hI
                            clear hJ
                            clear hA
                            have t16 : B.tmps[16]? = some (.slice A14 (encE m).length c14) := (hL.out 16 rfl).trans rfl
                            clear hL
                            refine Box.mk ?_
                            go_simp
                            exact hK.out _ _ hB (show (updv vs 2 _) 2 = .slice A14 (encE m).length c14 from rfl) (fun _ _ _ h => h) (fun _ h => h)
                          refine EAll.snoc (i := 1) ?_ rfl rfl trivial ?_
                          rotate_left
                          · intro vs B yy hI hJ hL hA K E hK
                            have hB := hI
                            clear hJ
                            have e0 : vs 0 = .slice P2 (encE m).length p2 := hA 0 (by decide)
                            clear hA
                            have t167 := (hL.at_ 0 (by decide) 167 rfl).trans (congrArg some e0)
                            clear hL e0
                            refine Box.mk ?_
                            have hcv := By.str_of (c := p2) (HBY2.out.below hB)
                            go_simp
                            exact hK.out _ _ hB (show (updv vs 1 _) 1 = .string ⟨(encE m).toArray⟩ from rfl) (fun _ _ _ h => h) (fun _ h => h)
                          refine EAll.snoc (i := 0) ?_ rfl rfl trivial ?_
                          rotate_left
                          · intro vs B yy hI hJ hL hA K E hK
                            have hB := hI
                            clear hJ
                            clear hA
                            have t9 : B.tmps[9]? = some (.slice P2 (encE m).length p2) := (hL.out 9 rfl).trans rfl
                            clear hL
                            refine Box.mk ?_
                            go_simp
                            exact hK.out _ _ hB (show (updv vs 0 _) 0 = .slice P2 (encE m).length p2 from rfl) (fun _ _ _ h => h) (fun _ h => h)
                          exact EAll.nil
                        · intro vs yy hI hall
                          have hB := hI
                          have e10 : vs 10 = .bool true := hall 10 (by decide)
                          clear hall HKEEP
                          refine Box.mk ?_
                          simp only [e10, ch, cq, allPut, puts, Act.put, List.setIfInBounds_toArray, List.set_cons_zero, List.set_cons_succ]
                          have HBZ := Lib.hid (below_on HBW.out hB)
                          clear e10 hB
                          go_wp2_with fail
                          go_ret
                          exact ⟨rfl, HBZ.out⟩

theorem own : ownKnob Try.prog.godebug = none := by kernel_rfl
theorem laidOut : laidOutB Try.prog = true := by kernel_rfl
set_option maxRecDepth 100000 in
theorem lifted (os : Os) (started : os.Started) (H : Type) (enc : TypeId × Value → H) :
    ReturnsInHanded {} Try.checked os 6 .any (Rows.wireOwnSpec.pre6 enc Try.prog Try.f6 [] false) (Rows.wireOwnSpec.post enc Try.prog Try.f6 false true false false) := by
  refine LK.lifted_bare (C := Try.checked) (tb := 4) own started (by kernel_rfl) Try.func6 laidOut rfl (by kernel_rfl) (by kernel_rfl) Try.underlying4
    (fun ds h => by
      match ds, h with
      | [_, _], _ => rfl)
    (ChangeSpec.witness6 (enc := enc) (C := Try.checked) false ⟨#[], #[.agg #[.int .i64 0, .int .i64 0, .int .i64 0, .int .i64 0, .int .i64 0, .int .i64 0, .int .i64 0, .string ⟨#[]⟩, .int .i64 0, .int .i64 0, .int .i64 0, .bool false, .int .i64 0, .slice none 0 0, .int .i64 0, .int .i64 0], .slice none 0 0], []⟩ 8 (by kernel_rfl) (by kernel_rfl) (by kernel_rfl) (by kernel_rfl)) ?_
  intro W base args ds ps hval hA hwt _
  rw [show Try.f6.params.toList = [28, 30] by kernel_rfl] at hA hwt
  have hval' : ∀ (j : Nat) t v, (#[28, 30] : Array TypeId)[j]? = some t → args[j]? = some v → Value.okWide Try.prog W .any base t v := by
    rw [← Try.params6]; exact hval
  clear hval
  obtain ⟨v0, v1, d0, d1, p0, p1, rfl, rfl, rfl, h0, h1⟩ := trodAll_two hA
  obtain ⟨A0, c0, m0, rfl, hC0⟩ := open_msg (hval' 0 28 v0 rfl rfl) h0 hwt (j := 0) rfl rfl
  obtain ⟨A1, c1, l1, rfl, hB1, hc1, hm1⟩ := By.open_bytes (hval' 1 30 v1 rfl rfl) h1 hwt (j := 1) rfl rfl
  exact walk A0 c0 m0 A1 c1 l1 W hC0 hB1 hc1 hm1

/-- The statement. -/
theorem proved : Rows.WireOwnSaid :=
  OpenClaim.holds_of_wide 6 Try.f6 rfl rfl rfl rfl rfl rfl rfl ⟨rfl, rfl, rfl, rfl, rfl⟩ rfl rfl rfl rfl rfl (by kernel_rfl) Try.func6 (by kernel_rfl)
    (of_decide_eq_true (by kernel_rfl)) (by unfold Func.isWrapper; first | (rw [if_pos (by decide +kernel)]; kernel_rfl) | (rw [if_neg (by decide +kernel)]; exact ⟨rfl, rfl⟩))
    (fun os started H enc _ => lifted os started H enc)

end Go.Proofs.Ytboflkadabagfaa.lawWireOwn
