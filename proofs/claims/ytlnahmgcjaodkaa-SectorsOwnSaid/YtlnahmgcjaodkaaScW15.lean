/- The statements' first calls (awake). -/
import Derived.Test.YtlnahmgcjaodkaaScW14
import Derived.Test.YtlnahmgcjaodkaaScW10
import Derived.Lib.SlBytesConst
namespace Go.Proofs.Ytlnahmgcjaodkaa
open Go.RowKit
open By
set_option linter.unusedVariables false
set_option linter.unusedSimpArgs false
set_option maxRecDepth 100000
theorem zerosAt (n : Nat) : madeCells #[Value.int .u8 0] n = (u8s (List.replicate n 0)).toArray := by
  apply Array.ext'
  rw [toList_madeCells_one]
  simp [u8s, u8]
theorem no_rec (g s : Int) (d : List UInt8) (n : Nat) : ¬ RecI [] g s d n := fun ⟨_, _, _, _, k⟩ => by
  have := k.le.1
  have := k.le.2.1
  simp at this
  omega
theorem Packed.cellAt {base g n : Nat} {bs : List Nat} {xs : List (List UInt8)} {w : World} (h : Packed base g bs n xs w) {j : Nat} {x : List UInt8} (hx : xs[j]? = some x) : ∃ b, bs[j]? = some b ∧ base ≤ b ∧ w.cell? ⟨g, j, none⟩ = some (.slice (some ⟨b, 0, none⟩) 64 64) ∧ Whole w b 5 (u8s x).toArray := by
  have hj : j < bs.length := by rw [h.len]; exact (List.getElem?_eq_some_iff.1 hx).1
  obtain ⟨k1, k2⟩ := h.each j _ x (List.getElem?_eq_getElem hj) hx
  refine ⟨bs[j], List.getElem?_eq_getElem hj, k1, ?_, k2⟩
  rw [h.row.cell, packCells_hdr (List.getElem?_eq_getElem hj)]
  rfl
theorem scan_one (g : Nat) (hg : 1 ≤ g ∧ g ≤ 1073741824) (d : List UInt8) (hd : d.length ≤ 188) : ScansI (g : Int) 0 (SC.pack g 0 d) [d] (SC.np d) := by
  have h := SC.scans_packs hg [d] 0 [] [] 0 (by simp) (fun x hx => by rw [List.mem_singleton.1 hx]; exact hd) (SC.Scans.stop (fun d n k => by
    have := k.le.1
    have := k.le.2.1
    simp at this
    omega))
  have e : SC.packs g 0 [d] = SC.pack g 0 d := by simp [SC.packs]
  rw [e, List.append_nil, SC.pack_len] at h
  exact ScansI.of h
set_option maxHeartbeats 8000000 in
theorem awake_any (w : World) : Calls Try.prog 12 #[] w fun e w' => e = .returned (.bool true) ∧ Hid (Below w.heap.size w w') := by
  have hmk : ∀ w' : World, (Instr.makeSlice 26 (.int .i64 100) (.int .i64 100)).run Try.prog w' = .ok (.slice (some ⟨w'.heap.size, 0, none⟩) 100 100) (w'.alloc (.cells (madeCells #[.int .u8 0] 100) 5)) := fun w' => run_make_row' (P := Try.prog) 26 5 (.int .u8 0) 1 Try.underlying26 info_u8 rfl .i64 .i64 100 (by omega) (by omega) w'
  have HB1 := Lib.hid ((Below.refl _ w).alloc (Nat.le_refl _) (.cells (madeCells #[.int .u8 0] 100) 5))
  have HX1 := Lib.hid (show BytesAt (w.alloc (.cells (madeCells #[.int .u8 0] 100) 5)) (some ⟨w.heap.size, 0, none⟩) (List.replicate 100 0) from Whole.reads (by rw [zerosAt]; exact Whole.new w _ _))
  have HS1 := Lib.hid (show (w.alloc (.cells (madeCells #[.int .u8 0] 100) 5)).heap.size = w.heap.size + 1 by simp)
  go_enter Try.func12, Try.ntmps12
  go_wp2_with fail
  generalize w.alloc (.cells (madeCells #[.int .u8 0] 100) 5) = w1 at HB1 HX1 HS1 ⊢
  go_at_call 11
  have HP := Lib.hid (Pack_ok 1 2 (List.replicate 100 0) 100 (some ⟨w.heap.size, 0, none⟩) 100 w1 HX1.out (by simp) ⟨by omega, by omega⟩ (by omega) (by omega) (by omega))
  rw [show SC.np (List.replicate 100 (0 : UInt8)) = 3 by simp [SC.np], show ((1 : Nat) : Int) = 1 from rfl, show ((2 : Nat) : Int) = 2 from rfl] at HP
  with_reducible refine HP.out.mono ?_
  rintro e w2 ⟨rfl, HK2, HB2⟩
  obtain ⟨bs, HK2⟩ := HK2.out
  have HK := Lib.hid HK2
  obtain ⟨b0, _, _, q0, _⟩ := HK2.cellAt (j := 0) (SC.pack_at (by simp [SC.np]))
  obtain ⟨b2, _, _, q2, hw2⟩ := HK2.cellAt (j := 2) (SC.pack_at (by simp [SC.np]))
  have HW2 := Lib.hid hw2
  have HB12 := Lib.hid (below_on2 HB1.out (.inl (by have := HS1.out; omega)) HB2.out)
  clear HK2 hw2 HP
  go_wp2_with fail
  go_at_call 15
  have hl64 := SC.lay_len (p := SC.part 1 2 (List.replicate 100 0) 2) (by decide)
  have HLK := Lib.hid (Look_any (some ⟨b2, 0, none⟩) 64 64 (SC.lay (SC.part 1 2 (List.replicate 100 0) 2)) w2 (Whole.reads HW2.out) hl64 (by omega) (by omega))
  have HIS := Lib.hid (show SC.Is (SC.lay (SC.part 1 2 (List.replicate 100 0) 2)) (SC.part 1 2 (List.replicate 100 0) 2) from ⟨SC.part_good (by omega) (by omega) (by simp) (by simp [SC.np]), rfl⟩)
  with_reducible refine HLK.out.mono ?_
  rintro e w3 ⟨HB3, ⟨p, v3, HI3, rfl, HO3⟩ | ⟨HN3, rfl⟩⟩
  · have hp := HI3.out.uniq HIS.out
    subst hp
    obtain ⟨A3, c3, rfl, _, _⟩ := own_shape HO3.out
    have HPV := Lib.hid (show pv (SC.part 1 2 (List.replicate 100 0) 2) (.slice A3 (SC.part 1 2 (List.replicate 100 0) 2).data.length c3) = .agg #[.int .i64 1, .int .i64 2, .int .i64 2, .int .i64 3, .slice A3 6 c3] from by
      have e1 : SC.np (List.replicate 100 (0 : UInt8)) = 3 := by simp [SC.np]
      have e2 : (SC.part 1 2 (List.replicate 100 0) 2).data.length = 6 := by show (((List.replicate 100 (0 : UInt8)).drop (47 * 2)).take 47).length = 6; simp
      rw [e2]
      unfold pv pcells SC.part
      simp only [e1]
      rfl)
    rw [HPV.out]
    clear q0 q2 hl64 HLK
    have kc := fun (w : World) (C : Array Value) (n c : Nat) => Lib.run_convert_bytes_const (P := Try.prog) w 26 5 C n c Try.underlying26 Try.underlying5
    have HB13 := Lib.hid (below_on2 HB12.out (.inl HB12.out.size) HB3.out)
    have HX3 := Lib.hid (Whole.new w3 33 #[.int .i64 1, .int .i64 2, .int .i64 2, .int .i64 3, .slice A3 6 c3])
    have HX3X := HX3
    have HB4 := Lib.hid ((Below.refl w3.heap.size w3).alloc (Nat.le_refl _) (.cells #[.int .i64 1, .int .i64 2, .int .i64 2, .int .i64 3, .slice A3 6 c3] 33))
    have HS4 := Lib.hid (show (w3.alloc (.cells #[.int .i64 1, .int .i64 2, .int .i64 2, .int .i64 3, .slice A3 6 c3] 33)).heap.size = w3.heap.size + 1 by simp)
    go_upto_region 5 with (fail)
    generalize w3.alloc (.cells #[.int .i64 1, .int .i64 2, .int .i64 2, .int .i64 3, .slice A3 6 c3] 33) = w4 at HX3 HX3X HB4 HS4 ⊢
    go_wp2_with fail
    go_at_call 11
    have HB5 := Lib.hid ((Below.refl w4.heap.size w4).alloc (Nat.le_refl _) (.cells #[.int .u8 97, .int .u8 98] 5 (2, 3)))
    have HX5 := Lib.hid (show BytesAt (w4.alloc (.cells #[.int .u8 97, .int .u8 98] 5 (2, 3))) (some ⟨w4.heap.size, 0, none⟩) [97, 98] from fun _ => ⟨w4.heap.size, 0, rfl, by simp, fun j x hx => by
      have e : (w4.alloc (.cells #[.int .u8 97, .int .u8 98] 5 (2, 3))).heap[w4.heap.size]? = some (.cells #[.int .u8 97, .int .u8 98] 5 (2, 3)) := heap_alloc_new w4 _
      unfold World.cell?
      rw [e]
      match j, hx with
      | 0, hx => cases hx; rfl
      | 1, hx => cases hx; rfl
      | j + 2, hx => simp at hx⟩)
    have HP5 := Lib.hid (Pack_ok 1 0 [97, 98] 2 (some ⟨w4.heap.size, 0, none⟩) 2 _ HX5.out rfl ⟨by omega, by omega⟩ (by omega) (by omega) (by omega))
    rw [show SC.np ([97, 98] : List UInt8) = 1 from rfl, show ((1 : Nat) : Int) = 1 from rfl, show ((0 : Nat) : Int) = 0 from rfl] at HP5
    have HSZ5 := Lib.hid (show (w4.alloc (.cells #[.int .u8 97, .int .u8 98] 5 (2, 3))).heap.size = w4.heap.size + 1 by simp)
    generalize w4.alloc (.cells #[.int .u8 97, .int .u8 98] 5 (2, 3)) = w5 at HB5 HX5 HP5 HSZ5 ⊢
    with_reducible refine HP5.out.mono ?_
    rintro e w6 ⟨rfl, HK6, HB6⟩
    obtain ⟨cs, HK6⟩ := HK6.out
    have HRW := Lib.hid (HK6.rows (pack64 (by omega) (by omega) (by decide)))
    have HSC := Lib.hid (Scan_any (some ⟨w5.heap.size, 0, none⟩) 1 1 (SC.pack 1 0 [97, 98]) 1 w6 HRW.out rfl ⟨by omega, by omega⟩ (by omega))
    have HB46 := Lib.hid (below_on2 HB5.out (.inl (by have := HSZ5.out; omega)) HB6.out)
    have HB36 := Lib.hid (HB4.out.trans (HB46.out.mono (by have := HS4.out; omega)))
    have HX6 := Lib.hid ((Mod.of_below HB46.out []).whole HX3X.out (by simp))
    clear HK6 HP5
    go_wp2_with fail
    go_at_call 18
    with_reducible refine HSC.out.mono ?_
    rintro e w7 ⟨rs, u, v7, rfl, HS7, HL7, HB7⟩
    have he := (HS7.out).uniq (scan_one 1 (by omega) [97, 98] (by decide))
    obtain ⟨rfl, rfl⟩ := he
    have HX7 := Lib.hid ((Mod.of_below HB7.out []).whole HX6.out (by simp))
    obtain ⟨A7, c7, rfl, hR7, hc7, hcc7, _⟩ := HL7.out.shape
    obtain ⟨b7, o7, rfl, _, hca⟩ := hR7 (by decide)
    obtain ⟨A8, c8, a8, hB8, _, _⟩ := hca 0 [97, 98] rfl
    have a9 : w7.cell? ⟨b7, o7, none⟩ = some (.slice A8 2 c8) := a8
    have hcv := conv_of (n := 2) (c := c8) rfl hB8
    clear a8
    have x0 := HX7.out.cell 0
    have x1 := HX7.out.cell 1
    have x2 := HX7.out.cell 2
    have x3 := HX7.out.cell 3
    have x4 := HX7.out.cell 4
    rw [show SC.np ([97, 98] : List UInt8) = 1 from rfl]
    clear hca hB8 hR7
    go_wp2_with fail
    go_ret
    refine ⟨ret_bool (by simp), Lib.hid ?_⟩
    exact (HB13.out.trans (HB36.out.mono HB13.out.size)).trans (HB7.out.mono (Nat.le_trans HB13.out.size HB36.out.size))
  · exact absurd HIS.out (HN3.out _)
end Go.Proofs.Ytlnahmgcjaodkaa
