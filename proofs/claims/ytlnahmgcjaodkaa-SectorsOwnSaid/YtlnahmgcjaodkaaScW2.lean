/- The package's sector of a part; the document's. -/
import Derived.Test.YtlnahmgcjaodkaaScW1
namespace Go.Proofs.Ytlnahmgcjaodkaa
open Go.RowKit
open By
set_option linter.unusedVariables false
set_option linter.unusedSimpArgs false
set_option maxRecDepth 100000
theorem four_f4 (x : Nat) : four x = SC.f4 x := rfl
/-- The sector's bytes behind each statement. -/
def lay1 (p : SC.Pt) : List UInt8 := splice (List.replicate 64 0) 0 (four p.gen)
def lay2 (p : SC.Pt) : List UInt8 := splice (lay1 p) 4 (four p.seq)
def lay3 (p : SC.Pt) : List UInt8 := (((lay2 p).set 8 (OM.by8 p.idx)).set 9 (OM.by8 p.parts)).set 10 (OM.by8 p.data.length)
def lay4 (p : SC.Pt) : List UInt8 := splice (lay3 p) 11 p.data
def lay5 (p : SC.Pt) : List UInt8 := splice (lay4 p) 60 (four (OM.sum ((lay4 p).take 60)))
theorem lay3_is (p : SC.Pt) : lay3 p = (SC.f4 p.gen ++ (SC.f4 p.seq ++ [OM.by8 p.idx, OM.by8 p.parts, OM.by8 p.data.length])) ++ List.replicate 53 0 := rfl
theorem lay4_is {p : SC.Pt} (h : p.data.length ≤ 49) : lay4 p = SC.head p ++ [0, 0, 0, 0] := by
  unfold lay4
  rw [lay3_is, splice_at (off := 11) (show (SC.f4 p.gen ++ (SC.f4 p.seq ++ [OM.by8 p.idx, OM.by8 p.parts, OM.by8 p.data.length])).length = 11 from rfl)]
  unfold SC.head
  rw [List.drop_replicate]
  have e : List.replicate (53 - p.data.length) (0 : UInt8) = List.replicate (49 - p.data.length) 0 ++ [0, 0, 0, 0] := by
    rw [show 53 - p.data.length = (49 - p.data.length) + 4 by omega]
    exact List.replicate_append_replicate.symm
  rw [e]
  simp only [List.append_assoc, List.cons_append, List.nil_append]
theorem lay5_is {p : SC.Pt} (h : p.data.length ≤ 49) : lay5 p = SC.lay p := by
  unfold lay5 SC.lay
  rw [lay4_is h, List.take_left' (SC.head_len h), splice_at (SC.head_len h), four_f4]
  simp [SC.f4]
theorem lay1_len (p : SC.Pt) : (lay1 p).length = 64 := rfl
theorem lay2_len (p : SC.Pt) : (lay2 p).length = 64 := rfl
theorem lay3_len (p : SC.Pt) : (lay3 p).length = 64 := rfl
theorem lay4_len {p : SC.Pt} (h : p.data.length ≤ 49) : (lay4 p).length = 64 := by rw [lay4_is h, List.length_append, SC.head_len h]; rfl
theorem SecSt.bytes {w0 w : World} {cs : Array Value} {L : List UInt8} (h : SecSt w0 cs L w) : BytesAt w (some ⟨w0.heap.size + 1, 0, none⟩) L := Whole.reads h.buf
set_option maxHeartbeats 400000 in
theorem sector_any (p : SC.Pt) (hp : SC.Good p) (A : Option Addr) (n c : Nat) (w : World) (hB : BytesAt w A p.data) (hn : p.data.length = n) :
    Calls Try.prog 25 #[pv p (.slice A n c)] w fun e w' => e = .returned (.slice (some ⟨w.heap.size + 1, 0, none⟩) 64 64) ∧ Hid (Whole w' (w.heap.size + 1) 5 (u8s (SC.lay p)).toArray) ∧ Hid (Below w.heap.size w w') := by
  have hmk : ∀ w' : World, (Instr.makeSlice 26 (.int .i64 64) (.int .i64 64)).run Try.prog w' = .ok (.slice (some ⟨w'.heap.size, 0, none⟩) 64 64) (w'.alloc (.cells (madeCells #[.int .u8 0] 64) 5)) := fun w' => run_make_row' (P := Try.prog) 26 5 (.int .u8 0) 1 Try.underlying26 info_u8 rfl .i64 .i64 64 (by omega) (by omega) w'
  have HB := Lib.hid hB
  have HN := Lib.hid hn
  have hl := hp.len
  have HG := Lib.hid hp
  have H1 := Lib.hid (show SecSt w (pcells p (.slice A n c)) (List.replicate 64 0) ((w.alloc (.cells (pcells p (.slice A n c)) 33)).alloc (.cells (madeCells #[.int .u8 0] 64) 5)) by
    refine ⟨(Whole.new w _ _).alloc _, ?_, ((Below.refl _ w).alloc (Nat.le_refl _) _).alloc (by simp) _⟩
    rw [zero64]
    have e : w.heap.size + 1 = (w.alloc (.cells (pcells p (.slice A n c)) 33)).heap.size := by simp
    rw [e]
    exact Whole.new _ _ _)
  clear hB
  unfold pv
  go_enter Try.func25, Try.ntmps25
  go_wp2_with fail
  generalize ((w.alloc (.cells (pcells p (.slice A n c)) 33)).alloc (.cells (madeCells #[.int .u8 0] 64) 5)) = w1 at H1 ⊢
  have hgl : p.gen < 4294967296 := by have := HG.out.gen; omega
  have hsl : p.seq < 4294967296 := by have := HG.out.seq; omega
  have b0 := H1.out.box.part.1
  have hw1 : IntKind.u32.wrap (p.gen : Int) = (p.gen : Int) := by rw [IntKind.wrap_u32]; omega
  clear hp hn hl
  go_region_law (first
    | (refine step_copy_sec (L := List.replicate 64 0) (X := four p.gen) (by assumption) (by assumption) 0 (by show 0 + 4 ≤ 64; decide) 64 64 4 _ (by exact rfl) (by decide) (by exact rfl) (by exact rfl) ?_
       intro w6 H6)
    | (go_simp
       go_at_call 35
       refine (Four_any p.gen _ hgl).mono ?_
       rintro e w5 ⟨v, rfl, HO5, HB5⟩
       have H5 := Lib.hid (H1.out.drew.on HB5)
       obtain ⟨A5, c5, rfl, _, _⟩ := own_shape HO5
       have HX5 := Lib.hid (BytesAt.own HO5)
       clear HO5 HB5))
  have H2 : Hid (SecSt w (pcells p (.slice A n c)) (lay1 p) w6) := H6
  clear b0 hw1 H6 HX5 H5 H1
  have b1 := H2.out.box.part.2.1
  have hw1 : IntKind.u32.wrap (p.seq : Int) = (p.seq : Int) := by rw [IntKind.wrap_u32]; omega
  go_wp2_with fail
  go_region_law (first
    | (refine step_copy_sec (L := lay1 p) (X := four p.seq) (by assumption) (by assumption) 4 (by show 4 + 4 ≤ 64; decide) 60 60 4 _ (by exact rfl) (by decide) (by exact rfl) (by exact rfl) ?_
       intro w7 H7)
    | (go_simp
       go_at_call 35
       refine (Four_any p.seq _ hsl).mono ?_
       rintro e w5 ⟨v, rfl, HO5, HB5⟩
       have H5 := Lib.hid (H2.out.drew.on HB5)
       obtain ⟨A5, c5, rfl, _, _⟩ := own_shape HO5
       have HX5 := Lib.hid (BytesAt.own HO5)
       clear HO5 HB5))
  have H3 : Hid (SecSt w (pcells p (.slice A n c)) (lay2 p) w7) := H7
  clear b1 hw1 H7 HX5 H5 H2
  obtain ⟨_, _, b2, b3, b4⟩ := H3.out.box.part
  obtain ⟨y8, q8⟩ : ∃ y, w7.cell? ⟨w.heap.size + 1, 8, none⟩ = some y := ⟨_, H3.out.cell (i := 8) (by show 8 < 64; decide)⟩
  obtain ⟨y9, q9⟩ : ∃ y, w7.cell? ⟨w.heap.size + 1, 9, none⟩ = some y := ⟨_, H3.out.cell (i := 9) (by show 9 < 64; decide)⟩
  obtain ⟨y10, q10⟩ : ∃ y, w7.cell? ⟨w.heap.size + 1, 10, none⟩ = some y := ⟨_, H3.out.cell (i := 10) (by show 10 < 64; decide)⟩
  have f8 := H3.out.buf.frozen 8
  have f9 := H3.out.buf.frozen 9
  have f10 := H3.out.buf.frozen 10
  have hw8 : IntKind.u8.wrap (p.idx : Int) = (p.idx : Int) := by have := HG.out.idx; have := HG.out.parts; rw [IntKind.wrap_u8]; omega
  have hw9 : IntKind.u8.wrap (p.parts : Int) = (p.parts : Int) := by have := HG.out.parts; rw [IntKind.wrap_u8]; omega
  have hw10 : IntKind.u8.wrap (n : Int) = (n : Int) := by have := HG.out.len; have := HN.out; rw [IntKind.wrap_u8]; omega
  have H4 := Lib.hid (((H3.out.set 8 (OM.by8 p.idx)).set 9 (OM.by8 p.parts)).set 10 (OM.by8 p.data.length))
  rw [← by8_val (n := p.idx) (k := (p.idx : Int)) (by have := HG.out.idx; have := HG.out.parts; omega) rfl, ← by8_val (n := p.parts) (k := (p.parts : Int)) (by have := HG.out.parts; omega) rfl, ← by8_val (n := p.data.length) (k := (n : Int)) (by have := HG.out.len; omega) (by rw [HN.out])] at H4
  clear H3
  go_wp2_with fail
  generalize (((w7.setCell _ _).setCell _ _).setCell _ _) = w8 at H4 ⊢
  have H5 : Hid (SecSt w (pcells p (.slice A n c)) (lay3 p) w8) := H4
  clear H4 b2 b3 b4 q8 q9 q10 f8 f9 f10 hw8 hw9 hw10
  have b4 := H5.out.box.part.2.2.2.2
  have HX5 := Lib.hid (HB.out.below H5.out.below)
  have HL := Lib.hid (show n ≤ 53 by have := HG.out.len; have := HN.out; omega)
  have HO := Lib.hid (show 11 + p.data.length ≤ (lay3 p).length by show 11 + p.data.length ≤ 64; have := HG.out.len; omega)
  go_region_law (refine step_copy_sec (L := lay3 p) (X := p.data) (Lib.hid H5.out.drew) (Lib.hid (show BytesAt w8.drew A p.data from HX5.out)) 11 HO.out 53 53 n c HN.out HL.out (by exact rfl) (by exact rfl) ?_
                 intro w9 H9)
  have H6 : Hid (SecSt w (pcells p (.slice A n c)) (lay4 p) w9) := H9
  clear H9 HX5 HL HO b4 H5
  have HT := Lib.hid (show ((lay4 p).take 60).length = 60 by rw [List.length_take, lay4_len (by have := HG.out.len; omega)]; rfl)
  have HSum := Lib.hid (fun (w' : World) (h : BytesAt w' (some ⟨w.heap.size + 1, 0, none⟩) (lay4 p)) => Sum_any (some ⟨w.heap.size + 1, 0, none⟩) 64 ((lay4 p).take 60) w' (bytesAt_front h 60) (by rw [HT.out]; decide))
  rw [HT.out] at HSum
  have hsum := OM.sum_lt ((lay4 p).take 60)
  generalize hs4 : OM.sum ((lay4 p).take 60) = s4 at HSum hsum
  have HS4 := Lib.hid hs4
  have HL4 := Lib.hid (lay4_len (p := p) (by have := HG.out.len; omega))
  clear hs4 HT
  go_wp2_with fail
  go_region_law (first
    | (refine step_copy_sec (L := lay4 p) (X := four s4) (by assumption) (by assumption) 60 (by rw [HL4.out]; show 60 + 4 ≤ 64; decide) 4 4 4 _ (by exact rfl) (by decide) (by exact rfl) (by exact rfl) ?_
       intro w10 H10)
    | (go_simp
       go_at_call 36
       refine (HSum.out _ (by with_reducible exact H6.out.drew.bytes)).mono ?_
       rintro e w5 ⟨rfl, rfl⟩)
    | (go_simp
       go_at_call 35
       refine (Four_any s4 _ hsum).mono ?_
       rintro e w5 ⟨v, rfl, HO5, HB5⟩
       have H5 := Lib.hid (H6.out.drew.on HB5)
       obtain ⟨A5, c5, rfl, _, _⟩ := own_shape HO5
       have HX5 := Lib.hid (BytesAt.own HO5)
       clear HO5 HB5))
  have HF := Lib.hid (show SecSt w (pcells p (.slice A n c)) (SC.lay p) w10 by
    have h := H10.out
    rw [← HS4.out] at h
    rw [← lay5_is (by have := HG.out.len; omega)]
    exact h)
  clear H10 H6 H5 HX5
  go_wp2_with fail
  go_ret
  exact ⟨rfl, Lib.hid HF.out.buf, Lib.hid HF.out.below⟩
end Go.Proofs.Ytlnahmgcjaodkaa
