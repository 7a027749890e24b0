/- The statements' opening question: the calls of the document's examples, each answered as the document says. -/
import Derived.Test.YtgaimlmpfmbdoaaOctetsW10
import Derived.Lib.SlBytesConst
namespace Go.Proofs.Ytgaimlmpfmbdoaa
open Go.RowKit
theorem Four_in {x : Nat} {w : World} (hx : x < 4294967296) : Calls Try.prog 27 #[.int .u32 (x : Int)] w (Gave w (four x)) := (Four_any x w hx).mono fun _ _ h => gave_of h
theorem RefFour_in {x : Nat} {w : World} (hx : x < 4294967296) : Calls Try.prog 30 #[.int .u32 (x : Int)] w (Gave w (four x)) := (RefFour_any x w hx).mono fun _ _ h => gave_of h
theorem bytes_mark (w : World) (xs : List UInt8) (fr : Nat × Nat) : BytesAt (w.alloc (.cells (u8s xs).toArray 5 fr)) (some ⟨w.heap.size, 0, none⟩) xs := fun _ =>
  ⟨w.heap.size, 0, rfl, by simp, fun j x hx => by
    rw [Nat.zero_add, World.cell?_alloc_mark]
    simp [u8s, hx]⟩
theorem num300 : OM.rnum [172, 2, 2, 97, 98] 0 = (300, [2, 97, 98], 0) := by decide
theorem textAB : OM.rtext [2, 97, 98] 0 2 = ([97, 98], [], 0) := by decide
theorem reader_far {N : Nat} {K : List Nat} {a r b : Nat} {L l : List UInt8} {e : Nat} {w w' : World} (h : WIn N K a L w) (hr : RAt w r b l e) (hm : Mod [r] w w') : WIn N K a L w' := by
  obtain ⟨F, h1, h2⟩ := h
  obtain ⟨A, c, k1, _⟩ := hr
  refine ⟨F, h1.mod hm (fun x hx hg => ?_), h2⟩
  have e : x = r := by simpa using hg
  subst e
  rcases h1 with ⟨_, rfl, q1⟩ | ⟨p, g, cap, rfl, q1, q2, q3⟩
  · have e : x = a := by simpa using hx
    subst e
    exact Whole.ne k1 q1 (by decide) rfl
  · have e : x = a ∨ x = p ∨ x = g := by simpa using hx
    rcases e with rfl | rfl | rfl
    · exact Whole.ne k1 q1 (by decide) rfl
    · exact Whole.ne k1 q2 (by decide) rfl
    · exact own_ne q3 k1 (by decide) rfl
theorem enc300 : ([] : List UInt8) ++ OM.enc ((300 : Int)).toNat = [172, 2] := by
  show OM.enc 300 = _
  rw [OM.enc_more (by decide), OM.enc_last (by decide)]
  rfl
theorem encAB : [172, 2] ++ OM.encT (⟨#[97, 98]⟩ : ByteArray).data.toList = [172, 2, 2, 97, 98] := by
  show [172, 2] ++ (OM.enc 2 ++ [97, 98]) = _
  rw [OM.enc_last (by decide)]
  rfl
set_option maxRecDepth 100000 in
theorem sum123 : OM.sum [49, 50, 51, 52, 53, 54, 55, 56, 57] = 3421780262 := by decide +kernel
theorem four1 : four 1 = [1, 0, 0, 0] := by decide
theorem of256 : ofFour [0, 1, 0, 0, 255] = 256 := by decide
set_option maxRecDepth 100000 in
set_option maxHeartbeats 4000000 in
theorem awake_any (w : World) : Calls Try.prog 14 #[] w fun e w' => e = .returned (.bool true) ∧ Below w.heap.size w w' := by
  have HW0 := Lib.hid (WIn.fresh (N := w.heap.size) (K := []) (w := w) (Nat.le_refl _) (by simp))
  have HB0 := Lib.hid ((Below.refl _ w).alloc (Nat.le_refl _) (Obj.cells #[.pointer none, .int .i64 0] 24))
  go_enter Try.func14, Try.ntmps14
  go_wp2_with fail
  refine (Num_in 300 HW0.out HB0.out.size (by simp) (by decide) (by rw [enc300]; decide)).mono ?_
  rintro e w1 ⟨rfl, h1, h2⟩
  rw [enc300] at h1
  have HW1 := Lib.hid h1
  have HB1 := Lib.hid (HB0.out.trans (h2.belowN HB0.out.size))
  clear h1 h2
  go_wp2_with fail
  refine (Text_in ⟨#[97, 98]⟩ HW1.out HB1.out.size (by simp) (by decide) (by rw [encAB]; decide)).mono ?_
  rintro e w2 ⟨rfl, h1, h2⟩
  rw [encAB] at h1
  have HW2 := Lib.hid h1
  have HB2 := Lib.hid (HB1.out.trans (h2.belowN HB1.out.size))
  clear h1 h2
  go_wp2_with fail
  refine (Bytes_in HW2.out (by decide)).mono ?_
  rintro e w3 ⟨A3, n3, c3, rfl, HN3, HY3, -, HF3, -, -, -⟩
  have HW3 := Lib.hid (HW2.out.below HF3.out)
  have HB3 := Lib.hid (HB2.out.trans (HF3.out.mono HB2.out.size))
  go_wp2_with fail
  refine (NewReader_in HN3.out HY3.out (by decide)).mono ?_
  rintro e w4 ⟨r, b, rfl, hr, hb, hr1, -, -, -⟩
  have HR4 := Lib.hid hr
  have HW4 := Lib.hid (HW3.out.below hb)
  have HB4 := Lib.hid (HB3.out.trans (hb.mono HB3.out.size))
  have hNr : w.heap.size ≤ r := Nat.le_trans HB3.out.size hr1
  clear hr hb hr1
  go_wp2_with fail
  refine (RNum_in HR4.out num300).mono ?_
  rintro e w5 ⟨rfl, hr, hm⟩
  have HR5 := Lib.hid hr
  have HB5 := Lib.hid (HB4.out.trans (below_reader hm HB4.out.size hNr))
  have HW5 := Lib.hid (reader_far HW4.out HR4.out hm)
  clear hr hm
  go_wp2_with fail
  refine (RText_in (by decide) HR5.out textAB).mono ?_
  rintro e w6 ⟨rfl, hr, hm⟩
  have HR6 := Lib.hid hr
  have HB6 := Lib.hid (HB5.out.trans (below_reader hm HB5.out.size hNr))
  have HW6 := Lib.hid (reader_far HW5.out HR5.out hm)
  clear hr hm
  go_wp2_with fail
  refine (OfFour_in (xs := [0, 1, 0, 0, 255]) rfl (bytes_lit w6 [0, 1, 0, 0, 255]) (by decide) (by decide)).mono ?_
  rintro e w7 ⟨rfl, rfl⟩
  rw [of256]
  have HA7 := Lib.hid ((Below.refl _ w6).alloc (Nat.le_refl _) (Obj.cells #[.int .u8 0, .int .u8 1, .int .u8 0, .int .u8 0, .int .u8 255] 5))
  have HR7 := Lib.hid (HR6.out.below HA7.out)
  have HW7 := Lib.hid (HW6.out.below HA7.out)
  have HB7 := Lib.hid (HB6.out.trans (HA7.out.mono HB6.out.size))
  go_wp2_with fail
  refine (Bytes_in HW7.out (by decide)).mono ?_
  rintro e w8 ⟨A8, n8, c8, rfl, -, -, -, HF8, -, -, hS8⟩
  have HR8 := Lib.hid (HR7.out.below HF8.out)
  have HB8 := Lib.hid (HB7.out.trans (HF8.out.mono HB7.out.size))
  clear HW7 HR7 HB7 HA7 HF8 HR6 HW6 HB6
  go_wp2_with fail
  refine (Left_any r b _ _ _ HR8.out).mono ?_
  rintro e w9 ⟨rfl, rfl⟩
  clear hS8
  have hcv := Lib.run_convert_bytes_const (P := Try.prog) w8 28 5 #[.int .u8 49, .int .u8 50, .int .u8 51, .int .u8 52, .int .u8 53, .int .u8 54, .int .u8 55, .int .u8 56, .int .u8 57] 9 9 Try.underlying28 Try.underlying5
  go_wp2_with fail
  refine (Err_any r b _ _ _ HR8.out).mono ?_
  rintro e w9 ⟨rfl, rfl⟩
  go_wp2_with fail
  refine (Sum_in (xs := [49, 50, 51, 52, 53, 54, 55, 56, 57]) rfl (bytes_mark w8 [49, 50, 51, 52, 53, 54, 55, 56, 57] (9, 10)) (by decide)).mono ?_
  rintro e w9 ⟨rfl, rfl⟩
  rw [sum123]
  have HB9 := Lib.hid (HB8.out.alloc HB8.out.size (Obj.cells (u8s [49, 50, 51, 52, 53, 54, 55, 56, 57]).toArray 5 (9, 10)))
  go_wp2_with fail
  refine (Four_in (x := 1) (by decide)).mono ?_
  rw [four1]
  rintro e w10 ⟨A10, n10, c10, rfl, -, -, -, HF10, -, -, hS10⟩
  have HB10 := Lib.hid (HB9.out.trans (HF10.out.mono HB9.out.size))
  go_wp2
  go_ret
  exact ⟨rfl, HB10.out⟩
end Go.Proofs.Ytgaimlmpfmbdoaa
