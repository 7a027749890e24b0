/- The statements' own opening calls of layer 4, whose answers the document fixes. -/
import Derived.Test.YthhkgdknmehaoaaDoorStampsQ
namespace Go.Proofs.YthhkgdknmehaoaaDoor
open Go.RowKit
set_option linter.unusedVariables false
set_option maxRecDepth 100000
theorem lit (w : World) (l : List Int) {b n : Nat} {cs : Array Value} (hb : b = w.heap.size) (hn : n = l.length) (hcs : cs = (i64s l).toArray) (hr : l.length * 8 ≤ 140737488355328) (hx : ∀ x ∈ l, -9223372036854775808 ≤ x ∧ x ≤ 9223372036854775807) : Lst (w.alloc (.cells cs 3)) (some ⟨b, 0, none⟩) n n l := by
  subst hb
  subst hn
  subst hcs
  refine ⟨rfl, fun h0 => ⟨w.heap.size, 0, rfl, by simp, fun j x hj => ?_⟩, Nat.le_refl _, by omega, hr, hx⟩
  rw [World.cell?_alloc_at _ _ _ _ (by simp), Nat.zero_add, List.getElem?_toArray]
  unfold i64s
  rw [List.getElem?_map, hj]
  rfl
section
variable {w : World} {A B : Option Addr} {n c m d : Nat}
theorem ext_c (h : Lst w A n c [5]) : Calls Tryd.prog 11 #[.slice A n c, .int .i64 3] w fun e w' => ∃ A n c, e = .returned (.tuple #[.slice A n c, .int .i64 0]) ∧ Lst w' A n c [5, 3] ∧ Below w.heap.size w w' := by
  have e := Extend_in 3 (by decide) h
  rw [show SM.extend [5] 3 = ([5, 3], 0) by decide] at e
  exact e
theorem next_c (h : Lst w A n c [5, 3]) : Calls Tryd.prog 12 #[.slice A n c] w fun e w' => ∃ A n c, e = .returned (.tuple #[.slice A n c, .int .i64 0]) ∧ Lst w' A n c [5, 4] ∧ Below w.heap.size w w' := by
  have e := Next_in h
  rw [show SM.next [5, 3] = ([5, 4], 0) by decide] at e
  exact e
theorem text_512 : SM.text [5, 1, 2] = [53, 46, 49, 46, 50] := by
  show SM.dec 5 ++ 46 :: (SM.dec 1 ++ 46 :: SM.dec 2) = _
  rw [SM.dec_pos (by decide), SM.dec_pos (by decide), SM.dec_pos (by decide), SM.digits_low (by decide), SM.digits_low (by decide), SM.digits_low (by decide)]
  rfl
theorem parse_c (hT : Tabs w) : Calls Tryd.prog 26 #[.string ⟨#[53, 46, 49, 46, 50]⟩] w fun e w' => ∃ A n c, e = .returned (.tuple #[.slice A n c, .int .i64 0]) ∧ Lst w' A n c [5, 1, 2] ∧ Below w.heap.size w w' := by
  have e := Parse_in (w := w) hT ⟨#[53, 46, 49, 46, 50]⟩ (by decide)
  have h : SM.parse (ByteArray.data ⟨#[53, 46, 49, 46, 50]⟩).toList = ([5, 1, 2], 0) := by
    have := SM.parse_text (s := [5, 1, 2]) (by decide)
    rw [text_512] at this
    exact this
  rw [h] at e
  exact e
theorem text_c (hT : Tabs w) (h : Lst w A n c [5, 1, 2]) : Calls Tryd.prog 28 #[.slice A n c] w fun e w' => e = .returned (.string ⟨#[53, 46, 49, 46, 50]⟩) ∧ Below w.heap.size w w' := by
  have e := Text_in hT (by decide) h
  rw [text_512] at e
  exact e
theorem cmp_c (h : Lst w A n c [5]) (k : Lst w B m d [5, 1]) : Calls Tryd.prog 17 #[.slice A n c, .slice B m d] w fun e w' => e = .returned (.int .i64 (-1)) ∧ Below w.heap.size w w' := by
  have e := Compare_in h k
  rw [show SM.cmp [5] [5, 1] = -1 by decide] at e
  exact e
theorem under_c (h : Lst w A n c [5]) (k : Lst w B m d [5, 1]) : Calls Tryd.prog 19 #[.slice A n c, .slice B m d] w fun e w' => e = .returned (.bool true) ∧ Below w.heap.size w w' := by
  have e := Under_in h k
  rw [show SM.under [5] [5, 1] = true by decide] at e
  exact e
theorem valid_c (h : Lst w A n c [5, 1, 2]) : Calls Tryd.prog 14 #[.slice A n c] w fun e w' => e = .returned (.bool true) ∧ Below w.heap.size w w' := by
  have e := Valid_in h
  rw [show SM.valid [5, 1, 2] = true by decide] at e
  exact e
theorem valid_0 (h : Lst w A n c [0]) : Calls Tryd.prog 14 #[.slice A n c] w fun e w' => e = .returned (.bool false) ∧ Below w.heap.size w w' := by
  have e := Valid_in h
  rw [show SM.valid [0] = false by decide] at e
  exact e
theorem later_c (h : Lst w A n c [5]) (k : Lst w B m d [6]) : Calls Tryd.prog 22 #[.slice A n c, .slice B m d] w (NewList w [6]) := by
  have e := Later_in h k
  rw [show SM.later [5] [6] = [6] by decide] at e
  exact e
theorem same_c {a : List Int} (h : Lst w A n c a) (k : Lst w B m d a) : Calls Tryd.prog 21 #[.slice A n c, .slice B m d] w fun e w' => e = .returned (.bool true) ∧ Below w.heap.size w w' := by
  have e := same_in h k
  rw [decide_eq_true rfl] at e
  exact e
end
set_option maxHeartbeats 4000000 in
theorem awake_any (w : World) (hT : Tabs w) : Calls Tryd.prog 13 #[] w fun e w' => e = .returned (.bool true) ∧ Below w.heap.size w w' := by
  have HT := Lib.hid hT
  have HB := Lib.hid (Below.refl w.heap.size w)
  go_enter Tryd.func13, Tryd.ntmps13
  go_wp2_with fail
  have HC0 := Lib.hid (lit w [5] (b := w.heap.size) (n := 1) (cs := #[Value.int .i64 5]) (by first | rfl | simp) rfl rfl (by decide) (by decide))
  have HB := Lib.hid (HB.out.alloc HB.out.size (Obj.cells #[Value.int .i64 5] 3))
  refine (ext_c HC0.out).mono ?_
  rintro x9 w1 ⟨AX, nX, cX, rfl, hl, hb⟩
  have HB := Lib.hid (below_on HB.out hb)
  have HX := Lib.hid hl
  clear hl
  clear hb
  go_wp2_with fail
  have HX := Lib.hid (HX.out.alloc (Obj.cells #[Value.int .i64 5, Value.int .i64 3] 3))
  have HC0 := Lib.hid (lit w1 [5, 3] (b := w1.heap.size) (n := 2) (cs := #[Value.int .i64 5, Value.int .i64 3]) (by first | rfl | simp) rfl rfl (by decide) (by decide))
  have HB := Lib.hid (HB.out.alloc HB.out.size (Obj.cells #[Value.int .i64 5, Value.int .i64 3] 3))
  refine (next_c HC0.out).mono ?_
  rintro x9 w2 ⟨AY, nY, cY, rfl, hl, hb⟩
  have HX := Lib.hid (HX.out.below hb)
  have HB := Lib.hid (below_on HB.out hb)
  have HY := Lib.hid hl
  clear hl
  clear hb
  go_wp2_with fail
  refine (parse_c (HT.out.below HB.out)).mono ?_
  rintro x9 w3 ⟨AZ, nZ, cZ, rfl, hl, hb⟩
  have HX := Lib.hid (HX.out.below hb)
  have HY := Lib.hid (HY.out.below hb)
  have HB := Lib.hid (below_on HB.out hb)
  have HZ := Lib.hid hl
  clear hl
  clear hb
  go_wp2_with fail
  have HX := Lib.hid (HX.out.alloc (Obj.cells #[Value.int .i64 5, Value.int .i64 3] 3))
  have HY := Lib.hid (HY.out.alloc (Obj.cells #[Value.int .i64 5, Value.int .i64 3] 3))
  have HZ := Lib.hid (HZ.out.alloc (Obj.cells #[Value.int .i64 5, Value.int .i64 3] 3))
  have HC0 := Lib.hid (lit w3 [5, 3] (b := w3.heap.size) (n := 2) (cs := #[Value.int .i64 5, Value.int .i64 3]) (by first | rfl | simp) rfl rfl (by decide) (by decide))
  have HB := Lib.hid (HB.out.alloc HB.out.size (Obj.cells #[Value.int .i64 5, Value.int .i64 3] 3))
  refine (same_c HX.out HC0.out).mono ?_
  rintro x9 w4 ⟨rfl, hb⟩
  have HX := Lib.hid (HX.out.below hb)
  have HY := Lib.hid (HY.out.below hb)
  have HZ := Lib.hid (HZ.out.below hb)
  have HB := Lib.hid (below_on HB.out hb)
  clear hb
  go_wp2_with fail
  have HY := Lib.hid (HY.out.alloc (Obj.cells #[Value.int .i64 5, Value.int .i64 4] 3))
  have HZ := Lib.hid (HZ.out.alloc (Obj.cells #[Value.int .i64 5, Value.int .i64 4] 3))
  have HC0 := Lib.hid (lit w4 [5, 4] (b := w4.heap.size) (n := 2) (cs := #[Value.int .i64 5, Value.int .i64 4]) (by first | rfl | simp) rfl rfl (by decide) (by decide))
  have HB := Lib.hid (HB.out.alloc HB.out.size (Obj.cells #[Value.int .i64 5, Value.int .i64 4] 3))
  refine (same_c HY.out HC0.out).mono ?_
  rintro x9 w5 ⟨rfl, hb⟩
  have HY := Lib.hid (HY.out.below hb)
  have HZ := Lib.hid (HZ.out.below hb)
  have HB := Lib.hid (below_on HB.out hb)
  clear hb
  go_wp2_with fail
  have HZ := Lib.hid (HZ.out.alloc (Obj.cells #[Value.int .i64 5, Value.int .i64 1, Value.int .i64 2] 3))
  have HC0 := Lib.hid (lit w5 [5, 1, 2] (b := w5.heap.size) (n := 3) (cs := #[Value.int .i64 5, Value.int .i64 1, Value.int .i64 2]) (by first | rfl | simp) rfl rfl (by decide) (by decide))
  have HB := Lib.hid (HB.out.alloc HB.out.size (Obj.cells #[Value.int .i64 5, Value.int .i64 1, Value.int .i64 2] 3))
  refine (same_c HZ.out HC0.out).mono ?_
  rintro x9 w6 ⟨rfl, hb⟩
  have HZ := Lib.hid (HZ.out.below hb)
  have HB := Lib.hid (below_on HB.out hb)
  clear hb
  go_wp2_with fail
  have HC0 := Lib.hid (lit w6 [5, 1, 2] (b := w6.heap.size) (n := 3) (cs := #[Value.int .i64 5, Value.int .i64 1, Value.int .i64 2]) (by first | rfl | simp) rfl rfl (by decide) (by decide))
  have HB := Lib.hid (HB.out.alloc HB.out.size (Obj.cells #[Value.int .i64 5, Value.int .i64 1, Value.int .i64 2] 3))
  refine (text_c (HT.out.below HB.out) HC0.out).mono ?_
  rintro x9 w7 ⟨rfl, hb⟩
  have HB := Lib.hid (below_on HB.out hb)
  clear hb
  go_wp2_with fail
  have HC0 := Lib.hid (lit w7 [5] (b := w7.heap.size) (n := 1) (cs := #[Value.int .i64 5]) (by first | rfl | simp) rfl rfl (by decide) (by decide))
  have HB := Lib.hid (HB.out.alloc HB.out.size (Obj.cells #[Value.int .i64 5] 3))
  have HC0 := Lib.hid (HC0.out.alloc (Obj.cells #[Value.int .i64 5, Value.int .i64 1] 3))
  have HC1 := Lib.hid (lit (w7.alloc (Obj.cells #[Value.int .i64 5] 3)) [5, 1] (b := w7.heap.size + 1) (n := 2) (cs := #[Value.int .i64 5, Value.int .i64 1]) (by first | rfl | simp) rfl rfl (by decide) (by decide))
  have HB := Lib.hid (HB.out.alloc HB.out.size (Obj.cells #[Value.int .i64 5, Value.int .i64 1] 3))
  refine (cmp_c HC0.out HC1.out).mono ?_
  rintro x9 w8 ⟨rfl, hb⟩
  have HB := Lib.hid (below_on HB.out hb)
  clear hb
  go_wp2_with fail
  have HC0 := Lib.hid (lit w8 [5] (b := w8.heap.size) (n := 1) (cs := #[Value.int .i64 5]) (by first | rfl | simp) rfl rfl (by decide) (by decide))
  have HB := Lib.hid (HB.out.alloc HB.out.size (Obj.cells #[Value.int .i64 5] 3))
  have HC0 := Lib.hid (HC0.out.alloc (Obj.cells #[Value.int .i64 5, Value.int .i64 1] 3))
  have HC1 := Lib.hid (lit (w8.alloc (Obj.cells #[Value.int .i64 5] 3)) [5, 1] (b := w8.heap.size + 1) (n := 2) (cs := #[Value.int .i64 5, Value.int .i64 1]) (by first | rfl | simp) rfl rfl (by decide) (by decide))
  have HB := Lib.hid (HB.out.alloc HB.out.size (Obj.cells #[Value.int .i64 5, Value.int .i64 1] 3))
  refine (under_c HC0.out HC1.out).mono ?_
  rintro x9 w9 ⟨rfl, hb⟩
  have HB := Lib.hid (below_on HB.out hb)
  clear hb
  go_wp2_with fail
  have HC0 := Lib.hid (lit w9 [5, 1, 2] (b := w9.heap.size) (n := 3) (cs := #[Value.int .i64 5, Value.int .i64 1, Value.int .i64 2]) (by first | rfl | simp) rfl rfl (by decide) (by decide))
  have HB := Lib.hid (HB.out.alloc HB.out.size (Obj.cells #[Value.int .i64 5, Value.int .i64 1, Value.int .i64 2] 3))
  refine (valid_c HC0.out).mono ?_
  rintro x9 w10 ⟨rfl, hb⟩
  have HB := Lib.hid (below_on HB.out hb)
  clear hb
  go_wp2_with fail
  have HC0 := Lib.hid (lit w10 [0] (b := w10.heap.size) (n := 1) (cs := #[Value.int .i64 0]) (by first | rfl | simp) rfl rfl (by decide) (by decide))
  have HB := Lib.hid (HB.out.alloc HB.out.size (Obj.cells #[Value.int .i64 0] 3))
  refine (valid_0 HC0.out).mono ?_
  rintro x9 w11 ⟨rfl, hb⟩
  have HB := Lib.hid (below_on HB.out hb)
  clear hb
  go_wp2_with fail
  have HC0 := Lib.hid (lit w11 [5] (b := w11.heap.size) (n := 1) (cs := #[Value.int .i64 5]) (by first | rfl | simp) rfl rfl (by decide) (by decide))
  have HB := Lib.hid (HB.out.alloc HB.out.size (Obj.cells #[Value.int .i64 5] 3))
  have HC0 := Lib.hid (HC0.out.alloc (Obj.cells #[Value.int .i64 6] 3))
  have HC1 := Lib.hid (lit (w11.alloc (Obj.cells #[Value.int .i64 5] 3)) [6] (b := w11.heap.size + 1) (n := 1) (cs := #[Value.int .i64 6]) (by first | rfl | simp) rfl rfl (by decide) (by decide))
  have HB := Lib.hid (HB.out.alloc HB.out.size (Obj.cells #[Value.int .i64 6] 3))
  refine (later_c HC0.out HC1.out).mono ?_
  rintro x9 w12 ⟨AU, nU, cU, rfl, hl, hb⟩
  have HB := Lib.hid (below_on HB.out hb)
  have HU := Lib.hid hl
  clear hl
  clear hb
  go_wp2_with fail
  have HU := Lib.hid (HU.out.alloc (Obj.cells #[Value.int .i64 6] 3))
  have HC0 := Lib.hid (lit w12 [6] (b := w12.heap.size) (n := 1) (cs := #[Value.int .i64 6]) (by first | rfl | simp) rfl rfl (by decide) (by decide))
  have HB := Lib.hid (HB.out.alloc HB.out.size (Obj.cells #[Value.int .i64 6] 3))
  refine (same_c HU.out HC0.out).mono ?_
  rintro x9 w13 ⟨rfl, hb⟩
  have HU := Lib.hid (HU.out.below hb)
  have HB := Lib.hid (below_on HB.out hb)
  clear hb
  go_wp2_with fail
  go_ret
  exact ⟨rfl, HB.out⟩
end Go.Proofs.YthhkgdknmehaoaaDoor
