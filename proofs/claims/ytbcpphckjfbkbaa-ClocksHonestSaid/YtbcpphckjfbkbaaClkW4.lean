/- The questions that open each statement of layer 8. -/
import Derived.Test.YtbcpphckjfbkbaaClkW3
namespace Go.Proofs.Ytbcpphckjfbkbaa
open Go.RowKit
open CK (Ck)
set_option linter.unusedVariables false
set_option linter.unusedSimpArgs false
set_option maxRecDepth 100000
theorem CK.step_eq {c : Ck} {d : Int} {bs ts : List Int} {tr dr : Int} (h0 : CK.err c d bs = 0) (h1 : List.zipWith (· + ·) c.ts bs = ts) (h2 : c.tr + d = tr) (h3 : CK.drift d c.dr bs = dr) : CK.step c d bs = ⟨ts, tr, dr⟩ := by
  subst h1 h2 h3
  exact CK.step_ok h0
theorem ints_lit (w : World) (l : List Int) : IntsAt (w.alloc (.cells (i64s l).toArray 3)) (some ⟨w.heap.size, 0, none⟩) l := fun h0 => by
  refine ⟨w.heap.size, 0, rfl, by simp, fun j x hx => ?_⟩
  rw [(Whole.new w 3 (i64s l).toArray).cell]
  rw [Nat.zero_add, List.getElem?_toArray]
  unfold i64s
  rw [List.getElem?_map, hx]
  rfl
theorem in64 {l : List Int} (h : l.all (fun x => decide (-9223372036854775808 ≤ x) && decide (x ≤ 9223372036854775807)) = true) : In64 l := fun x hx => by
  have := List.all_eq_true.1 h x hx
  simpa using this
def ckA : Ck := ⟨[99, 101], 100, 10⟩
set_option maxHeartbeats 4000000 in
theorem awake_any (w : World) : Calls Try.prog 9 #[] w fun e w' => e = .returned (.bool true) ∧ Below w.heap.size w w' := by
  go_enter Try.func9, Try.ntmps9
  go_wp2_with fail
  refine (New_ok 2 w (by decide)).mono ?_
  rintro e w1 ⟨rfl, hc, hb⟩
  have HX := Lib.hid (hb.alloc hb.size (.cells (i64s [99, 101]).toArray 3))
  have HC := Lib.hid (hc.below ((Below.refl _ w1).alloc (Nat.le_refl _) (.cells (i64s [99, 101]).toArray 3)))
  have HI := Lib.hid (ints_lit w1 [99, 101])
  have HN := Lib.hid (show w.heap.size ≠ w1.heap.size from Nat.ne_of_lt hc.lt)
  clear hc hb
  go_wp2_with fail
  refine (Tick_any HC.out 100 (some ⟨w1.heap.size, 0, none⟩) 2 [99, 101] HI.out (fun ad e => by injection e with e; subst e; exact fun e => HN.out e.symm) (by decide) (by decide) (by decide) (in64 rfl)).mono ?_
  rintro e w2 ⟨rfl, hc, hm⟩
  rw [CK.step_eq (show CK.err (CK.zero 2) 100 [99, 101] = 0 by decide +kernel) (ts := [99, 101]) (tr := 100) (dr := 10) rfl rfl (by decide +kernel)] at hc
  rw [show CK.err (CK.zero 2) 100 [99, 101] = 0 by decide +kernel]
  have HX2 := Lib.hid (show Below w.heap.size w w2 from HX.out.trans (hm.out.below HX.out.size (by simp)))
  have HC2 := Lib.hid hc.out
  clear hc hm HX HC HI HN
  go_wp2_with fail
  refine (True_any HC2.out).mono ?_
  rintro e w3 ⟨rfl, rfl⟩
  go_wp2_with fail
  refine (Now_any HC2.out 0 (by decide)).mono ?_
  rintro e w3 ⟨rfl, rfl⟩
  rw [show CK.now ⟨[99, 101], 100, 10⟩ 0 = 99 from rfl]
  go_wp2_with fail
  refine (Now_any HC2.out 1 (by decide)).mono ?_
  rintro e w3 ⟨rfl, rfl⟩
  rw [show CK.now ⟨[99, 101], 100, 10⟩ 1 = 101 from rfl]
  go_wp2_with fail
  refine (Drift_any HC2.out).mono ?_
  rintro e w3 ⟨rfl, rfl⟩
  go_wp2_with fail
  refine (Len_any HC2.out).mono ?_
  rintro e w3 ⟨rfl, rfl⟩
  rw [show ((([99, 101] : List Int).length : Nat) : Int) = 2 from rfl]
  have HX3 := Lib.hid (HX2.out.alloc HX2.out.size (.cells (i64s [1]).toArray 3))
  have HC3 := Lib.hid (HC2.out.below ((Below.refl _ w2).alloc (Nat.le_refl _) (.cells (i64s [1]).toArray 3)))
  have HI3 := Lib.hid (ints_lit w2 [1])
  have HN3 := Lib.hid (show w.heap.size ≠ w2.heap.size from Nat.ne_of_lt HC2.out.lt)
  clear HX2 HC2
  go_wp2_with fail
  refine (Tick_any HC3.out 1 (some ⟨w2.heap.size, 0, none⟩) 1 [1] HI3.out (fun ad e => by injection e with e; subst e; exact fun e => HN3.out e.symm) (by decide) (by decide) (by decide) (in64 rfl)).mono ?_
  rintro e w4 ⟨rfl, hc, hm⟩
  rw [show CK.err ⟨[99, 101], 100, 10⟩ 1 [1] = 2 by decide +kernel]
  have HX4 := Lib.hid (show Below w.heap.size w w4 from HX3.out.trans (hm.out.below HX3.out.size (by simp)))
  clear hc hm HX3 HC3 HI3 HN3
  go_wp2_with fail
  go_ret
  exact ⟨rfl, HX4.out⟩
end Go.Proofs.Ytbcpphckjfbkbaa
