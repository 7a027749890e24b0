/- The errors' numbers are the document's, and the greatest number is written and read back; there is no input. -/
import Derived.Test.YtgaimlmpfmbdoaaOctetsW14
import Derived.Test.YtgaimlmpfmbdoaaLawBare
import Derived.JoinedCond
import Derived.OpenShut
namespace Go.Proofs.Ytgaimlmpfmbdoaa.lawOctetsNames
open Go Go.RowKit Go.ChangeShapes Go.WideShapes Go.ChangeAt
set_option linter.unusedVariables false
set_option linter.unusedSimpArgs false
theorem max_nat : ((9223372036854775807 : Int)).toNat = 9223372036854775807 := by decide
theorem max_enc : OM.enc 9223372036854775807 = [255, 255, 255, 255, 255, 255, 255, 255, 127] := by
  rw [OM.enc_more (by decide)]
  simp only [Nat.reduceDiv, Nat.reduceMod, Nat.reduceAdd]
  iterate 7
    rw [OM.enc_more (by omega)]
    simp only [Nat.reduceDiv, Nat.reduceMod, Nat.reduceAdd]
  rw [OM.enc_last (by omega)]
  rfl
theorem encMax : ([] : List UInt8) ++ OM.enc ((9223372036854775807 : Int)).toNat = [255, 255, 255, 255, 255, 255, 255, 255, 127] := by
  rw [max_nat, max_enc]
  rfl
theorem numMax : OM.rnum [255, 255, 255, 255, 255, 255, 255, 255, 127] 0 = (9223372036854775807, [], 0) := by decide +kernel
set_option maxRecDepth 100000 in
set_option maxHeartbeats 4000000 in
theorem walk (w : World) : Calls Try.prog 3 #[] w (LK.True_ w) := by
  have HW0 := Lib.hid (WIn.fresh (N := w.heap.size) (K := []) (w := w) (Nat.le_refl _) (by simp))
  have HB0 := Lib.hid ((Below.refl _ w).alloc (Nat.le_refl _) (Obj.cells #[.pointer none, .int .i64 0] 24))
  go_enter Try.func3, Try.ntmps3
  go_wp2_with fail
  refine (Num_in 9223372036854775807 HW0.out HB0.out.size (by simp) (by decide) (by rw [encMax]; decide)).mono ?_
  rintro e w1 ⟨rfl, h1, h2⟩
  rw [encMax] at h1
  have HW1 := Lib.hid h1
  have HB1 := Lib.hid (HB0.out.trans (h2.belowN HB0.out.size))
  clear h1 h2
  go_wp2_with fail
  refine (Bytes_in HW1.out (by decide)).mono ?_
  rintro e w3 ⟨A3, n3, c3, rfl, HN3, HY3, -, HF3, -, -, -⟩
  have HW3 := Lib.hid (HW1.out.below HF3.out)
  have HB3 := Lib.hid (HB1.out.trans (HF3.out.mono HB1.out.size))
  go_wp2_with fail
  refine (NewReader_in HN3.out HY3.out (by decide)).mono ?_
  rintro e w4 ⟨r, b, rfl, hr, hb, hr1, -, -, -⟩
  have HR4 := Lib.hid hr
  have HW4 := Lib.hid (HW3.out.below hb)
  have HB4 := Lib.hid (HB3.out.trans (hb.mono HB3.out.size))
  have hNr : w.heap.size ≤ r := Nat.le_trans HB3.out.size hr1
  clear hr hb hr1
  go_wp2_with fail
  refine (awake_any _).mono ?_
  rintro e w5 ⟨rfl, hb⟩
  have HR5 := Lib.hid (HR4.out.below hb)
  have HW5 := Lib.hid (HW4.out.below hb)
  have HB5 := Lib.hid (HB4.out.trans (hb.mono HB4.out.size))
  clear hb
  go_wp2_with fail
  refine (Bytes_in HW5.out (by decide)).mono ?_
  rintro e w6 ⟨A6, n6, c6, rfl, -, -, -, HF6, -, -, hS6⟩
  have HR6 := Lib.hid (HR5.out.below HF6.out)
  have HB6 := Lib.hid (HB5.out.trans (HF6.out.mono HB5.out.size))
  go_wp2_with fail
  refine (RNum_in HR6.out numMax).mono ?_
  rintro e w7 ⟨rfl, hr, hm⟩
  have HR7 := Lib.hid hr
  have HB7 := Lib.hid (HB6.out.trans (below_reader hm HB6.out.size hNr))
  clear hr hm hS6
  go_wp2_with fail
  refine (Err_any r b _ _ _ HR7.out).mono ?_
  rintro e w8 ⟨rfl, rfl⟩
  go_wp2
  go_ret
  exact ⟨rfl, HB7.out⟩

theorem own : ownKnob Try.prog.godebug = none := by kernel_rfl
theorem laidOut : laidOutB Try.prog = true := by kernel_rfl
set_option maxRecDepth 100000 in
theorem lifted (os : Os) (started : os.Started) (H : Type) (enc : TypeId × Value → H) :
    ReturnsInHanded {} Try.checked os 3 .any (Rows.octetsNamesSpec.pre6 enc Try.prog Try.f3 [] false) (Rows.octetsNamesSpec.post enc Try.prog Try.f3 false true false false) := by
  refine LK.lifted_bare (C := Try.checked) (tb := 4) own started (by kernel_rfl) Try.func3 laidOut rfl (by kernel_rfl) (by kernel_rfl) Try.underlying4
    (fun ds h => by
      match ds, h with
      | [], _ => rfl)
    (ChangeSpec.witness6 (enc := enc) (C := Try.checked) false ⟨#[], #[], []⟩ 8 (by kernel_rfl) (by kernel_rfl) (by kernel_rfl) (by kernel_rfl)) ?_
  intro W base args ds ps hval hA hwt _
  rw [show Try.f3.params.toList = [] by kernel_rfl] at hA hwt
  have hval' : ∀ (j : Nat) t v, (#[] : Array TypeId)[j]? = some t → args[j]? = some v → Value.okWide Try.prog W .any base t v := by
    rw [← Try.params3]; exact hval
  clear hval
  obtain ⟨rfl, _, _⟩ := trodAll_none hA
  exact walk W

/-- The statement. -/
theorem proved : Rows.OctetsNamesSaid :=
  OpenClaim.holds_of_wide 3 Try.f3 rfl rfl rfl rfl rfl rfl rfl ⟨rfl, rfl, rfl, rfl, rfl⟩ rfl rfl rfl rfl rfl (by kernel_rfl) Try.func3 (by kernel_rfl)
    (of_decide_eq_true (by kernel_rfl)) (by unfold Func.isWrapper; first | (rw [if_pos (by decide +kernel)]; kernel_rfl) | (rw [if_neg (by decide +kernel)]; exact ⟨rfl, rfl⟩))
    (fun os started H enc _ => lifted os started H enc)

end Go.Proofs.Ytgaimlmpfmbdoaa.lawOctetsNames
