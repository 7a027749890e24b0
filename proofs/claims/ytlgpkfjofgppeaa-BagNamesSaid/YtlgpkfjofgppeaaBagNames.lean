/- The errors and limits are the document's, and a full bag loses one packet more; there is no input. -/
import Derived.Test.YtlgpkfjofgppeaaRows
import Derived.Test.YtlgpkfjofgppeaaBagArg
import Derived.Test.YtlgpkfjofgppeaaLaw
import Derived.JoinedCond
import Derived.OpenShut
namespace Go.Proofs.Ytlgpkfjofgppeaa.lawBagNames
open Go Go.RowKit Go.ChangeShapes Go.WideShapes Go.ChangeAt
set_option linter.unusedVariables false
set_option linter.unusedSimpArgs false
open By (BytesAt) in
theorem made_bytes (w : World) (n : Nat) : BytesAt (w.alloc (.cells (madeCells #[.int .u8 0] n) 5)) (some ⟨w.heap.size, 0, none⟩) (List.replicate n 0) := fun h0 => by
  have hw := Whole.new w 5 (madeCells #[.int .u8 0] n)
  refine ⟨w.heap.size, 0, rfl, hw.lt, fun j x hj => ?_⟩
  have hj' := (List.getElem?_eq_some_iff.1 hj).1
  rw [List.length_replicate] at hj'
  have e : x = 0 := by
    rw [List.getElem?_replicate, if_pos hj'] at hj
    exact (Option.some.inj hj).symm
  subst e
  rw [Nat.zero_add, hw.cell]
  simp [madeCells, hj', By.u8, Nat.mod_one]
def pkN (n : Nat) : Pk := ⟨0, 0, List.replicate n 0⟩
theorem wrap_nat {k : Nat} (h : k ≤ 100) : IntKind.i64.wrap ((k : Int) + 1) = (k : Int) + 1 := IntWalk.i64_in _ (by omega)
set_option maxRecDepth 100000 in
set_option maxHeartbeats 8000000 in
theorem walk (w : World) : Calls Try.prog 11 #[] w (LK.True_ w) := by
  have hmk : ∀ w' : World, (Instr.makeSlice 30 (.int .i64 200) (.int .i64 200)).run Try.prog w' = .ok (.slice (some ⟨w'.heap.size, 0, none⟩) 200 200) (w'.alloc (.cells (madeCells #[.int .u8 0] 200) 5)) := fun w' => run_make_row' (P := Try.prog) 30 5 (.int .u8 0) 1 Try.underlying30 By.info_u8 rfl .i64 .i64 200 (by omega) (by omega) w'
  have hmk2 : ∀ w' : World, (Instr.makeSlice 30 (.int .i64 201) (.int .i64 201)).run Try.prog w' = .ok (.slice (some ⟨w'.heap.size, 0, none⟩) 201 201) (w'.alloc (.cells (madeCells #[.int .u8 0] 201) 5)) := fun w' => run_make_row' (P := Try.prog) 30 5 (.int .u8 0) 1 Try.underlying30 By.info_u8 rfl .i64 .i64 201 (by omega) (by omega) w'
  go_enter Try.func11, Try.ntmps11
  go_wp2_with fail
  refine (New_any w).mono ?_
  rintro e w1 ⟨rfl, hw1⟩
  have HX := Lib.hid (show Below w.heap.size w w1 by rw [hw1]; exact (Below.refl _ w).alloc (Nat.le_refl _) _)
  have HB := Lib.hid (show BagAt (fun x => x ≠ w.heap.size) w1 w.heap.size [] 0 0 by rw [hw1]; exact bag0_at w (fun h => h rfl))
  clear hw1
  go_wp2_with fail
  refine (awake_any w1).mono ?_
  rintro e w2 ⟨rfl, hb⟩
  have HX2 := Lib.hid (below_on HX.out hb)
  have HB2 := Lib.hid (HB.out.below hb)
  clear hb HX HB
  go_wp2_with fail
  go_loopw [2] (fun i wx => ∃ k : Nat, i = .int .i64 (k : Int) ∧ k ≤ 48 ∧ BagAt (fun x => x ≠ w.heap.size) wx w.heap.size (List.replicate k (pkN 200)) (k : Int) 0 ∧ Below w.heap.size w wx) (fun i _ => 48 - (intOf i).toNat)
  case atStart => exact ⟨0, rfl, by omega, HB2.out, HX2.out⟩
  case round =>
    obtain ⟨k, rfl, hk, hB, hX⟩ := hrel
    have HB := Lib.hid hB
    have HX := Lib.hid hX
    clear hB hX
    by_cases hlt : k < 48
    · have hd : decide ((k : Int) < 48) = true := by simp; omega
      have HA := Lib.hid ((Below.refl _ wr).alloc (Nat.le_refl _) (.cells (madeCells #[.int .u8 0] 200) 5))
      have HY := Lib.hid (made_bytes wr 200)
      have HB3 := Lib.hid (HB.out.below HA.out)
      have HX3 := Lib.hid (below_on HX.out HA.out)
      go_wp2_with fail
      generalize wr.alloc (.cells (madeCells #[.int .u8 0] 200) 5) = w3 at HA HY HB3 HX3 ⊢
      refine (Send_ok HB3.out (pkN 200) (some ⟨wr.heap.size, 0, none⟩) 200 HY.out (by decide) (by rw [List.length_replicate]; exact hlt) (fun x hx => by have := HB3.out.lt; show x ≠ _; omega) (wrap_nat (by omega))).mono ?_
      rintro e w4 ⟨rfl, hB4, hm4⟩
      have HX4 := Lib.hid (mod_on HX3.out hm4.out (Nat.le_refl _))
      have HB4 := Lib.hid (show BagAt (fun x => x ≠ w.heap.size) w4 w.heap.size (List.replicate (k + 1) (pkN 200)) ((k : Int) + 1) 0 by rw [List.replicate_succ']; exact hB4.out)
      clear hB4 hm4
      go_wp2_with fail
      go_roundw
      case rel => exact ⟨k + 1, rfl, hlt, HB4.out, HX4.out⟩
      case measure => simp only [intOf]; omega
    · obtain rfl : k = 48 := by omega
      go_wp2_with fail
      refine (packet_any 1 [120] wr).mono ?_
      rintro e w5 ⟨A5, c5, rfl, hB5, hb⟩
      have HX5 := Lib.hid (below_on HX.out hb)
      have HB5 := Lib.hid (HB.out.below hb)
      clear hb hB5
      go_wp2_with fail
      refine (Send_full HB5.out ⟨1, 0, [120]⟩ A5 c5 (by decide) (by decide) (by decide)).mono ?_
      rintro e w6 ⟨rfl, hB6, hm6⟩
      have HX6 := Lib.hid (mod_on HX5.out hm6.out (Nat.le_refl _))
      have HB6 := Lib.hid hB6.out
      clear hB6 hm6 HX5 HB5
      go_wp2_with fail
      refine (Double_full HB6.out (k := 0) (p := pkN 200) rfl (by decide)).mono ?_
      rintro e w7 ⟨rfl, hb⟩
      have HX7 := Lib.hid (below_on HX6.out hb)
      have HB7 := Lib.hid (HB6.out.below hb)
      clear hb HX6 HB6
      have HA8 := Lib.hid ((Below.refl _ w7).alloc (Nat.le_refl _) (.cells (madeCells #[.int .u8 0] 201) 5))
      have HY8 := Lib.hid (made_bytes w7 201)
      have HB8 := Lib.hid (HB7.out.below HA8.out)
      have HX8 := Lib.hid (below_on HX7.out HA8.out)
      go_wp2_with fail
      generalize w7.alloc (.cells (madeCells #[.int .u8 0] 201) 5) = w8 at HA8 HY8 HB8 HX8 ⊢
      refine (Send_space HB8.out (pkN 201) (some ⟨w7.heap.size, 0, none⟩) 201 (by decide) (by decide)).mono ?_
      rintro e w9 ⟨rfl, hB9, hm9⟩
      have HX9 := Lib.hid (mod_on HX8.out hm9.out (Nat.le_refl _))
      have HB9 := Lib.hid hB9.out
      clear hB9 hm9 HX8 HB8 HA8 HY8 HX7 HB7
      go_wp2_with fail
      refine (Lost_any HB9.out).mono ?_
      rintro e w10 ⟨rfl, rfl⟩
      go_wp2_with fail
      refine (Sent_any HB9.out).mono ?_
      rintro e w10 ⟨rfl, rfl⟩
      go_wp2_with fail
      refine (Len_any HB9.out).mono ?_
      rintro e w10 ⟨rfl, rfl⟩
      rw [List.length_replicate]
      go_wp2_with fail
      refine (Drop_yes HB9.out (k := 47) (by decide)).mono ?_
      rintro e w11 ⟨rfl, hB11, hm11⟩
      have HX11 := Lib.hid (mod_on HX9.out hm11.out (Nat.le_refl _))
      have HB11 := Lib.hid hB11.out
      clear hB11 hm11 HX9 HB9
      go_wp2_with fail
      refine (packet_any 1 [120] w11).mono ?_
      rintro e w12 ⟨A12, c12, rfl, hB12, hb⟩
      have HX12 := Lib.hid (below_on HX11.out hb)
      have HB12 := Lib.hid (HB11.out.below hb)
      clear hb HX11 HB11
      go_wp2_with fail
      refine (Send_ok HB12.out ⟨1, 0, [120]⟩ A12 c12 hB12.out (by decide) (by decide) (fun x hx => by have := HB12.out.lt; show x ≠ _; omega) (by decide)).mono ?_
      rintro e w13 ⟨rfl, hB13, hm13⟩
      have HX13 := Lib.hid (mod_on HX12.out hm13.out (Nat.le_refl _))
      clear hB13 hm13
      go_wp2_with fail
      go_ret
      exact ⟨rfl, HX13.out⟩

theorem own : ownKnob Try.prog.godebug = none := by kernel_rfl
theorem laidOut : laidOutB Try.prog = true := by kernel_rfl
set_option maxRecDepth 100000 in
theorem lifted (os : Os) (started : os.Started) (H : Type) (enc : TypeId × Value → H) :
    ReturnsInHanded {} Try.checked os 11 .any (Rows.bagNamesSpec.pre6 enc Try.prog Try.f11 [] false) (Rows.bagNamesSpec.post enc Try.prog Try.f11 false true false false) := by
  refine LK.lifted_bare (C := Try.checked) (tb := 4) own started (by kernel_rfl) Try.func11 laidOut rfl (by kernel_rfl) (by kernel_rfl) Try.underlying4
    (fun ds h => by
      match ds, h with
      | [], _ => rfl)
    (ChangeSpec.witness6 (enc := enc) (C := Try.checked) false ⟨#[], #[], []⟩ 8 (by kernel_rfl) (by kernel_rfl) (by kernel_rfl) (by kernel_rfl)) ?_
  intro W base args ds ps hval hA hwt _
  rw [show Try.f11.params.toList = [] by kernel_rfl] at hA hwt
  have hval' : ∀ (j : Nat) t v, (#[] : Array TypeId)[j]? = some t → args[j]? = some v → Value.okWide Try.prog W .any base t v := by
    rw [← Try.params11]; exact hval
  clear hval
  obtain ⟨rfl, _, _⟩ := trodAll_none hA
  exact walk W

/-- The statement. -/
theorem proved : Rows.BagNamesSaid :=
  OpenClaim.holds_of_wide 11 Try.f11 rfl rfl rfl rfl rfl rfl rfl ⟨rfl, rfl, rfl, rfl, rfl⟩ rfl rfl rfl rfl rfl (by kernel_rfl) Try.func11 (by kernel_rfl)
    (of_decide_eq_true (by kernel_rfl)) (by unfold Func.isWrapper; first | (rw [if_pos (by decide +kernel)]; kernel_rfl) | (rw [if_neg (by decide +kernel)]; exact ⟨rfl, rfl⟩))
    (fun os started H enc _ => lifted os started H enc)

end Go.Proofs.Ytlgpkfjofgppeaa.lawBagNames
