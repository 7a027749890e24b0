/- The errors and limits are the document's; there is no input. -/
import Derived.Test.YtlnahmgcjaodkaaScArg
import Derived.Test.YtlnahmgcjaodkaaLawBare
import Derived.JoinedCond
import Derived.OpenShut
namespace Go.Proofs.Ytlnahmgcjaodkaa.lawSectorsNames
open Go Go.RowKit Go.ChangeShapes Go.WideShapes Go.ChangeAt
set_option linter.unusedVariables false
set_option linter.unusedSimpArgs false
open By
set_option maxRecDepth 100000
set_option maxHeartbeats 4000000 in
theorem walk (w : World) : Calls Try.prog 3 #[] w (LK.True_ w) := by
  have hmk : ∀ w' : World, (Instr.makeSlice 26 (.int .i64 188) (.int .i64 188)).run Try.prog w' = .ok (.slice (some ⟨w'.heap.size, 0, none⟩) 188 188) (w'.alloc (.cells (madeCells #[.int .u8 0] 188) 5)) := fun w' => run_make_row' (P := Try.prog) 26 5 (.int .u8 0) 1 Try.underlying26 info_u8 rfl .i64 .i64 188 (by omega) (by omega) w'
  have hmk2 : ∀ w' : World, (Instr.makeSlice 26 (.int .i64 189) (.int .i64 189)).run Try.prog w' = .ok (.slice (some ⟨w'.heap.size, 0, none⟩) 189 189) (w'.alloc (.cells (madeCells #[.int .u8 0] 189) 5)) := fun w' => run_make_row' (P := Try.prog) 26 5 (.int .u8 0) 1 Try.underlying26 info_u8 rfl .i64 .i64 189 (by omega) (by omega) w'
  have HB1 := Lib.hid ((Below.refl _ w).alloc (Nat.le_refl _) (.cells (madeCells #[.int .u8 0] 188) 5))
  have HX1 := Lib.hid (show BytesAt (w.alloc (.cells (madeCells #[.int .u8 0] 188) 5)) (some ⟨w.heap.size, 0, none⟩) (List.replicate 188 0) from Whole.reads (by rw [zerosAt]; exact Whole.new w _ _))
  have HS1 := Lib.hid (show (w.alloc (.cells (madeCells #[.int .u8 0] 188) 5)).heap.size = w.heap.size + 1 by simp)
  go_enter Try.func3, Try.ntmps3
  go_wp2_with fail
  generalize w.alloc (.cells (madeCells #[.int .u8 0] 188) 5) = w1 at HB1 HX1 HS1 ⊢
  go_at_call 11
  have HP := Lib.hid (Pack_ok 1073741824 1073741824 (List.replicate 188 0) 188 (some ⟨w.heap.size, 0, none⟩) 188 w1 HX1.out (by simp) ⟨by omega, by omega⟩ (by omega) (by omega) (by omega))
  rw [show SC.np (List.replicate 188 (0 : UInt8)) = 4 by simp [SC.np], show ((1073741824 : Nat) : Int) = 1073741824 from rfl] at HP
  with_reducible refine HP.out.mono ?_
  rintro e w2 ⟨rfl, _, HB2⟩
  clear HP
  have HP2 := Lib.hid (Pack_no 1073741825 0 [] 0 none 0 w2 rfl (by omega) (by decide))
  rw [show packErr 1073741825 0 0 = 2 by decide] at HP2
  go_wp2_with fail
  go_at_call 11
  with_reducible refine HP2.out.mono ?_
  rintro e w3 ⟨rfl, rfl⟩
  clear HP2
  have HP3 := Lib.hid (Pack_no 1 1073741825 [] 0 none 0 w2 rfl (by omega) (by decide))
  rw [show packErr 1 1073741825 0 = 2 by decide] at HP3
  go_wp2_with fail
  go_at_call 11
  with_reducible refine HP3.out.mono ?_
  rintro e w3 ⟨rfl, rfl⟩
  clear HP3
  have HB4 := Lib.hid ((Below.refl _ w2).alloc (Nat.le_refl _) (.cells (madeCells #[.int .u8 0] 189) 5))
  have HP4 := Lib.hid (Pack_no 1 0 (List.replicate 189 0) 189 (some ⟨w2.heap.size, 0, none⟩) 189 (w2.alloc (.cells (madeCells #[.int .u8 0] 189) 5)) (by simp) (by omega) (by decide))
  rw [show packErr 1 0 189 = 41 by decide] at HP4
  go_wp2_with fail
  go_at_call 11
  generalize w2.alloc (.cells (madeCells #[.int .u8 0] 189) 5) = w4 at HB4 HP4 ⊢
  with_reducible refine HP4.out.mono ?_
  rintro e w5 ⟨rfl, rfl⟩
  clear HP4
  go_wp2_with fail
  go_at_call 12
  with_reducible refine (awake_any w4).mono ?_
  rintro e w6 ⟨rfl, HB6⟩
  go_wp2_with fail
  go_ret
  have h12 := below_on2 HB1.out (.inl HB1.out.size) HB2.out
  have h14 := below_on2 h12 (.inl h12.size) HB4.out
  exact ⟨rfl, below_on2 h14 (.inl h14.size) HB6.out⟩

theorem own : ownKnob Try.prog.godebug = none := by kernel_rfl
theorem laidOut : laidOutB Try.prog = true := by kernel_rfl
set_option maxRecDepth 100000 in
theorem lifted (os : Os) (started : os.Started) (H : Type) (enc : TypeId × Value → H) :
    ReturnsInHanded {} Try.checked os 3 .any (Rows.sectorsNamesSpec.pre6 enc Try.prog Try.f3 [] false) (Rows.sectorsNamesSpec.post enc Try.prog Try.f3 false true false false) := by
  refine LK.lifted_bare (C := Try.checked) (tb := 4) own started (by kernel_rfl) Try.func3 laidOut rfl (by kernel_rfl) (by kernel_rfl) Try.underlying4
    (fun ds h => by
      match ds, h with
      | [], _ => rfl)
    (ChangeSpec.witness6 (enc := enc) (C := Try.checked) false ⟨#[], #[], []⟩ 8 (by kernel_rfl) (by kernel_rfl) (by kernel_rfl) (by kernel_rfl)) ?_
  intro W base args ds ps hval hA hwt _
  rw [show Try.f3.params.toList = [] by kernel_rfl] at hA hwt
  have hval' : ∀ (j : Nat) t v, (#[] : Array TypeId)[j]? = some t → args[j]? = some v → Value.okWide Try.prog W .any base t v := by
    rw [← Try.params3]; exact hval
  clear hval
  obtain ⟨rfl, _, _⟩ := trodAll_none hA
  exact walk W

/-- The statement. -/
theorem proved : Rows.SectorsNamesSaid :=
  OpenClaim.holds_of_wide 3 Try.f3 rfl rfl rfl rfl rfl rfl rfl ⟨rfl, rfl, rfl, rfl, rfl⟩ rfl rfl rfl rfl rfl (by kernel_rfl) Try.func3 (by kernel_rfl)
    (of_decide_eq_true (by kernel_rfl)) (by unfold Func.isWrapper; first | (rw [if_pos (by decide +kernel)]; kernel_rfl) | (rw [if_neg (by decide +kernel)]; exact ⟨rfl, rfl⟩))
    (fun os started H enc _ => lifted os started H enc)

end Go.Proofs.Ytlnahmgcjaodkaa.lawSectorsNames
