/- Calls that are none: Again, Close. -/
import Derived.Test.YtnacchldecjcaaaCaSet
namespace Go.Proofs.Ytnacchldecjcaaa
open Go.RowKit
open CA (Cl St)
set_option linter.unusedVariables false
set_option linter.unusedSimpArgs false
set_option maxRecDepth 100000
set_option maxHeartbeats 2000000 in
theorem Again_nil (w : World) (q : Int) : Calls Try.prog 11 #[.pointer none, .int .i64 q] w fun e w' => e = .returned (.tuple #[aggC CA.zero, .bool false]) ∧ Below w.heap.size w w' := by
  have hz := fun w : World => Try.zeroValue32 w
  have HX := Lib.hid ((Below.refl _ w).alloc (Nat.le_refl _) (.cells (ten CA.zero) 32))
  have HR := Lib.hid (show ClBlk (w.alloc (.cells (ten CA.zero) 32)) w.heap.size CA.zero from Whole.new w _ _)
  have HG := Lib.hid (Get_nil (w.alloc (.cells (ten CA.zero) 32)) q)
  rw [show ten CA.zero = #[.int .i64 0, .int .i64 0, .int .i64 0, .string ⟨#[]⟩, .int .i64 0, .int .i64 0, .int .i64 0, .bool false, .int .i64 0, .int .i64 0] from rfl] at HX HR HG
  go_enter Try.func11, Try.ntmps11
  go_wp2_with fail
  generalize w.alloc _ = w1 at HX HR HG ⊢
  refine HG.out.mono ?_
  rintro e w2 ⟨rfl, hb⟩
  have HX2 := Lib.hid (below_on HX.out hb)
  have HR2 := Lib.hid ((Mod.of_below hb []).whole HR.out (by simp))
  clear hb HX HR HG
  unfold aggC
  rw [show ten CA.zero = #[.int .i64 0, .int .i64 0, .int .i64 0, .string ⟨#[]⟩, .int .i64 0, .int .i64 0, .int .i64 0, .bool false, .int .i64 0, .int .i64 0] from rfl]
  have HX3 := Lib.hid (HX2.out.alloc HX2.out.size (.cells #[.int .i64 0, .int .i64 0, .int .i64 0, .string ⟨#[]⟩, .int .i64 0, .int .i64 0, .int .i64 0, .bool false, .int .i64 0, .int .i64 0] 32))
  have HR3 := Lib.hid (show ClBlk (w2.alloc (.cells #[.int .i64 0, .int .i64 0, .int .i64 0, .string ⟨#[]⟩, .int .i64 0, .int .i64 0, .int .i64 0, .bool false, .int .i64 0, .int .i64 0] 32)) w.heap.size CA.zero from HR2.out.alloc _)
  clear HX2 HR2
  go_upto_region 2 with (fail)
  generalize w2.alloc _ = w3 at HX3 HR3 ⊢
  have hrow := row10 HR3.out CA.zero
  have HX4 := Lib.hid (HX3.out.trans (hrow.2.below HX3.out.size (by simp)))
  have HR4 := Lib.hid hrow.1
  clear hrow
  go_wp2_with (refine wpList_store_row rfl 32 (.tmp 4) (.tmp 16) rfl w.heap.size (ten CA.zero) rfl rfl 32 _ HR3.out (by kernel_rfl) rfl (by simp [ten, Value.oneCell']) ?_)
  generalize (World.setRow _ _ _) = w4 at HX4 HR4 ⊢
  obtain ⟨c0, c1, c2, c3, c4, c5, c6, c7, c8, c9⟩ := cl_cells HR4.out
  refine bodyPost_ret (v := .tuple #[.agg (ten CA.zero), .bool false]) ?_ rfl ?_
  · rw [results_cell_tmp rfl]
    go_simp
    try rfl
  · exact ⟨rfl, HX4.out⟩
set_option maxHeartbeats 2000000 in
theorem Close_nil (w : World) (q : Int) : Calls Try.prog 10 #[.pointer none, .int .i64 q] w fun e w' => e = .returned (.tuple #[aggC CA.zero, .bool false]) ∧ Below w.heap.size w w' := by
  have hz := fun w : World => Try.zeroValue32 w
  have HX := Lib.hid ((Below.refl _ w).alloc (Nat.le_refl _) (.cells (ten CA.zero) 32))
  have HR := Lib.hid (show ClBlk (w.alloc (.cells (ten CA.zero) 32)) w.heap.size CA.zero from Whole.new w _ _)
  have HG := Lib.hid (Get_nil (w.alloc (.cells (ten CA.zero) 32)) q)
  rw [show ten CA.zero = #[.int .i64 0, .int .i64 0, .int .i64 0, .string ⟨#[]⟩, .int .i64 0, .int .i64 0, .int .i64 0, .bool false, .int .i64 0, .int .i64 0] from rfl] at HX HR HG
  go_enter Try.func10, Try.ntmps10
  go_wp2_with fail
  generalize w.alloc _ = w1 at HX HR HG ⊢
  refine HG.out.mono ?_
  rintro e w2 ⟨rfl, hb⟩
  have HX2 := Lib.hid (below_on HX.out hb)
  have HR2 := Lib.hid ((Mod.of_below hb []).whole HR.out (by simp))
  clear hb HX HR HG
  unfold aggC
  rw [show ten CA.zero = #[.int .i64 0, .int .i64 0, .int .i64 0, .string ⟨#[]⟩, .int .i64 0, .int .i64 0, .int .i64 0, .bool false, .int .i64 0, .int .i64 0] from rfl]
  have HX3 := Lib.hid (HX2.out.alloc HX2.out.size (.cells #[.int .i64 0, .int .i64 0, .int .i64 0, .string ⟨#[]⟩, .int .i64 0, .int .i64 0, .int .i64 0, .bool false, .int .i64 0, .int .i64 0] 32))
  have HR3 := Lib.hid (show ClBlk (w2.alloc (.cells #[.int .i64 0, .int .i64 0, .int .i64 0, .string ⟨#[]⟩, .int .i64 0, .int .i64 0, .int .i64 0, .bool false, .int .i64 0, .int .i64 0] 32)) w.heap.size CA.zero from HR2.out.alloc _)
  clear HX2 HR2
  go_upto_region 2 with (fail)
  generalize w2.alloc _ = w3 at HX3 HR3 ⊢
  have hrow := row10 HR3.out CA.zero
  have HX4 := Lib.hid (HX3.out.trans (hrow.2.below HX3.out.size (by simp)))
  have HR4 := Lib.hid hrow.1
  clear hrow
  go_wp2_with (refine wpList_store_row rfl 32 (.tmp 4) (.tmp 16) rfl w.heap.size (ten CA.zero) rfl rfl 32 _ HR3.out (by kernel_rfl) rfl (by simp [ten, Value.oneCell']) ?_)
  generalize (World.setRow _ _ _) = w4 at HX4 HR4 ⊢
  obtain ⟨c0, c1, c2, c3, c4, c5, c6, c7, c8, c9⟩ := cl_cells HR4.out
  refine bodyPost_ret (v := .tuple #[.agg (ten CA.zero), .bool false]) ?_ rfl ?_
  · rw [results_cell_tmp rfl]
    go_simp
    try rfl
  · exact ⟨rfl, HX4.out⟩
end Go.Proofs.Ytnacchldecjcaaa
