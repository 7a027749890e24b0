/- May a call be asked: mayBeAsked. -/
import Derived.Test.YtnacchldecjcaaaCaV
import Derived.Test.YtnacchldecjcaaaCaAsk
namespace Go.Proofs.Ytnacchldecjcaaa
open Go.RowKit
open CA (Cl St)
open WM (Msg)
set_option linter.unusedVariables false
set_option linter.unusedSimpArgs false
set_option maxRecDepth 100000
set_option maxHeartbeats 4000000 in
theorem mayBeAsked_any (x : Cl) (hx : ClW x) (w : World) : Calls Try.prog 19 #[aggC x] w fun e w' => e = .returned (.bool (CA.mayBe x)) ∧ Below w.heap.size w w' := by
  have hz := fun w : World => Try.zeroValue45 w
  have HK := Lib.hid (show ClBlk (w.alloc (.cells (ten x) 32)) w.heap.size x from Whole.new w _ _)
  have HX := Lib.hid ((Below.refl w.heap.size w).alloc (Nat.le_refl _) (.cells (ten x) 32))
  have HV := Lib.hid (fun frm h1 => Valid_ask hx (frm := frm) h1 (boot := 1) (seq := 1) (low := 1) (by unfold In64; omega) (by unfold In64; omega) (by unfold In64; omega))
  clear hx
  unfold aggC
  unfold ten at HX ⊢
  obtain ⟨c0, c1, c2, c3, c4, c5, c6, c7, c8, c9⟩ := cl_cells HK.out
  unfold ten at c0 c1 c2 c3 c4 c5 c6 c7 c8 c9
  go_enter Try.func19, Try.ntmps19
  go_wp2_with fail
  clear c0 c1 c2 c3 c4 c5 c6 c7 c8 c9
  unfold ten at HK
  generalize w.alloc _ = w1 at HK HX ⊢
  refine (ask_any x w1).mono ?_
  rintro e w2 ⟨rfl, hb⟩
  have HX2 := Lib.hid (below_on HX.out hb)
  have HK2 := Lib.hid ((Mod.of_below hb []).whole HK.out (by simp))
  clear hb HX HK
  have HKM := Lib.hid (show MsgBlk (w2.alloc (.cells (cellsM (CA.askM x 0 1 1 1) (.slice none 0 0)) 45)) w2.heap.size (CA.askM x 0 1 1 1) (.slice none 0 0) from Whole.new w2 _ _)
  have hne : ¬ w2.heap.size = w.heap.size := fun e => by have := HK2.out.lt; omega
  have HM := Lib.hid (show Mod [] w2 (w2.alloc (.cells (cellsM (CA.askM x 0 1 1 1) (.slice none 0 0)) 45)) from (Mod.refl [] w2).alloc _)
  rw [show cellsM (CA.askM x 0 1 1 1) (.slice none 0 0) = #[.int .i64 1, .int .i64 0, .int .i64 x.dst, .int .i64 1, .int .i64 1, .int .i64 1, .int .i64 x.verb, .string x.path, .int .i64 x.mode, .int .i64 x.term, .int .i64 x.id, .bool x.fresh, .int .i64 0, .slice none 0 0, .int .i64 0, .int .i64 0] from rfl] at HKM HM
  rw [show cellsM (CA.askM x 0 0 0 0) (.slice none 0 0) = #[.int .i64 1, .int .i64 0, .int .i64 x.dst, .int .i64 0, .int .i64 0, .int .i64 0, .int .i64 x.verb, .string x.path, .int .i64 x.mode, .int .i64 x.term, .int .i64 x.id, .bool x.fresh, .int .i64 0, .slice none 0 0, .int .i64 0, .int .i64 0] from rfl]
  go_upto_region 3 with (fail)
  generalize w2.alloc _ = w3 at HKM HM ⊢
  have HKC := Lib.hid (HM.out.whole HK2.out (by simp))
  have HX3 := Lib.hid (below_on HX2.out (HM.out.below (Nat.le_refl _) (by simp)))
  have HSZ := Lib.hid HX2.out.size
  clear HX2 HK2 HM
  have c1 : w3.cell? ⟨w.heap.size, 1, none⟩ = some (.int .i64 x.dst) := HKC.out.cell 1
  have m1 : w3.cell? ⟨w2.heap.size, 1, none⟩ = some (.int .i64 0) := HKM.out.cell 1
  have f1 := HKM.out.frozen 1
  by_cases hd : x.dst = 0
  · have HE := Lib.hid (show CA.mayBe x = WM.valid (CA.askM x 1 1 1 1) by unfold CA.mayBe; rw [if_pos hd])
    rw [hd] at c1
    have HK4 := Lib.hid (show MsgBlk (w3.setCell ⟨w2.heap.size, 1, none⟩ (.int .i64 1)) w2.heap.size (CA.askM x 1 1 1 1) (.slice none 0 0) from HKM.out.store 1 _)
    have HX4 := Lib.hid (HX3.out.setCell (p := ⟨w2.heap.size, 1, none⟩) HSZ.out (.int .i64 1))
    have HLD := Lib.hid (msg_range HK4.out)
    have HVV := Lib.hid (HV.out 1 (by unfold In64; omega))
    clear HKM HKC HX3 hd
    go_wp2_with (refine wpList_load_mid rfl 45 (.tmp 3) rfl w2.heap.size 0 rfl (cellsM (CA.askM x 1 1 1 1) (.slice none 0 0)).toList _ HLD.out Try.underlying45 rfl (by kernel_rfl) ?_)
    refine (HVV.out _).mono ?_
    rintro e w5 ⟨rfl, hb⟩
    have HX5 := Lib.hid (below_on HX4.out hb)
    clear hb
    go_wp2_with fail
    go_ret
    exact ⟨by rw [HE.out]; rfl, HX5.out⟩
  · have HE := Lib.hid (show CA.mayBe x = WM.valid (CA.askM x 0 1 1 1) by unfold CA.mayBe; rw [if_neg hd])
    have hd2 : (x.dst == 0) = false := by simpa using hd
    have HLD := Lib.hid (msg_range HKM.out)
    have HVV := Lib.hid (HV.out 0 (by unfold In64; omega))
    clear HKC hd
    go_wp2_with (refine wpList_load_mid rfl 45 (.tmp 3) rfl w2.heap.size 0 rfl (cellsM (CA.askM x 0 1 1 1) (.slice none 0 0)).toList _ HLD.out Try.underlying45 rfl (by kernel_rfl) ?_)
    refine (HVV.out _).mono ?_
    rintro e w5 ⟨rfl, hb⟩
    have HX5 := Lib.hid (below_on HX3.out hb)
    clear hb
    go_wp2_with fail
    go_ret
    exact ⟨by rw [HE.out]; rfl, HX5.out⟩
end Go.Proofs.Ytnacchldecjcaaa
