/- The errors and limits of stamps are the document's; there is no input. -/
import Derived.Deep.DeepCutAuto
import Derived.Test.YthhkgdknmehaoaaDoorRows
import Derived.Test.YthhkgdknmehaoaaDoorStampsW9
import Derived.Test.YthhkgdknmehaoaaDoorStampsMath2
import Derived.Test.YthhkgdknmehaoaaDoorLawLaid
import Derived.Test.YthhkgdknmehaoaaDoorBulk
import Derived.Test.YthhkgdknmehaoaaDoorCards
import Derived.Test.YthhkgdknmehaoaaDoorTie
import Derived.SevenTiedAt
import Derived.JoinedCond
import Derived.OpenShut
import Derived.ChangeMaps5
namespace Go.Proofs.YthhkgdknmehaoaaDoor.lawStampsNames
open Go Go.RowKit Go.ChangeShapes Go.WideShapes Go.ChangeAt
open Go.ChangeMaps (open_string)
set_option linter.unusedVariables false
set_option linter.unusedSimpArgs false
set_option maxRecDepth 100000
theorem ext_deep {w : World} {A : Option Addr} {n c : Nat} (h : Lst w A n c [1, 1, 1, 1]) : Calls Tryd.prog 11 #[.slice A n c, .int .i64 3] w fun e w' => ∃ A n c, e = .returned (.tuple #[.slice A n c, .int .i64 14]) ∧ Lst w' A n c [] ∧ Below w.heap.size w w' := by
  have e := Extend_in 3 (by decide) h
  rw [show SM.extend [1, 1, 1, 1] 3 = ([], 14) by decide] at e
  exact e
theorem next_top {w : World} {A : Option Addr} {n c : Nat} (h : Lst w A n c [1099511627776]) : Calls Tryd.prog 12 #[.slice A n c] w fun e w' => ∃ A n c, e = .returned (.tuple #[.slice A n c, .int .i64 66]) ∧ Lst w' A n c [] ∧ Below w.heap.size w w' := by
  have e := Next_in h
  rw [show SM.next [1099511627776] = ([], 66) by decide] at e
  exact e
theorem next_none {w : World} : Calls Tryd.prog 12 #[.slice none 0 0] w fun e w' => ∃ A n c, e = .returned (.tuple #[.slice A n c, .int .i64 13]) ∧ Lst w' A n c [] ∧ Below w.heap.size w w' := by
  have e := Next_in (w := w) (A := none) (n := 0) (c := 0) (l := []) ⟨rfl, IntsAt.nil _ _, Nat.le_refl _, by decide, by decide, by simp⟩
  rw [show SM.next [] = ([], 13) by decide] at e
  exact e
set_option maxRecDepth 100000 in
set_option maxHeartbeats 4000000 in
theorem walk  (w : World) (hT : Tabs w) :
    Calls Tryd.prog 3 #[] w (LK.True_ w) := by
  have HT := Lib.hid hT; clear hT
  have HB := Lib.hid (Below.refl w.heap.size w)
  go_enter Tryd.func3, Tryd.ntmps3
  go_wp2_with fail
  have HC0 := Lib.hid (lit w [1, 1, 1, 1] (b := w.heap.size) (n := 4) (cs := #[Value.int .i64 1, Value.int .i64 1, Value.int .i64 1, Value.int .i64 1]) (by first | rfl | simp) rfl rfl (by decide) (by decide))
  have HB := Lib.hid (HB.out.alloc HB.out.size (Obj.cells #[Value.int .i64 1, Value.int .i64 1, Value.int .i64 1, Value.int .i64 1] 3))
  refine (ext_deep HC0.out).mono ?_
  rintro x9 w1 ⟨AX, nX, cX, rfl, hl, hb⟩
  have HB := Lib.hid (below_on HB.out hb)
  have HX := Lib.hid hl
  clear hl
  clear hb
  go_wp2_with fail
  have HC0 := Lib.hid (lit w1 [1099511627776] (b := w1.heap.size) (n := 1) (cs := #[Value.int .i64 1099511627776]) (by first | rfl | simp) rfl rfl (by decide) (by decide))
  have HB := Lib.hid (HB.out.alloc HB.out.size (Obj.cells #[Value.int .i64 1099511627776] 3))
  refine (next_top HC0.out).mono ?_
  rintro x9 w2 ⟨AX, nX, cX, rfl, hl, hb⟩
  have HB := Lib.hid (below_on HB.out hb)
  have HX := Lib.hid hl
  clear hl
  clear hb
  go_wp2_with fail
  refine (next_none).mono ?_
  rintro x9 w3 ⟨AX, nX, cX, rfl, hl, hb⟩
  have HB := Lib.hid (below_on HB.out hb)
  have HX := Lib.hid hl
  clear hl
  clear hb
  go_wp2_with fail
  refine (awake_any _ (HT.out.below HB.out)).mono ?_
  rintro x9 w4 ⟨rfl, hb⟩
  have HB := Lib.hid (below_on HB.out hb)
  clear hb
  go_wp2_with fail
  go_ret
  exact ⟨rfl, HB.out⟩

theorem own : ownKnob Tryd.prog.godebug = none := by kernel_rfl
theorem laidOut : laidOutB Tryd.prog = true := by kernel_rfl
theorem lifted (os : Os) (started : os.Started) (H : Type) (enc : TypeId × Value → H) (F : Stop.Interp) :
    ReturnsInHanded {} Tryd.checked os 3 .any ((OpenSpec.ofChange Rows.stampsNamesSpec).preRow enc Tryd.prog Tryd.f3 Rows.stampsNamesRow.domain false Rows.stampsNamesRow.laid) (((OpenSpec.ofChange Rows.stampsNamesSpec).at F).post enc Tryd.prog Tryd.f3 false true false false) := by
  refine LK.lifted_row (C := Tryd.checked) (s := (OpenSpec.ofChange Rows.stampsNamesSpec)) (F := F) (s0 := Rows.stampsNamesSpec) (tb := 4) (laid := Rows.stampsNamesRow.laid) rfl own started (by kernel_rfl) Tryd.func3 laidOut rfl rfl rfl rfl (by kernel_rfl) (by kernel_rfl) Tryd.underlying4
    (fun ds h => by
      match ds, h with
      | [], _ => rfl)
    (World.laidAll Tryd.prog os Rows.stampsNamesRow.laid) #[] 8 (x := ([], [], [])) (World.laidAll_os _ _ _) (World.shaped_of_ZipB (by kernel_rfl) (by kernel_rfl)) (by kernel_rfl) (by kernel_rfl) (fun k hk => by cases hk) (by kernel_rfl)
    (by rw [MakeChecks.laidMetH_plain _ _ _ (by kernel_rfl)]; exact laidMet_laidAll _ (by kernel_rfl) (by kernel_rfl)) ?_
  intro W base args ds ps hval hA hwt hk hsh hlaid
  rw [show Tryd.f3.params.toList = [] by kernel_rfl] at hA hwt
  have hval' : ∀ (j : Nat) t v, (#[] : Array TypeId)[j]? = some t → args[j]? = some v → Value.okWide Tryd.prog W .any base t v := by
    rw [← Tryd.params3]; exact hval
  clear hval
  obtain ⟨rfl, _, _⟩ := trodAll_none hA
  exact walk W (tabs_of hsh hlaid)

theorem over : Rows.stampsNamesRow.holds Tryd.pinned (OpenSpec.ofChange Rows.stampsNamesSpec) :=
  OpenClaim.holds_of_cond 3 Tryd.f3 rfl rfl rfl rfl rfl rfl rfl ⟨rfl, rfl, rfl, rfl, rfl⟩ rfl rfl rfl rfl rfl (by kernel_rfl) Tryd.func3 (by kernel_rfl)
    (of_decide_eq_true (by kernel_rfl)) (by unfold Func.isWrapper; first | (rw [if_pos (by decide +kernel)]; kernel_rfl) | (rw [if_neg (by decide +kernel)]; exact ⟨rfl, rfl⟩))
    (fun os started H enc _ F => by rw [OpenClaim.pre_eq_preRow]; exact lifted os started H enc F)

/-- The statement. -/
theorem proved : Rows.StampsNamesCardSaid :=
  Claim7.holds_tied_plain_at .later [] Rows.stampsNamesCard.laidKinds true Rows.stampsNamesCard.stood.harness Rows.stampsNamesCard.stood.looks
    over (fun _ h => by cases h) (by kernel_rfl) (fun _ h => by cases h) stampsNames_row_tie rfl ⟨rfl, rfl⟩ (by kernel_rfl) rfl
    (fun f fn hf hfn => by
      obtain rfl : f = 3 := Option.some.inj ((show Tryd.prog.funcNamed Rows.stampsNamesRow.func = some 3 by kernel_rfl).symm.trans hf) |>.symm
      obtain rfl : fn = Tryd.f3 := (Option.some.inj (Tryd.func3.symm.trans hfn)).symm
      exact ⟨by kernel_rfl, fun j t ht => by
        rw [Tryd.params3] at ht
        have hm : t ∈ ([] : List TypeId) := by simpa using Array.mem_of_getElem? ht
        have hall : (([] : List TypeId).all fun u => !Tryd.prog.wantsStandIn u) = true := by kernel_rfl
        exact (show Tryd.prog.wantsStandIn t = false by simpa using List.all_eq_true.1 hall t hm)⟩)
    (by kernel_rfl)

end Go.Proofs.YthhkgdknmehaoaaDoor.lawStampsNames
