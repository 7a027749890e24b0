/- Extend and Next answer what the document says; for any list and number. -/
import Derived.Deep.DeepCutAuto
import Derived.Test.YthhkgdknmehaoaaDoorRows
import Derived.Test.YthhkgdknmehaoaaDoorStampsW9
import Derived.Test.YthhkgdknmehaoaaDoorStampsMath2
import Derived.Test.YthhkgdknmehaoaaDoorLawLaid
import Derived.Test.YthhkgdknmehaoaaDoorBulk
import Derived.Test.YthhkgdknmehaoaaDoorCards
import Derived.Test.YthhkgdknmehaoaaDoorTie
import Derived.SevenTiedAt
import Derived.JoinedCond
import Derived.OpenShut
import Derived.ChangeMaps5
namespace Go.Proofs.YthhkgdknmehaoaaDoor.lawStampsMakes
open Go Go.RowKit Go.ChangeShapes Go.WideShapes Go.ChangeAt
open Go.ChangeMaps (open_string)
set_option linter.unusedVariables false
set_option linter.unusedSimpArgs false
set_option maxRecDepth 100000
set_option maxRecDepth 100000 in
set_option maxHeartbeats 4000000 in
theorem walk (As : Option Addr) (ns cs : Nat) (s : List Int) (n : Int) (w : World) (Hs : Lst w As ns cs s) (hn : -9223372036854775808 ≤ n ∧ n ≤ 9223372036854775807) (hT : Tabs w) :
    Calls Tryd.prog 5 #[.slice As ns cs, .int .i64 n] w (LK.True_ w) := by
  have HT := Lib.hid hT; clear hT
  have Hs := Lib.hid Hs
  have HB := Lib.hid (Below.refl w.heap.size w)
  go_enter Tryd.func5, Tryd.ntmps5
  go_wp2_with fail
  refine (awake_any _ (HT.out.below HB.out)).mono ?_
  rintro x9 w1 ⟨rfl, hb⟩
  have Hs := Lib.hid (Hs.out.below hb)
  have HB := Lib.hid (below_on HB.out hb)
  clear hb
  go_wp2_with fail
  refine (own_in Hs.out).mono ?_
  rintro x9 w2 ⟨AP, nP, cP, rfl, hl, hb⟩
  have Hs := Lib.hid (Hs.out.below hb)
  have HB := Lib.hid (below_on HB.out hb)
  have HP := Lib.hid hl
  clear hl
  clear hb
  go_wp2_with fail
  refine (Extend_in n hn HP.out).mono ?_
  rintro x9 w3 ⟨AX, nX, cX, rfl, hl, hb⟩
  have Hs := Lib.hid (Hs.out.below hb)
  have HP := Lib.hid (HP.out.below hb)
  have HB := Lib.hid (below_on HB.out hb)
  have HX := Lib.hid hl
  clear hl
  clear hb
  go_wp2_with fail
  refine (RefExtend_in n hn Hs.out).mono ?_
  rintro x9 w4 ⟨AY, nY, cY, rfl, hl, hb⟩
  have Hs := Lib.hid (Hs.out.below hb)
  have HX := Lib.hid (HX.out.below hb)
  have HB := Lib.hid (below_on HB.out hb)
  have HY := Lib.hid hl
  clear hl
  clear hb
  go_wp2_with fail
  refine (own_in Hs.out).mono ?_
  rintro x9 w5 ⟨AP, nP, cP, rfl, hl, hb⟩
  have Hs := Lib.hid (Hs.out.below hb)
  have HX := Lib.hid (HX.out.below hb)
  have HY := Lib.hid (HY.out.below hb)
  have HB := Lib.hid (below_on HB.out hb)
  have HP := Lib.hid hl
  clear hl
  clear hb
  go_wp2_with fail
  refine (Next_in HP.out).mono ?_
  rintro x9 w6 ⟨AZ, nZ, cZ, rfl, hl, hb⟩
  have Hs := Lib.hid (Hs.out.below hb)
  have HX := Lib.hid (HX.out.below hb)
  have HY := Lib.hid (HY.out.below hb)
  have HP := Lib.hid (HP.out.below hb)
  have HB := Lib.hid (below_on HB.out hb)
  have HZ := Lib.hid hl
  clear hl
  clear hb
  go_wp2_with fail
  refine (RefNext_in Hs.out).mono ?_
  rintro x9 w7 ⟨AU, nU, cU, rfl, hl, hb⟩
  have Hs := Lib.hid (Hs.out.below hb)
  have HX := Lib.hid (HX.out.below hb)
  have HY := Lib.hid (HY.out.below hb)
  have HZ := Lib.hid (HZ.out.below hb)
  have HB := Lib.hid (below_on HB.out hb)
  have HU := Lib.hid hl
  clear hl
  clear hb
  go_wp2_with fail
  refine (same_c HX.out HY.out).mono ?_
  rintro x9 w8 ⟨rfl, hb⟩
  have Hs := Lib.hid (Hs.out.below hb)
  have HX := Lib.hid (HX.out.below hb)
  have HY := Lib.hid (HY.out.below hb)
  have HZ := Lib.hid (HZ.out.below hb)
  have HU := Lib.hid (HU.out.below hb)
  have HB := Lib.hid (below_on HB.out hb)
  clear hb
  go_wp2_with fail
  refine (same_c HZ.out HU.out).mono ?_
  rintro x9 w9 ⟨rfl, hb⟩
  have Hs := Lib.hid (Hs.out.below hb)
  have HX := Lib.hid (HX.out.below hb)
  have HY := Lib.hid (HY.out.below hb)
  have HZ := Lib.hid (HZ.out.below hb)
  have HU := Lib.hid (HU.out.below hb)
  have HB := Lib.hid (below_on HB.out hb)
  clear hb
  go_wp2_with fail
  go_ret
  exact ⟨rfl, HB.out⟩

theorem own : ownKnob Tryd.prog.godebug = none := by kernel_rfl
theorem laidOut : laidOutB Tryd.prog = true := by kernel_rfl
theorem lifted (os : Os) (started : os.Started) (H : Type) (enc : TypeId × Value → H) (F : Stop.Interp) :
    ReturnsInHanded {} Tryd.checked os 5 .any ((OpenSpec.ofChange Rows.stampsMakesSpec).preRow enc Tryd.prog Tryd.f5 Rows.stampsMakesRow.domain false Rows.stampsMakesRow.laid) (((OpenSpec.ofChange Rows.stampsMakesSpec).at F).post enc Tryd.prog Tryd.f5 false true false false) := by
  refine LK.lifted_row (C := Tryd.checked) (s := (OpenSpec.ofChange Rows.stampsMakesSpec)) (F := F) (s0 := Rows.stampsMakesSpec) (tb := 4) (laid := Rows.stampsMakesRow.laid) rfl own started (by kernel_rfl) Tryd.func5 laidOut rfl rfl rfl rfl (by kernel_rfl) (by kernel_rfl) Tryd.underlying4
    (fun ds h => by
      match ds, h with
      | [_, _], _ => rfl)
    (World.laidAll Tryd.prog os Rows.stampsMakesRow.laid) #[.slice none 0 0, .int .i64 0] 8 (x := ([.nil, .lit (.int .i64 0)], [], [])) (World.laidAll_os _ _ _) (World.shaped_of_ZipB (by kernel_rfl) (by kernel_rfl)) (by kernel_rfl) (by kernel_rfl) (fun k hk => by cases hk) (by kernel_rfl)
    (by rw [MakeChecks.laidMetH_plain _ _ _ (by kernel_rfl)]; exact laidMet_laidAll _ (by kernel_rfl) (by kernel_rfl)) ?_
  intro W base args ds ps hval hA hwt hk hsh hlaid
  rw [show Tryd.f5.params.toList = [22, 3] by kernel_rfl] at hA hwt
  have hval' : ∀ (j : Nat) t v, (#[22, 3] : Array TypeId)[j]? = some t → args[j]? = some v → Value.okWide Tryd.prog W .any base t v := by
    rw [← Tryd.params5]; exact hval
  clear hval
  obtain ⟨v0, v1, d0, d1, p0, p1, rfl, rfl, rfl, h0, h1⟩ := trodAll_two hA
  obtain ⟨A0, c0, l0, rfl, hI0, hc0, hm0, hr0⟩ := open_nums (hval' 0 22 v0 rfl rfl) h0 hwt (j := 0) rfl rfl
  obtain ⟨n1, rfl, rfl, rfl, hn1⟩ := open_int Tryd.underlying3 (hval' 1 3 v1 rfl rfl) h1
  have hr1 : -9223372036854775808 ≤ n1 ∧ n1 ≤ 9223372036854775807 := by simpa [Lit.wf, IntKind.min, IntKind.max, IntKind.signed, IntKind.bits] using hn1
  exact walk A0 l0.length c0 l0 n1 W ⟨rfl, hI0, hc0, by omega, by omega, hr0⟩ hr1 (tabs_of hsh hlaid)

theorem over : Rows.stampsMakesRow.holds Tryd.pinned (OpenSpec.ofChange Rows.stampsMakesSpec) :=
  OpenClaim.holds_of_cond 5 Tryd.f5 rfl rfl rfl rfl rfl rfl rfl ⟨rfl, rfl, rfl, rfl, rfl⟩ rfl rfl rfl rfl rfl (by kernel_rfl) Tryd.func5 (by kernel_rfl)
    (of_decide_eq_true (by kernel_rfl)) (by unfold Func.isWrapper; first | (rw [if_pos (by decide +kernel)]; kernel_rfl) | (rw [if_neg (by decide +kernel)]; exact ⟨rfl, rfl⟩))
    (fun os started H enc _ F => by rw [OpenClaim.pre_eq_preRow]; exact lifted os started H enc F)

/-- The statement. -/
theorem proved : Rows.StampsMakesCardSaid :=
  Claim7.holds_tied_plain_at .later [] Rows.stampsMakesCard.laidKinds true Rows.stampsMakesCard.stood.harness Rows.stampsMakesCard.stood.looks
    over (fun _ h => by cases h) (by kernel_rfl) (fun _ h => by cases h) stampsMakes_row_tie rfl ⟨rfl, rfl⟩ (by kernel_rfl) rfl
    (fun f fn hf hfn => by
      obtain rfl : f = 5 := Option.some.inj ((show Tryd.prog.funcNamed Rows.stampsMakesRow.func = some 5 by kernel_rfl).symm.trans hf) |>.symm
      obtain rfl : fn = Tryd.f5 := (Option.some.inj (Tryd.func5.symm.trans hfn)).symm
      exact ⟨by kernel_rfl, fun j t ht => by
        rw [Tryd.params5] at ht
        have hm : t ∈ ([22, 3] : List TypeId) := by simpa using Array.mem_of_getElem? ht
        have hall : (([22, 3] : List TypeId).all fun u => !Tryd.prog.wantsStandIn u) = true := by kernel_rfl
        exact (show Tryd.prog.wantsStandIn t = false by simpa using List.all_eq_true.1 hall t hm)⟩)
    (by kernel_rfl)

end Go.Proofs.YthhkgdknmehaoaaDoor.lawStampsMakes
