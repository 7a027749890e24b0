/- Valid, Compare, Under and Later answer what the document says; for any two lists. -/
import Derived.Deep.DeepCutAuto
import Derived.Test.YthhkgdknmehaoaaDoorRows
import Derived.Test.YthhkgdknmehaoaaDoorStampsW9
import Derived.Test.YthhkgdknmehaoaaDoorStampsMath2
import Derived.Test.YthhkgdknmehaoaaDoorLawLaid
import Derived.Test.YthhkgdknmehaoaaDoorBulk
import Derived.Test.YthhkgdknmehaoaaDoorCards
import Derived.Test.YthhkgdknmehaoaaDoorTie
import Derived.SevenTiedAt
import Derived.JoinedCond
import Derived.OpenShut
import Derived.ChangeMaps5
namespace Go.Proofs.YthhkgdknmehaoaaDoor.lawStampsPairs
open Go Go.RowKit Go.ChangeShapes Go.WideShapes Go.ChangeAt
open Go.ChangeMaps (open_string)
set_option linter.unusedVariables false
set_option linter.unusedSimpArgs false
set_option maxRecDepth 100000
set_option maxRecDepth 100000 in
set_option maxHeartbeats 4000000 in
theorem walk (Aa : Option Addr) (na ca : Nat) (a : List Int) (Ab : Option Addr) (nb cb : Nat) (b : List Int) (w : World) (Ha : Lst w Aa na ca a) (Hb : Lst w Ab nb cb b) (hT : Tabs w) :
    Calls Tryd.prog 4 #[.slice Aa na ca, .slice Ab nb cb] w (LK.True_ w) := by
  have HT := Lib.hid hT; clear hT
  have Ha := Lib.hid Ha
  have Hb := Lib.hid Hb
  have HB := Lib.hid (Below.refl w.heap.size w)
  go_enter Tryd.func4, Tryd.ntmps4
  go_wp2_with fail
  refine (awake_any _ (HT.out.below HB.out)).mono ?_
  rintro x9 w1 ⟨rfl, hb⟩
  have Ha := Lib.hid (Ha.out.below hb)
  have Hb := Lib.hid (Hb.out.below hb)
  have HB := Lib.hid (below_on HB.out hb)
  clear hb
  go_wp2_with fail
  refine (own_in Ha.out).mono ?_
  rintro x9 w2 ⟨AP, nP, cP, rfl, hl, hb⟩
  have Ha := Lib.hid (Ha.out.below hb)
  have Hb := Lib.hid (Hb.out.below hb)
  have HB := Lib.hid (below_on HB.out hb)
  have HP := Lib.hid hl
  clear hl
  clear hb
  go_wp2_with fail
  refine (Valid_in HP.out).mono ?_
  rintro x9 w3 ⟨rfl, hb⟩
  have Ha := Lib.hid (Ha.out.below hb)
  have Hb := Lib.hid (Hb.out.below hb)
  have HP := Lib.hid (HP.out.below hb)
  have HB := Lib.hid (below_on HB.out hb)
  clear hb
  go_wp2_with fail
  refine (RefValid_in Ha.out).mono ?_
  rintro x9 w4 ⟨rfl, rfl⟩
  go_wp2_with fail
  refine (own_in Ha.out).mono ?_
  rintro x9 w4 ⟨AP, nP, cP, rfl, hl, hb⟩
  have Ha := Lib.hid (Ha.out.below hb)
  have Hb := Lib.hid (Hb.out.below hb)
  have HB := Lib.hid (below_on HB.out hb)
  have HP := Lib.hid hl
  clear hl
  clear hb
  go_wp2_with fail
  refine (own_in Hb.out).mono ?_
  rintro x9 w5 ⟨AQ, nQ, cQ, rfl, hl, hb⟩
  have Ha := Lib.hid (Ha.out.below hb)
  have Hb := Lib.hid (Hb.out.below hb)
  have HP := Lib.hid (HP.out.below hb)
  have HB := Lib.hid (below_on HB.out hb)
  have HQ := Lib.hid hl
  clear hl
  clear hb
  go_wp2_with fail
  refine (Compare_in HP.out HQ.out).mono ?_
  rintro x9 w6 ⟨rfl, hb⟩
  have Ha := Lib.hid (Ha.out.below hb)
  have Hb := Lib.hid (Hb.out.below hb)
  have HP := Lib.hid (HP.out.below hb)
  have HQ := Lib.hid (HQ.out.below hb)
  have HB := Lib.hid (below_on HB.out hb)
  clear hb
  go_wp2_with fail
  refine (RefCompare_in Ha.out Hb.out).mono ?_
  rintro x9 w7 ⟨rfl, hb⟩
  have Ha := Lib.hid (Ha.out.below hb)
  have Hb := Lib.hid (Hb.out.below hb)
  have HB := Lib.hid (below_on HB.out hb)
  clear hb
  go_wp2_with fail
  refine (own_in Ha.out).mono ?_
  rintro x9 w8 ⟨AP, nP, cP, rfl, hl, hb⟩
  have Ha := Lib.hid (Ha.out.below hb)
  have Hb := Lib.hid (Hb.out.below hb)
  have HB := Lib.hid (below_on HB.out hb)
  have HP := Lib.hid hl
  clear hl
  clear hb
  go_wp2_with fail
  refine (own_in Hb.out).mono ?_
  rintro x9 w9 ⟨AQ, nQ, cQ, rfl, hl, hb⟩
  have Ha := Lib.hid (Ha.out.below hb)
  have Hb := Lib.hid (Hb.out.below hb)
  have HP := Lib.hid (HP.out.below hb)
  have HB := Lib.hid (below_on HB.out hb)
  have HQ := Lib.hid hl
  clear hl
  clear hb
  go_wp2_with fail
  refine (Under_in HP.out HQ.out).mono ?_
  rintro x9 w10 ⟨rfl, hb⟩
  have Ha := Lib.hid (Ha.out.below hb)
  have Hb := Lib.hid (Hb.out.below hb)
  have HP := Lib.hid (HP.out.below hb)
  have HQ := Lib.hid (HQ.out.below hb)
  have HB := Lib.hid (below_on HB.out hb)
  clear hb
  go_wp2_with fail
  refine (RefUnder_in Ha.out Hb.out).mono ?_
  rintro x9 w11 ⟨rfl, hb⟩
  have Ha := Lib.hid (Ha.out.below hb)
  have Hb := Lib.hid (Hb.out.below hb)
  have HB := Lib.hid (below_on HB.out hb)
  clear hb
  go_wp2_with fail
  refine (own_in Ha.out).mono ?_
  rintro x9 w12 ⟨AP, nP, cP, rfl, hl, hb⟩
  have Ha := Lib.hid (Ha.out.below hb)
  have Hb := Lib.hid (Hb.out.below hb)
  have HB := Lib.hid (below_on HB.out hb)
  have HP := Lib.hid hl
  clear hl
  clear hb
  go_wp2_with fail
  refine (own_in Hb.out).mono ?_
  rintro x9 w13 ⟨AQ, nQ, cQ, rfl, hl, hb⟩
  have Ha := Lib.hid (Ha.out.below hb)
  have Hb := Lib.hid (Hb.out.below hb)
  have HP := Lib.hid (HP.out.below hb)
  have HB := Lib.hid (below_on HB.out hb)
  have HQ := Lib.hid hl
  clear hl
  clear hb
  go_wp2_with fail
  refine (Later_in HP.out HQ.out).mono ?_
  rintro x9 w14 ⟨AR, nR, cR, rfl, hl, hb⟩
  have Ha := Lib.hid (Ha.out.below hb)
  have Hb := Lib.hid (Hb.out.below hb)
  have HP := Lib.hid (HP.out.below hb)
  have HQ := Lib.hid (HQ.out.below hb)
  have HB := Lib.hid (below_on HB.out hb)
  have HR := Lib.hid hl
  clear hl
  clear hb
  go_wp2_with fail
  refine (RefLater_in Ha.out Hb.out).mono ?_
  rintro x9 w15 ⟨AS, nS, cS, rfl, hl, hb⟩
  have Ha := Lib.hid (Ha.out.below hb)
  have Hb := Lib.hid (Hb.out.below hb)
  have HR := Lib.hid (HR.out.below hb)
  have HB := Lib.hid (below_on HB.out hb)
  have HS := Lib.hid hl
  clear hl
  clear hb
  go_wp2_with fail
  refine (same_c HR.out HS.out).mono ?_
  rintro x9 w16 ⟨rfl, hb⟩
  have Ha := Lib.hid (Ha.out.below hb)
  have Hb := Lib.hid (Hb.out.below hb)
  have HR := Lib.hid (HR.out.below hb)
  have HS := Lib.hid (HS.out.below hb)
  have HB := Lib.hid (below_on HB.out hb)
  clear hb
  go_wp2_with fail
  go_ret
  exact ⟨rfl, HB.out⟩

theorem own : ownKnob Tryd.prog.godebug = none := by kernel_rfl
theorem laidOut : laidOutB Tryd.prog = true := by kernel_rfl
theorem lifted (os : Os) (started : os.Started) (H : Type) (enc : TypeId × Value → H) (F : Stop.Interp) :
    ReturnsInHanded {} Tryd.checked os 4 .any ((OpenSpec.ofChange Rows.stampsPairsSpec).preRow enc Tryd.prog Tryd.f4 Rows.stampsPairsRow.domain false Rows.stampsPairsRow.laid) (((OpenSpec.ofChange Rows.stampsPairsSpec).at F).post enc Tryd.prog Tryd.f4 false true false false) := by
  refine LK.lifted_row (C := Tryd.checked) (s := (OpenSpec.ofChange Rows.stampsPairsSpec)) (F := F) (s0 := Rows.stampsPairsSpec) (tb := 4) (laid := Rows.stampsPairsRow.laid) rfl own started (by kernel_rfl) Tryd.func4 laidOut rfl rfl rfl rfl (by kernel_rfl) (by kernel_rfl) Tryd.underlying4
    (fun ds h => by
      match ds, h with
      | [_, _], _ => rfl)
    (World.laidAll Tryd.prog os Rows.stampsPairsRow.laid) #[.slice none 0 0, .slice none 0 0] 8 (x := ([.nil, .nil], [], [])) (World.laidAll_os _ _ _) (World.shaped_of_ZipB (by kernel_rfl) (by kernel_rfl)) (by kernel_rfl) (by kernel_rfl) (fun k hk => by cases hk) (by kernel_rfl)
    (by rw [MakeChecks.laidMetH_plain _ _ _ (by kernel_rfl)]; exact laidMet_laidAll _ (by kernel_rfl) (by kernel_rfl)) ?_
  intro W base args ds ps hval hA hwt hk hsh hlaid
  rw [show Tryd.f4.params.toList = [22, 22] by kernel_rfl] at hA hwt
  have hval' : ∀ (j : Nat) t v, (#[22, 22] : Array TypeId)[j]? = some t → args[j]? = some v → Value.okWide Tryd.prog W .any base t v := by
    rw [← Tryd.params4]; exact hval
  clear hval
  obtain ⟨v0, v1, d0, d1, p0, p1, rfl, rfl, rfl, h0, h1⟩ := trodAll_two hA
  obtain ⟨A0, c0, l0, rfl, hI0, hc0, hm0, hr0⟩ := open_nums (hval' 0 22 v0 rfl rfl) h0 hwt (j := 0) rfl rfl
  obtain ⟨A1, c1, l1, rfl, hI1, hc1, hm1, hr1⟩ := open_nums (hval' 1 22 v1 rfl rfl) h1 hwt (j := 1) rfl rfl
  exact walk A0 l0.length c0 l0 A1 l1.length c1 l1 W ⟨rfl, hI0, hc0, by omega, by omega, hr0⟩ ⟨rfl, hI1, hc1, by omega, by omega, hr1⟩ (tabs_of hsh hlaid)

theorem over : Rows.stampsPairsRow.holds Tryd.pinned (OpenSpec.ofChange Rows.stampsPairsSpec) :=
  OpenClaim.holds_of_cond 4 Tryd.f4 rfl rfl rfl rfl rfl rfl rfl ⟨rfl, rfl, rfl, rfl, rfl⟩ rfl rfl rfl rfl rfl (by kernel_rfl) Tryd.func4 (by kernel_rfl)
    (of_decide_eq_true (by kernel_rfl)) (by unfold Func.isWrapper; first | (rw [if_pos (by decide +kernel)]; kernel_rfl) | (rw [if_neg (by decide +kernel)]; exact ⟨rfl, rfl⟩))
    (fun os started H enc _ F => by rw [OpenClaim.pre_eq_preRow]; exact lifted os started H enc F)

/-- The statement. -/
theorem proved : Rows.StampsPairsCardSaid :=
  Claim7.holds_tied_plain_at .later [] Rows.stampsPairsCard.laidKinds true Rows.stampsPairsCard.stood.harness Rows.stampsPairsCard.stood.looks
    over (fun _ h => by cases h) (by kernel_rfl) (fun _ h => by cases h) stampsPairs_row_tie rfl ⟨rfl, rfl⟩ (by kernel_rfl) rfl
    (fun f fn hf hfn => by
      obtain rfl : f = 4 := Option.some.inj ((show Tryd.prog.funcNamed Rows.stampsPairsRow.func = some 4 by kernel_rfl).symm.trans hf) |>.symm
      obtain rfl : fn = Tryd.f4 := (Option.some.inj (Tryd.func4.symm.trans hfn)).symm
      exact ⟨by kernel_rfl, fun j t ht => by
        rw [Tryd.params4] at ht
        have hm : t ∈ ([22, 22] : List TypeId) := by simpa using Array.mem_of_getElem? ht
        have hall : (([22, 22] : List TypeId).all fun u => !Tryd.prog.wantsStandIn u) = true := by kernel_rfl
        exact (show Tryd.prog.wantsStandIn t = false by simpa using List.all_eq_true.1 hall t hm)⟩)
    (by kernel_rfl)

end Go.Proofs.YthhkgdknmehaoaaDoor.lawStampsPairs
