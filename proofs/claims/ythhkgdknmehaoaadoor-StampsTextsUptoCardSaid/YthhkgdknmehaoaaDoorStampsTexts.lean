/- Text and Parse answer what the document says; for any list and text. -/
import Derived.Deep.DeepCutAuto
import Derived.Test.YthhkgdknmehaoaaDoorRows
import Derived.Test.YthhkgdknmehaoaaDoorStampsW9
import Derived.Test.YthhkgdknmehaoaaDoorStampsMath2
import Derived.Test.YthhkgdknmehaoaaDoorLawLaid
import Derived.Test.YthhkgdknmehaoaaDoorBulk
import Derived.Test.YthhkgdknmehaoaaDoorCards
import Derived.Test.YthhkgdknmehaoaaDoorTie
import Derived.SevenTiedAt
import Derived.JoinedCond
import Derived.OpenShut
import Derived.ChangeMaps5
namespace Go.Proofs.YthhkgdknmehaoaaDoor.lawStampsTexts
open Go Go.RowKit Go.ChangeShapes Go.WideShapes Go.ChangeAt
open Go.ChangeMaps (open_string)
set_option linter.unusedVariables false
set_option linter.unusedSimpArgs false
set_option maxRecDepth 100000
set_option maxRecDepth 100000 in
set_option maxHeartbeats 4000000 in
theorem walk (As : Option Addr) (ns cs : Nat) (s : List Int) (t : ByteArray) (w : World) (Hs : Lst w As ns cs s) (ht : t.size ≤ 1048576) (hs8 : s.length ≤ 1048576) (hT : Tabs w) :
    Calls Tryd.prog 6 #[.slice As ns cs, .string t] w (LK.True_ w) := by
  have HT := Lib.hid hT; clear hT
  have Hs := Lib.hid Hs
  have HB := Lib.hid (Below.refl w.heap.size w)
  go_enter Tryd.func6, Tryd.ntmps6
  go_wp2_with fail
  refine (awake_any _ (HT.out.below HB.out)).mono ?_
  rintro x9 w1 ⟨rfl, hb⟩
  have Hs := Lib.hid (Hs.out.below hb)
  have HB := Lib.hid (below_on HB.out hb)
  clear hb
  go_wp2_with fail
  refine (Parse_in (HT.out.below HB.out) t (by omega)).mono ?_
  rintro x9 w2 ⟨AX, nX, cX, rfl, hl, hb⟩
  have Hs := Lib.hid (Hs.out.below hb)
  have HB := Lib.hid (below_on HB.out hb)
  have HX := Lib.hid hl
  clear hl
  clear hb
  go_wp2_with fail
  refine (RefParse_in t (by omega)).mono ?_
  rintro x9 w3 ⟨AY, nY, cY, rfl, hl, hb⟩
  have Hs := Lib.hid (Hs.out.below hb)
  have HX := Lib.hid (HX.out.below hb)
  have HB := Lib.hid (below_on HB.out hb)
  have HY := Lib.hid hl
  clear hl
  clear hb
  go_wp2_with fail
  refine (own_in Hs.out).mono ?_
  rintro x9 w4 ⟨AP, nP, cP, rfl, hl, hb⟩
  have Hs := Lib.hid (Hs.out.below hb)
  have HX := Lib.hid (HX.out.below hb)
  have HY := Lib.hid (HY.out.below hb)
  have HB := Lib.hid (below_on HB.out hb)
  have HP := Lib.hid hl
  clear hl
  clear hb
  go_wp2_with fail
  refine (Text_in (HT.out.below HB.out) hs8 HP.out).mono ?_
  rintro x9 w5 ⟨rfl, hb⟩
  have Hs := Lib.hid (Hs.out.below hb)
  have HX := Lib.hid (HX.out.below hb)
  have HY := Lib.hid (HY.out.below hb)
  have HP := Lib.hid (HP.out.below hb)
  have HB := Lib.hid (below_on HB.out hb)
  clear hb
  go_wp2_with fail
  refine (RefText_in Hs.out).mono ?_
  rintro x9 w6 ⟨rfl, hb⟩
  have Hs := Lib.hid (Hs.out.below hb)
  have HX := Lib.hid (HX.out.below hb)
  have HY := Lib.hid (HY.out.below hb)
  have HP := Lib.hid (HP.out.below hb)
  have HB := Lib.hid (below_on HB.out hb)
  clear hb
  go_wp2_with fail
  refine (same_c HX.out HY.out).mono ?_
  rintro x9 w7 ⟨rfl, hb⟩
  have Hs := Lib.hid (Hs.out.below hb)
  have HX := Lib.hid (HX.out.below hb)
  have HY := Lib.hid (HY.out.below hb)
  have HP := Lib.hid (HP.out.below hb)
  have HB := Lib.hid (below_on HB.out hb)
  clear hb
  go_wp2_with fail
  go_ret
  exact ⟨rfl, HB.out⟩

theorem own : ownKnob Tryd.prog.godebug = none := by kernel_rfl
theorem laidOut : laidOutB Tryd.prog = true := by kernel_rfl
theorem lifted (os : Os) (started : os.Started) (H : Type) (enc : TypeId × Value → H) (F : Stop.Interp) :
    ReturnsInHanded {} Tryd.checked os 6 .any ((Rows.OpenSpec.upto Rows.stampsTextsSpec).preRow enc Tryd.prog Tryd.f6 Rows.stampsTextsUptoRow.domain false Rows.stampsTextsUptoRow.laid) (((Rows.OpenSpec.upto Rows.stampsTextsSpec).at F).post enc Tryd.prog Tryd.f6 false true false false) := by
  refine LK.lifted_row (C := Tryd.checked) (s := (Rows.OpenSpec.upto Rows.stampsTextsSpec)) (F := F) (s0 := Rows.stampsTextsSpec) (tb := 4) (laid := Rows.stampsTextsUptoRow.laid) rfl own started (by kernel_rfl) Tryd.func6 laidOut rfl rfl rfl rfl (by kernel_rfl) (by kernel_rfl) Tryd.underlying4
    (fun ds h => by
      match ds, h with
      | [_, _], _ => rfl)
    (World.laidAll Tryd.prog os Rows.stampsTextsUptoRow.laid) #[.slice none 0 0, .string ByteArray.empty] 8 (x := ([.nil, .lit (.string [])], [], [])) (World.laidAll_os _ _ _) (World.shaped_of_ZipB (by kernel_rfl) (by kernel_rfl)) (by kernel_rfl) (by kernel_rfl) (fun k hk => by cases hk; kernel_rfl) (by kernel_rfl)
    (by rw [MakeChecks.laidMetH_plain _ _ _ (by kernel_rfl)]; exact laidMet_laidAll _ (by kernel_rfl) (by kernel_rfl)) ?_
  intro W base args ds ps hval hA hwt hk hsh hlaid
  rw [show Tryd.f6.params.toList = [22, 9] by kernel_rfl] at hA hwt
  have hval' : ∀ (j : Nat) t v, (#[22, 9] : Array TypeId)[j]? = some t → args[j]? = some v → Value.okWide Tryd.prog W .any base t v := by
    rw [← Tryd.params6]; exact hval
  clear hval
  obtain ⟨v0, v1, d0, d1, p0, p1, rfl, rfl, rfl, h0, h1⟩ := trodAll_two hA
  have hbulk : Rows.uptoBulkAll [d0, d1] ≤ 1048576 := of_decide_eq_true (hk Rows.uptoSmall rfl)
  simp only [Rows.uptoBulkAll] at hbulk
  obtain ⟨A0, c0, l0, rfl, hI0, hc0, hm0, hr0⟩ := open_nums (hval' 0 22 v0 rfl rfl) h0 hwt (j := 0) rfl rfl
  have hb0 := bulk_nums h0
  obtain ⟨s1, rfl, rfl, _, _⟩ := open_string Tryd.underlying9 (hval' 1 9 v1 rfl rfl) h1
  have hs1 : s1.size ≤ 1048576 := by
    have h1 := bulk_text (H := H) s1.data.toList
    rw [Array.length_toList] at h1
    show s1.data.size ≤ _
    omega
  exact walk A0 l0.length c0 l0 s1 W ⟨rfl, hI0, hc0, by omega, by omega, hr0⟩ hs1 (by omega) (tabs_of hsh hlaid)

theorem over : Rows.stampsTextsUptoRow.holds Tryd.pinned (Rows.OpenSpec.upto Rows.stampsTextsSpec) :=
  OpenClaim.holds_of_cond 6 Tryd.f6 rfl rfl rfl rfl rfl rfl rfl ⟨rfl, rfl, rfl, rfl, rfl⟩ rfl rfl rfl rfl rfl (by kernel_rfl) Tryd.func6 (by kernel_rfl)
    (of_decide_eq_true (by kernel_rfl)) (by unfold Func.isWrapper; first | (rw [if_pos (by decide +kernel)]; kernel_rfl) | (rw [if_neg (by decide +kernel)]; exact ⟨rfl, rfl⟩))
    (fun os started H enc _ F => by rw [OpenClaim.pre_eq_preRow]; exact lifted os started H enc F)

/-- The statement. -/
theorem proved : Rows.StampsTextsUptoCardSaid :=
  Claim7.holds_tied_plain_at .later [] Rows.stampsTextsUptoCard.laidKinds true Rows.stampsTextsUptoCard.stood.harness Rows.stampsTextsUptoCard.stood.looks
    over (fun _ h => by cases h) (by kernel_rfl) (fun _ h => by cases h) stampsTextsUpto_row_tie rfl ⟨rfl, rfl⟩ (by kernel_rfl) rfl
    (fun f fn hf hfn => by
      obtain rfl : f = 6 := Option.some.inj ((show Tryd.prog.funcNamed Rows.stampsTextsUptoRow.func = some 6 by kernel_rfl).symm.trans hf) |>.symm
      obtain rfl : fn = Tryd.f6 := (Option.some.inj (Tryd.func6.symm.trans hfn)).symm
      exact ⟨by kernel_rfl, fun j t ht => by
        rw [Tryd.params6] at ht
        have hm : t ∈ ([22, 9] : List TypeId) := by simpa using Array.mem_of_getElem? ht
        have hall : (([22, 9] : List TypeId).all fun u => !Tryd.prog.wantsStandIn u) = true := by kernel_rfl
        exact (show Tryd.prog.wantsStandIn t = false by simpa using List.all_eq_true.1 hall t hm)⟩)
    (by kernel_rfl)

end Go.Proofs.YthhkgdknmehaoaaDoor.lawStampsTexts
