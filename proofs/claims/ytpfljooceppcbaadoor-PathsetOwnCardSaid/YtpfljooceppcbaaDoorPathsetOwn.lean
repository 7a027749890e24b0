/- Lists that a set answers are the caller's own; for any entries and entry. -/
import Derived.Deep.DeepCutAuto
import Derived.Test.YtpfljooceppcbaaDoorRows
import Derived.Test.YtpfljooceppcbaaDoorPsInst
import Derived.Test.YtpfljooceppcbaaDoorPsL5
import Derived.Test.YtpfljooceppcbaaDoorPsOwn
import Derived.Test.YtpfljooceppcbaaDoorLawLaid
import Derived.Test.YtpfljooceppcbaaDoorCards
import Derived.Test.YtpfljooceppcbaaDoorTie
import Derived.SevenTiedAt
import Derived.JoinedCond
import Derived.OpenShut
import Derived.ChangeMaps5
namespace Go.Proofs.YtpfljooceppcbaaDoor.lawPathsetOwn
open Go Go.RowKit Go.ChangeShapes Go.WideShapes Go.ChangeAt
open Go.ChangeMaps (open_string)
set_option linter.unusedVariables false
set_option linter.unusedSimpArgs false
set_option maxRecDepth 100000
theorem max_of {W : World} (h : W.ShapedOpen Tryd.prog) : HasMax W := by
  obtain ⟨m, hm⟩ := Tryd.laysM146.s1_3 W h
  exact ⟨World.block_lt_of_cell? W _ hm, m, hm⟩

theorem own : ownKnob Tryd.prog.godebug = none := by kernel_rfl
theorem laidOut : laidOutB Tryd.prog = true := by kernel_rfl
theorem lifted (os : Os) (started : os.Started) (H : Type) (enc : TypeId × Value → H) (F : Stop.Interp) :
    ReturnsInHanded {} Tryd.checked os 4 .any ((OpenSpec.ofChange Rows.pathsetOwnSpec).preRow enc Tryd.prog Tryd.f4 Rows.pathsetOwnRow.domain false Rows.pathsetOwnRow.laid) (((OpenSpec.ofChange Rows.pathsetOwnSpec).at F).post enc Tryd.prog Tryd.f4 false true false false) := by
  refine LK.lifted_row (C := Tryd.checked) (s := (OpenSpec.ofChange Rows.pathsetOwnSpec)) (F := F) (s0 := Rows.pathsetOwnSpec) (tb := 4) (laid := Rows.pathsetOwnRow.laid) rfl own started (by kernel_rfl) Tryd.func4 laidOut rfl rfl rfl rfl (by kernel_rfl) (by kernel_rfl) Tryd.underlying4
    (fun ds h => by
      match ds, h with
      | [_, _], _ => rfl)
    (World.laidAll Tryd.prog os Rows.pathsetOwnRow.laid) #[.slice none 0 0, .string ByteArray.empty] 8 (x := ([.nil, .lit (.string [])], [], [])) (World.laidAll_os _ _ _) (World.shaped_of_ZipB (by kernel_rfl) (by kernel_rfl)) (by kernel_rfl) (by kernel_rfl) (fun k hk => by cases hk) (by kernel_rfl)
    (by rw [MakeChecks.laidMetH_plain _ _ _ (by kernel_rfl)]; exact laidMet_laidAll _ (by kernel_rfl) (by kernel_rfl)) ?_
  intro W base args ds ps hval hA hwt hk hsh hlaid
  rw [show Tryd.f4.params.toList = [22, 9] by kernel_rfl] at hA hwt
  have hval' : ∀ (j : Nat) t v, (#[22, 9] : Array TypeId)[j]? = some t → args[j]? = some v → Value.okWide Tryd.prog W .any base t v := by
    rw [← Tryd.params4]; exact hval
  clear hval
  obtain ⟨v0, v1, d0, d1, p0, p1, rfl, rfl, rfl, h0, h1⟩ := trodAll_two hA
  obtain ⟨A0, c0, l0, rfl, hI0, hc0, hm0, hf0⟩ := open_ents (hval' 0 22 v0 rfl rfl) h0 hwt (j := 0) rfl rfl
  obtain ⟨s1, rfl, rfl, hs1, _⟩ := open_string Tryd.underlying9 (hval' 1 9 v1 rfl rfl) h1
  have hq1 : s1.size ≤ 140737488351232 := sized_string hwt (j := 1) rfl rfl
  exact ahead.own_walk theSets A0 c0 l0 s1 W (max_of hsh) hI0 hc0 hm0 hf0 hq1

theorem over : Rows.pathsetOwnRow.holds Tryd.pinned (OpenSpec.ofChange Rows.pathsetOwnSpec) :=
  OpenClaim.holds_of_cond 4 Tryd.f4 rfl rfl rfl rfl rfl rfl rfl ⟨rfl, rfl, rfl, rfl, rfl⟩ rfl rfl rfl rfl rfl (by kernel_rfl) Tryd.func4 (by kernel_rfl)
    (of_decide_eq_true (by kernel_rfl)) (by unfold Func.isWrapper; first | (rw [if_pos (by decide +kernel)]; kernel_rfl) | (rw [if_neg (by decide +kernel)]; exact ⟨rfl, rfl⟩))
    (fun os started H enc _ F => by rw [OpenClaim.pre_eq_preRow]; exact lifted os started H enc F)

/-- The statement. -/
theorem proved : Rows.PathsetOwnCardSaid :=
  Claim7.holds_tied_plain_at .later [] Rows.pathsetOwnCard.laidKinds true Rows.pathsetOwnCard.stood.harness Rows.pathsetOwnCard.stood.looks
    over (fun _ h => by cases h) (by kernel_rfl) (fun _ h => by cases h) pathsetOwn_row_tie rfl ⟨rfl, rfl⟩ (by kernel_rfl) rfl
    (fun f fn hf hfn => by
      obtain rfl : f = 4 := Option.some.inj ((show Tryd.prog.funcNamed Rows.pathsetOwnRow.func = some 4 by kernel_rfl).symm.trans hf) |>.symm
      obtain rfl : fn = Tryd.f4 := (Option.some.inj (Tryd.func4.symm.trans hfn)).symm
      exact ⟨by kernel_rfl, fun j t ht => by
        rw [Tryd.params4] at ht
        have hm : t ∈ ([22, 9] : List TypeId) := by simpa using Array.mem_of_getElem? ht
        have hall : (([22, 9] : List TypeId).all fun u => !Tryd.prog.wantsStandIn u) = true := by kernel_rfl
        exact (show Tryd.prog.wantsStandIn t = false by simpa using List.all_eq_true.1 hall t hm)⟩)
    (by kernel_rfl)

end Go.Proofs.YtpfljooceppcbaaDoor.lawPathsetOwn
