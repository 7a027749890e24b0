/- Every call on a set answers what the document says; for any list of calls. -/
import Derived.Deep.DeepCutAuto
import Derived.Test.YtbgcjbekbeobnaaGreatDoorRows
import Derived.Test.YtbgcjbekbeobnaaGreatDoorPsInst
import Derived.Test.YtbgcjbekbeobnaaGreatDoorPsL5
import Derived.Test.YtbgcjbekbeobnaaGreatDoorPsPlays
import Derived.Test.YtbgcjbekbeobnaaGreatDoorLawLaid
import Derived.Test.YtbgcjbekbeobnaaGreatDoorCards
import Derived.Test.YtbgcjbekbeobnaaGreatDoorTie
import Derived.SevenTiedAt
import Derived.JoinedCond
import Derived.OpenShut
import Derived.ChangeMaps5
namespace Go.Proofs.YtbgcjbekbeobnaaGreatDoor.lawPathsetPlays
open Go Go.RowKit Go.ChangeShapes Go.WideShapes Go.ChangeAt
open Go.ChangeMaps (open_string)
set_option linter.unusedVariables false
set_option linter.unusedSimpArgs false
set_option maxRecDepth 100000
theorem max_of {W : World} (h : W.ShapedOpen Tryz.prog) : HasMax W := by
  obtain ⟨m, hm⟩ := Tryz.laysM146.s1_3 W h
  exact ⟨World.block_lt_of_cell? W _ hm, m, hm⟩

theorem own : ownKnob Tryz.prog.godebug = none := by kernel_rfl
theorem laidOut : laidOutB Tryz.prog = true := by kernel_rfl
theorem lifted (os : Os) (started : os.Started) (H : Type) (enc : TypeId × Value → H) (F : Stop.Interp) :
    ReturnsInHanded {} Tryz.checked os 3 .any ((OpenSpec.ofChange Rows.pathsetPlaysSpec).preRow enc Tryz.prog Tryz.f3 Rows.pathsetPlaysRow.domain false Rows.pathsetPlaysRow.laid) (((OpenSpec.ofChange Rows.pathsetPlaysSpec).at F).post enc Tryz.prog Tryz.f3 false true false false) := by
  refine LK.lifted_row (C := Tryz.checked) (s := (OpenSpec.ofChange Rows.pathsetPlaysSpec)) (F := F) (s0 := Rows.pathsetPlaysSpec) (tb := 4) (laid := Rows.pathsetPlaysRow.laid) rfl own started (by kernel_rfl) Tryz.func3 laidOut rfl rfl rfl rfl (by kernel_rfl) (by kernel_rfl) Tryz.underlying4
    (fun ds h => by
      match ds, h with
      | [_], _ => rfl)
    (World.laidAll Tryz.prog os Rows.pathsetPlaysRow.laid) #[.slice none 0 0] 8 (x := ([.nil], [], [])) (World.laidAll_os _ _ _) (World.shaped_of_ZipB (by kernel_rfl) (by kernel_rfl)) (by kernel_rfl) (by kernel_rfl) (fun k hk => by cases hk) (by kernel_rfl)
    (by rw [MakeChecks.laidMetH_plain _ _ _ (by kernel_rfl)]; exact laidMet_laidAll _ (by kernel_rfl) (by kernel_rfl)) ?_
  intro W base args ds ps hval hA hwt hk hsh hlaid
  rw [show Tryz.f3.params.toList = [22] by kernel_rfl] at hA hwt
  have hval' : ∀ (j : Nat) t v, (#[22] : Array TypeId)[j]? = some t → args[j]? = some v → Value.okWide Tryz.prog W .any base t v := by
    rw [← Tryz.params3]; exact hval
  clear hval
  obtain ⟨v0, d0, rfl, rfl, h0⟩ := trodAll_one hA
  obtain ⟨A0, c0, l0, rfl, hI0, hc0, hm0, hf0⟩ := open_oprs (hval' 0 22 v0 rfl rfl) h0 hwt (j := 0) rfl rfl
  exact ahead.plays_walk theSets A0 c0 l0 W (max_of hsh) hI0 hc0 hm0 hf0

theorem over : Rows.pathsetPlaysRow.holds Tryz.pinned (OpenSpec.ofChange Rows.pathsetPlaysSpec) :=
  OpenClaim.holds_of_cond 3 Tryz.f3 rfl rfl rfl rfl rfl rfl rfl ⟨rfl, rfl, rfl, rfl, rfl⟩ rfl rfl rfl rfl rfl (by kernel_rfl) Tryz.func3 (by kernel_rfl)
    (of_decide_eq_true (by kernel_rfl)) (by unfold Func.isWrapper; first | (rw [if_pos (by decide +kernel)]; kernel_rfl) | (rw [if_neg (by decide +kernel)]; exact ⟨rfl, rfl⟩))
    (fun os started H enc _ F => by rw [OpenClaim.pre_eq_preRow]; exact lifted os started H enc F)

/-- The statement. -/
theorem proved : Rows.PathsetPlaysCardSaid :=
  Claim7.holds_tied_plain_at .later [] Rows.pathsetPlaysCard.laidKinds true Rows.pathsetPlaysCard.stood.harness Rows.pathsetPlaysCard.stood.looks
    over (fun _ h => by cases h) (by kernel_rfl) (fun _ h => by cases h) pathsetPlays_row_tie rfl ⟨rfl, rfl⟩ (by kernel_rfl) rfl
    (fun f fn hf hfn => by
      obtain rfl : f = 3 := Option.some.inj ((show Tryz.prog.funcNamed Rows.pathsetPlaysRow.func = some 3 by kernel_rfl).symm.trans hf) |>.symm
      obtain rfl : fn = Tryz.f3 := (Option.some.inj (Tryz.func3.symm.trans hfn)).symm
      exact ⟨by kernel_rfl, fun j t ht => by
        rw [Tryz.params3] at ht
        have hm : t ∈ ([22] : List TypeId) := by simpa using Array.mem_of_getElem? ht
        have hall : (([22] : List TypeId).all fun u => !Tryz.prog.wantsStandIn u) = true := by kernel_rfl
        exact (show Tryz.prog.wantsStandIn t = false by simpa using List.all_eq_true.1 hall t hm)⟩)
    (by kernel_rfl)

end Go.Proofs.YtbgcjbekbeobnaaGreatDoor.lawPathsetPlays
