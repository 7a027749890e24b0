/- What was put and is dropped leaves no trace; for any entries, entry and number. -/
import Derived.Deep.DeepCutAuto
import Derived.Test.YtfgilhcjfpfjbaaDoorRows
import Derived.Test.YtfgilhcjfpfjbaaDoorPsInst
import Derived.Test.YtfgilhcjfpfjbaaDoorPsL5
import Derived.Test.YtfgilhcjfpfjbaaDoorPsTurned
import Derived.Test.YtfgilhcjfpfjbaaDoorLawLaid
import Derived.Test.YtfgilhcjfpfjbaaDoorCards
import Derived.Test.YtfgilhcjfpfjbaaDoorTie
import Derived.SevenTiedAt
import Derived.JoinedCond
import Derived.OpenShut
import Derived.ChangeMaps5
namespace Go.Proofs.YtfgilhcjfpfjbaaDoor.lawPathsetTurned
open Go Go.RowKit Go.ChangeShapes Go.WideShapes Go.ChangeAt
open Go.ChangeMaps (open_string)
set_option linter.unusedVariables false
set_option linter.unusedSimpArgs false
set_option maxRecDepth 100000
theorem max_of {W : World} (h : W.ShapedOpen Tryd.prog) : HasMax W := by
  obtain ⟨m, hm⟩ := Tryd.laysM146.s1_3 W h
  exact ⟨World.block_lt_of_cell? W _ hm, m, hm⟩

theorem own : ownKnob Tryd.prog.godebug = none := by kernel_rfl
theorem laidOut : laidOutB Tryd.prog = true := by kernel_rfl
theorem lifted (os : Os) (started : os.Started) (H : Type) (enc : TypeId × Value → H) (F : Stop.Interp) :
    ReturnsInHanded {} Tryd.checked os 3 .any ((OpenSpec.ofChange Rows.pathsetTurnedSpec).preRow enc Tryd.prog Tryd.f3 Rows.pathsetTurnedRow.domain false Rows.pathsetTurnedRow.laid) (((OpenSpec.ofChange Rows.pathsetTurnedSpec).at F).post enc Tryd.prog Tryd.f3 false true false false) := by
  refine LK.lifted_row (C := Tryd.checked) (s := (OpenSpec.ofChange Rows.pathsetTurnedSpec)) (F := F) (s0 := Rows.pathsetTurnedSpec) (tb := 4) (laid := Rows.pathsetTurnedRow.laid) rfl own started (by kernel_rfl) Tryd.func3 laidOut rfl rfl rfl rfl (by kernel_rfl) (by kernel_rfl) Tryd.underlying4
    (fun ds h => by
      match ds, h with
      | [_, _, _], _ => rfl)
    (World.laidAll Tryd.prog os Rows.pathsetTurnedRow.laid) #[.slice none 0 0, .agg #[.int .i64 0, .string ByteArray.empty, .int .i64 0, .int .i64 0], .agg #[.int .i64 0, .string ByteArray.empty, .int .i64 0, .int .i64 0]] 8 (x := ([.nil, .agg [.lit (.int .i64 0), .lit (.string []), .lit (.int .i64 0), .lit (.int .i64 0)], .agg [.lit (.int .i64 0), .lit (.string []), .lit (.int .i64 0), .lit (.int .i64 0)]], [], [])) (World.laidAll_os _ _ _) (World.shaped_of_ZipB (by kernel_rfl) (by kernel_rfl)) (by kernel_rfl) (by kernel_rfl) (fun k hk => by cases hk) (by kernel_rfl)
    (by rw [MakeChecks.laidMetH_plain _ _ _ (by kernel_rfl)]; exact laidMet_laidAll _ (by kernel_rfl) (by kernel_rfl)) ?_
  intro W base args ds ps hval hA hwt hk hsh hlaid
  rw [show Tryd.f3.params.toList = [22, 25, 25] by kernel_rfl] at hA hwt
  have hval' : ∀ (j : Nat) t v, (#[22, 25, 25] : Array TypeId)[j]? = some t → args[j]? = some v → Value.okWide Tryd.prog W .any base t v := by
    rw [← Tryd.params3]; exact hval
  clear hval
  obtain ⟨v0, v1, v2, d0, d1, d2, p0, p1, p2, rfl, rfl, rfl, h0, h1, h2⟩ := trodAll_three hA
  obtain ⟨A0, c0, l0, rfl, hI0, hc0, hm0, hf0⟩ := open_ents (hval' 0 22 v0 rfl rfl) h0 hwt (j := 0) rfl rfl
  obtain ⟨x1, rfl, hf1⟩ := open_ent (hval' 1 25 v1 rfl rfl) h1 hwt (j := 1) rfl rfl
  obtain ⟨x2, rfl, hf2⟩ := open_ent (hval' 2 25 v2 rfl rfl) h2 hwt (j := 2) rfl rfl
  exact ahead.turned_walk theSets A0 c0 l0 x1 x2 W (max_of hsh) hI0 hc0 hm0 hf0 hf1 hf2

theorem over : Rows.pathsetTurnedRow.holds Tryd.pinned (OpenSpec.ofChange Rows.pathsetTurnedSpec) :=
  OpenClaim.holds_of_cond 3 Tryd.f3 rfl rfl rfl rfl rfl rfl rfl ⟨rfl, rfl, rfl, rfl, rfl⟩ rfl rfl rfl rfl rfl (by kernel_rfl) Tryd.func3 (by kernel_rfl)
    (of_decide_eq_true (by kernel_rfl)) (by unfold Func.isWrapper; first | (rw [if_pos (by decide +kernel)]; kernel_rfl) | (rw [if_neg (by decide +kernel)]; exact ⟨rfl, rfl⟩))
    (fun os started H enc _ F => by rw [OpenClaim.pre_eq_preRow]; exact lifted os started H enc F)

/-- The statement. -/
theorem proved : Rows.PathsetTurnedCardSaid :=
  Claim7.holds_tied_plain_at .later [] Rows.pathsetTurnedCard.laidKinds true Rows.pathsetTurnedCard.stood.harness Rows.pathsetTurnedCard.stood.looks
    over (fun _ h => by cases h) (by kernel_rfl) (fun _ h => by cases h) pathsetTurned_row_tie rfl ⟨rfl, rfl⟩ (by kernel_rfl) rfl
    (fun f fn hf hfn => by
      obtain rfl : f = 3 := Option.some.inj ((show Tryd.prog.funcNamed Rows.pathsetTurnedRow.func = some 3 by kernel_rfl).symm.trans hf) |>.symm
      obtain rfl : fn = Tryd.f3 := (Option.some.inj (Tryd.func3.symm.trans hfn)).symm
      exact ⟨by kernel_rfl, fun j t ht => by
        rw [Tryd.params3] at ht
        have hm : t ∈ ([22, 25, 25] : List TypeId) := by simpa using Array.mem_of_getElem? ht
        have hall : (([22, 25, 25] : List TypeId).all fun u => !Tryd.prog.wantsStandIn u) = true := by kernel_rfl
        exact (show Tryd.prog.wantsStandIn t = false by simpa using List.all_eq_true.1 hall t hm)⟩)
    (by kernel_rfl)

end Go.Proofs.YtfgilhcjfpfjbaaDoor.lawPathsetTurned
