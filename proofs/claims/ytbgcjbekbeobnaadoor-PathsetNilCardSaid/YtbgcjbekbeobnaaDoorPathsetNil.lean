/- A nil set refuses every entry and has none; for any entry. -/
import Derived.Deep.DeepCutAuto
import Derived.Test.YtbgcjbekbeobnaaDoorRows
import Derived.Test.YtbgcjbekbeobnaaDoorPsInst
import Derived.Test.YtbgcjbekbeobnaaDoorPsL5
import Derived.Test.YtbgcjbekbeobnaaDoorPsNil
import Derived.Test.YtbgcjbekbeobnaaDoorLawLaid
import Derived.Test.YtbgcjbekbeobnaaDoorCards
import Derived.Test.YtbgcjbekbeobnaaDoorTie
import Derived.SevenTiedAt
import Derived.JoinedCond
import Derived.OpenShut
import Derived.ChangeMaps5
namespace Go.Proofs.YtbgcjbekbeobnaaDoor.lawPathsetNil
open Go Go.RowKit Go.ChangeShapes Go.WideShapes Go.ChangeAt
open Go.ChangeMaps (open_string)
set_option linter.unusedVariables false
set_option linter.unusedSimpArgs false
set_option maxRecDepth 100000
theorem max_of {W : World} (h : W.ShapedOpen Tryd.prog) : HasMax W := by
  obtain ⟨m, hm⟩ := Tryd.laysM146.s1_3 W h
  exact ⟨World.block_lt_of_cell? W _ hm, m, hm⟩

theorem own : ownKnob Tryd.prog.godebug = none := by kernel_rfl
theorem laidOut : laidOutB Tryd.prog = true := by kernel_rfl
theorem lifted (os : Os) (started : os.Started) (H : Type) (enc : TypeId × Value → H) (F : Stop.Interp) :
    ReturnsInHanded {} Tryd.checked os 7 .any ((OpenSpec.ofChange Rows.pathsetNilSpec).preRow enc Tryd.prog Tryd.f7 Rows.pathsetNilRow.domain false Rows.pathsetNilRow.laid) (((OpenSpec.ofChange Rows.pathsetNilSpec).at F).post enc Tryd.prog Tryd.f7 false true false false) := by
  refine LK.lifted_row (C := Tryd.checked) (s := (OpenSpec.ofChange Rows.pathsetNilSpec)) (F := F) (s0 := Rows.pathsetNilSpec) (tb := 4) (laid := Rows.pathsetNilRow.laid) rfl own started (by kernel_rfl) Tryd.func7 laidOut rfl rfl rfl rfl (by kernel_rfl) (by kernel_rfl) Tryd.underlying4
    (fun ds h => by
      match ds, h with
      | [_], _ => rfl)
    (World.laidAll Tryd.prog os Rows.pathsetNilRow.laid) #[.agg #[.int .i64 0, .string ByteArray.empty, .int .i64 0, .int .i64 0]] 8 (x := ([.agg [.lit (.int .i64 0), .lit (.string []), .lit (.int .i64 0), .lit (.int .i64 0)]], [], [])) (World.laidAll_os _ _ _) (World.shaped_of_ZipB (by kernel_rfl) (by kernel_rfl)) (by kernel_rfl) (by kernel_rfl) (fun k hk => by cases hk) (by kernel_rfl)
    (by rw [MakeChecks.laidMetH_plain _ _ _ (by kernel_rfl)]; exact laidMet_laidAll _ (by kernel_rfl) (by kernel_rfl)) ?_
  intro W base args ds ps hval hA hwt hk hsh hlaid
  rw [show Tryd.f7.params.toList = [29] by kernel_rfl] at hA hwt
  have hval' : ∀ (j : Nat) t v, (#[29] : Array TypeId)[j]? = some t → args[j]? = some v → Value.okWide Tryd.prog W .any base t v := by
    rw [← Tryd.params7]; exact hval
  clear hval
  obtain ⟨v0, d0, rfl, rfl, h0⟩ := trodAll_one hA
  obtain ⟨x0, rfl, hf0⟩ := open_ent (hval' 0 29 v0 rfl rfl) h0 hwt (j := 0) rfl rfl
  exact ahead.nil_walk theSets x0 W (max_of hsh) hf0

theorem over : Rows.pathsetNilRow.holds Tryd.pinned (OpenSpec.ofChange Rows.pathsetNilSpec) :=
  OpenClaim.holds_of_cond 7 Tryd.f7 rfl rfl rfl rfl rfl rfl rfl ⟨rfl, rfl, rfl, rfl, rfl⟩ rfl rfl rfl rfl rfl (by kernel_rfl) Tryd.func7 (by kernel_rfl)
    (of_decide_eq_true (by kernel_rfl)) (by unfold Func.isWrapper; first | (rw [if_pos (by decide +kernel)]; kernel_rfl) | (rw [if_neg (by decide +kernel)]; exact ⟨rfl, rfl⟩))
    (fun os started H enc _ F => by rw [OpenClaim.pre_eq_preRow]; exact lifted os started H enc F)

/-- The statement. -/
theorem proved : Rows.PathsetNilCardSaid :=
  Claim7.holds_tied_plain_at .later [] Rows.pathsetNilCard.laidKinds true Rows.pathsetNilCard.stood.harness Rows.pathsetNilCard.stood.looks
    over (fun _ h => by cases h) (by kernel_rfl) (fun _ h => by cases h) pathsetNil_row_tie rfl ⟨rfl, rfl⟩ (by kernel_rfl) rfl
    (fun f fn hf hfn => by
      obtain rfl : f = 7 := Option.some.inj ((show Tryd.prog.funcNamed Rows.pathsetNilRow.func = some 7 by kernel_rfl).symm.trans hf) |>.symm
      obtain rfl : fn = Tryd.f7 := (Option.some.inj (Tryd.func7.symm.trans hfn)).symm
      exact ⟨by kernel_rfl, fun j t ht => by
        rw [Tryd.params7] at ht
        have hm : t ∈ ([29] : List TypeId) := by simpa using Array.mem_of_getElem? ht
        have hall : (([29] : List TypeId).all fun u => !Tryd.prog.wantsStandIn u) = true := by kernel_rfl
        exact (show Tryd.prog.wantsStandIn t = false by simpa using List.all_eq_true.1 hall t hm)⟩)
    (by kernel_rfl)

end Go.Proofs.YtbgcjbekbeobnaaDoor.lawPathsetNil
