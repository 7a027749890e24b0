/- No two entries of a set stand against each other if each was asked for first; for any entries and entry. -/
import Derived.Deep.DeepCutAuto
import Derived.Test.YtbgcjbekbeobnaaDoorRows
import Derived.Test.YtbgcjbekbeobnaaDoorPsInst
import Derived.Test.YtbgcjbekbeobnaaDoorPsL5
import Derived.Test.YtbgcjbekbeobnaaDoorPsFree
import Derived.Test.YtbgcjbekbeobnaaDoorLawLaid
import Derived.Test.YtbgcjbekbeobnaaDoorCards
import Derived.Test.YtbgcjbekbeobnaaDoorTie
import Derived.SevenTiedAt
import Derived.JoinedCond
import Derived.OpenShut
import Derived.ChangeMaps5
namespace Go.Proofs.YtbgcjbekbeobnaaDoor.lawPathsetFree
open Go Go.RowKit Go.ChangeShapes Go.WideShapes Go.ChangeAt
open Go.ChangeMaps (open_string)
set_option linter.unusedVariables false
set_option linter.unusedSimpArgs false
set_option maxRecDepth 100000
theorem max_of {W : World} (h : W.ShapedOpen Tryd.prog) : HasMax W := by
  obtain ⟨m, hm⟩ := Tryd.laysM146.s1_3 W h
  exact ⟨World.block_lt_of_cell? W _ hm, m, hm⟩

theorem own : ownKnob Tryd.prog.godebug = none := by kernel_rfl
theorem laidOut : laidOutB Tryd.prog = true := by kernel_rfl
theorem lifted (os : Os) (started : os.Started) (H : Type) (enc : TypeId × Value → H) (F : Stop.Interp) :
    ReturnsInHanded {} Tryd.checked os 6 .any ((OpenSpec.ofChange Rows.pathsetFreeSpec).preRow enc Tryd.prog Tryd.f6 Rows.pathsetFreeRow.domain false Rows.pathsetFreeRow.laid) (((OpenSpec.ofChange Rows.pathsetFreeSpec).at F).post enc Tryd.prog Tryd.f6 false true false false) := by
  refine LK.lifted_row (C := Tryd.checked) (s := (OpenSpec.ofChange Rows.pathsetFreeSpec)) (F := F) (s0 := Rows.pathsetFreeSpec) (tb := 4) (laid := Rows.pathsetFreeRow.laid) rfl own started (by kernel_rfl) Tryd.func6 laidOut rfl rfl rfl rfl (by kernel_rfl) (by kernel_rfl) Tryd.underlying4
    (fun ds h => by
      match ds, h with
      | [_, _], _ => rfl)
    (World.laidAll Tryd.prog os Rows.pathsetFreeRow.laid) #[.slice none 0 0, .slice none 0 0] 8 (x := ([.nil, .nil], [], [])) (World.laidAll_os _ _ _) (World.shaped_of_ZipB (by kernel_rfl) (by kernel_rfl)) (by kernel_rfl) (by kernel_rfl) (fun k hk => by cases hk) (by kernel_rfl)
    (by rw [MakeChecks.laidMetH_plain _ _ _ (by kernel_rfl)]; exact laidMet_laidAll _ (by kernel_rfl) (by kernel_rfl)) ?_
  intro W base args ds ps hval hA hwt hk hsh hlaid
  rw [show Tryd.f6.params.toList = [32, 34] by kernel_rfl] at hA hwt
  have hval' : ∀ (j : Nat) t v, (#[32, 34] : Array TypeId)[j]? = some t → args[j]? = some v → Value.okWide Tryd.prog W .any base t v := by
    rw [← Tryd.params6]; exact hval
  clear hval
  obtain ⟨v0, v1, d0, d1, p0, p1, rfl, rfl, rfl, h0, h1⟩ := trodAll_two hA
  obtain ⟨A0, c0, l0, rfl, hI0, hc0, hm0, hf0⟩ := open_ents (hval' 0 32 v0 rfl rfl) h0 hwt (j := 0) rfl rfl
  obtain ⟨A1, c1, l1, rfl, hI1, hc1, hm1, _⟩ := open_nums (hval' 1 34 v1 rfl rfl) h1 hwt (j := 1) rfl rfl
  exact ahead.free_walk theSets A0 c0 l0 A1 c1 l1 W (max_of hsh) hI0 hc0 hm0 hf0 hI1 hc1 (by omega)

theorem over : Rows.pathsetFreeRow.holds Tryd.pinned (OpenSpec.ofChange Rows.pathsetFreeSpec) :=
  OpenClaim.holds_of_cond 6 Tryd.f6 rfl rfl rfl rfl rfl rfl rfl ⟨rfl, rfl, rfl, rfl, rfl⟩ rfl rfl rfl rfl rfl (by kernel_rfl) Tryd.func6 (by kernel_rfl)
    (of_decide_eq_true (by kernel_rfl)) (by unfold Func.isWrapper; first | (rw [if_pos (by decide +kernel)]; kernel_rfl) | (rw [if_neg (by decide +kernel)]; exact ⟨rfl, rfl⟩))
    (fun os started H enc _ F => by rw [OpenClaim.pre_eq_preRow]; exact lifted os started H enc F)

/-- The statement. -/
theorem proved : Rows.PathsetFreeCardSaid :=
  Claim7.holds_tied_plain_at .later [] Rows.pathsetFreeCard.laidKinds true Rows.pathsetFreeCard.stood.harness Rows.pathsetFreeCard.stood.looks
    over (fun _ h => by cases h) (by kernel_rfl) (fun _ h => by cases h) pathsetFree_row_tie rfl ⟨rfl, rfl⟩ (by kernel_rfl) rfl
    (fun f fn hf hfn => by
      obtain rfl : f = 6 := Option.some.inj ((show Tryd.prog.funcNamed Rows.pathsetFreeRow.func = some 6 by kernel_rfl).symm.trans hf) |>.symm
      obtain rfl : fn = Tryd.f6 := (Option.some.inj (Tryd.func6.symm.trans hfn)).symm
      exact ⟨by kernel_rfl, fun j t ht => by
        rw [Tryd.params6] at ht
        have hm : t ∈ ([32, 34] : List TypeId) := by simpa using Array.mem_of_getElem? ht
        have hall : (([32, 34] : List TypeId).all fun u => !Tryd.prog.wantsStandIn u) = true := by kernel_rfl
        exact (show Tryd.prog.wantsStandIn t = false by simpa using List.all_eq_true.1 hall t hm)⟩)
    (by kernel_rfl)

end Go.Proofs.YtbgcjbekbeobnaaDoor.lawPathsetFree
