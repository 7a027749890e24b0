/- Over, Under and Clash tell just the entries above a path, below it and against it; for any entries, path and owner. -/
import Derived.Deep.DeepCutAuto
import Derived.Test.YtbgcjbekbeobnaaDoorRows
import Derived.Test.YtbgcjbekbeobnaaDoorPsInst
import Derived.Test.YtbgcjbekbeobnaaDoorPsL5
import Derived.Test.YtbgcjbekbeobnaaDoorPsKinds
import Derived.Test.YtbgcjbekbeobnaaDoorLawLaid
import Derived.Test.YtbgcjbekbeobnaaDoorCards
import Derived.Test.YtbgcjbekbeobnaaDoorTie
import Derived.SevenTiedAt
import Derived.JoinedCond
import Derived.OpenShut
import Derived.ChangeMaps5
namespace Go.Proofs.YtbgcjbekbeobnaaDoor.lawPathsetKinds
open Go Go.RowKit Go.ChangeShapes Go.WideShapes Go.ChangeAt
open Go.ChangeMaps (open_string)
set_option linter.unusedVariables false
set_option linter.unusedSimpArgs false
set_option maxRecDepth 100000
theorem max_of {W : World} (h : W.ShapedOpen Tryd.prog) : HasMax W := by
  obtain ⟨m, hm⟩ := Tryd.laysM146.s1_3 W h
  exact ⟨World.block_lt_of_cell? W _ hm, m, hm⟩

theorem own : ownKnob Tryd.prog.godebug = none := by kernel_rfl
theorem laidOut : laidOutB Tryd.prog = true := by kernel_rfl
theorem lifted (os : Os) (started : os.Started) (H : Type) (enc : TypeId × Value → H) (F : Stop.Interp) :
    ReturnsInHanded {} Tryd.checked os 4 .any ((OpenSpec.ofChange Rows.pathsetKindsSpec).preRow enc Tryd.prog Tryd.f4 Rows.pathsetKindsRow.domain false Rows.pathsetKindsRow.laid) (((OpenSpec.ofChange Rows.pathsetKindsSpec).at F).post enc Tryd.prog Tryd.f4 false true false false) := by
  refine LK.lifted_row (C := Tryd.checked) (s := (OpenSpec.ofChange Rows.pathsetKindsSpec)) (F := F) (s0 := Rows.pathsetKindsSpec) (tb := 4) (laid := Rows.pathsetKindsRow.laid) rfl own started (by kernel_rfl) Tryd.func4 laidOut rfl rfl rfl rfl (by kernel_rfl) (by kernel_rfl) Tryd.underlying4
    (fun ds h => by
      match ds, h with
      | [_, _, _], _ => rfl)
    (World.laidAll Tryd.prog os Rows.pathsetKindsRow.laid) #[.slice none 0 0, .string ByteArray.empty, .int .i64 0] 8 (x := ([.nil, .lit (.string []), .lit (.int .i64 0)], [], [])) (World.laidAll_os _ _ _) (World.shaped_of_ZipB (by kernel_rfl) (by kernel_rfl)) (by kernel_rfl) (by kernel_rfl) (fun k hk => by cases hk) (by kernel_rfl)
    (by rw [MakeChecks.laidMetH_plain _ _ _ (by kernel_rfl)]; exact laidMet_laidAll _ (by kernel_rfl) (by kernel_rfl)) ?_
  intro W base args ds ps hval hA hwt hk hsh hlaid
  rw [show Tryd.f4.params.toList = [32, 9, 3] by kernel_rfl] at hA hwt
  have hval' : ∀ (j : Nat) t v, (#[32, 9, 3] : Array TypeId)[j]? = some t → args[j]? = some v → Value.okWide Tryd.prog W .any base t v := by
    rw [← Tryd.params4]; exact hval
  clear hval
  obtain ⟨v0, v1, v2, d0, d1, d2, p0, p1, p2, rfl, rfl, rfl, h0, h1, h2⟩ := trodAll_three hA
  obtain ⟨A0, c0, l0, rfl, hI0, hc0, hm0, hf0⟩ := open_ents (hval' 0 32 v0 rfl rfl) h0 hwt (j := 0) rfl rfl
  obtain ⟨s1, rfl, rfl, hs1, _⟩ := open_string Tryd.underlying9 (hval' 1 9 v1 rfl rfl) h1
  have hq1 : s1.size ≤ 140737488351232 := sized_string hwt (j := 1) rfl rfl
  obtain ⟨n2, rfl, rfl, rfl, hn2⟩ := open_int Tryd.underlying3 (hval' 2 3 v2 rfl rfl) h2
  have hr2 : -9223372036854775808 ≤ n2 ∧ n2 ≤ 9223372036854775807 := by simpa [Lit.wf, IntKind.min, IntKind.max, IntKind.signed, IntKind.bits] using hn2
  exact ahead.kinds_walk theSets A0 c0 l0 s1 n2 W (max_of hsh) hI0 hc0 hm0 hf0 hq1

theorem over : Rows.pathsetKindsRow.holds Tryd.pinned (OpenSpec.ofChange Rows.pathsetKindsSpec) :=
  OpenClaim.holds_of_cond 4 Tryd.f4 rfl rfl rfl rfl rfl rfl rfl ⟨rfl, rfl, rfl, rfl, rfl⟩ rfl rfl rfl rfl rfl (by kernel_rfl) Tryd.func4 (by kernel_rfl)
    (of_decide_eq_true (by kernel_rfl)) (by unfold Func.isWrapper; first | (rw [if_pos (by decide +kernel)]; kernel_rfl) | (rw [if_neg (by decide +kernel)]; exact ⟨rfl, rfl⟩))
    (fun os started H enc _ F => by rw [OpenClaim.pre_eq_preRow]; exact lifted os started H enc F)

/-- The statement. -/
theorem proved : Rows.PathsetKindsCardSaid :=
  Claim7.holds_tied_plain_at .later [] Rows.pathsetKindsCard.laidKinds true Rows.pathsetKindsCard.stood.harness Rows.pathsetKindsCard.stood.looks
    over (fun _ h => by cases h) (by kernel_rfl) (fun _ h => by cases h) pathsetKinds_row_tie rfl ⟨rfl, rfl⟩ (by kernel_rfl) rfl
    (fun f fn hf hfn => by
      obtain rfl : f = 4 := Option.some.inj ((show Tryd.prog.funcNamed Rows.pathsetKindsRow.func = some 4 by kernel_rfl).symm.trans hf) |>.symm
      obtain rfl : fn = Tryd.f4 := (Option.some.inj (Tryd.func4.symm.trans hfn)).symm
      exact ⟨by kernel_rfl, fun j t ht => by
        rw [Tryd.params4] at ht
        have hm : t ∈ ([32, 9, 3] : List TypeId) := by simpa using Array.mem_of_getElem? ht
        have hall : (([32, 9, 3] : List TypeId).all fun u => !Tryd.prog.wantsStandIn u) = true := by kernel_rfl
        exact (show Tryd.prog.wantsStandIn t = false by simpa using List.all_eq_true.1 hall t hm)⟩)
    (by kernel_rfl)

end Go.Proofs.YtbgcjbekbeobnaaDoor.lawPathsetKinds
