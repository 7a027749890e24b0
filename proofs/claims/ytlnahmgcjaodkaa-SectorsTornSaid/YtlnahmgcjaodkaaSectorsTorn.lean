/- A record that is written sector by sector, over whatever torn tries stood there, is not there till its last sector is written; for every generation, every list of records and every list of tries. -/
import Derived.Test.YtlnahmgcjaodkaaSectorsTornW
namespace Go.Proofs.Ytlnahmgcjaodkaa.lawSectorsTorn
open Go Go.RowKit Go.ChangeShapes Go.WideShapes Go.ChangeAt
set_option linter.unusedVariables false
set_option linter.unusedSimpArgs false

theorem own : ownKnob Try.prog.godebug = none := by kernel_rfl
theorem laidOut : laidOutB Try.prog = true := by kernel_rfl
set_option maxRecDepth 100000 in
theorem lifted (os : Os) (started : os.Started) (H : Type) (enc : TypeId × Value → H) :
    ReturnsInHanded {} Try.checked os 8 .any (Rows.sectorsTornSpec.pre6 enc Try.prog Try.f8 [] false) (Rows.sectorsTornSpec.post enc Try.prog Try.f8 false true false false) := by
  refine LK.lifted_bare (C := Try.checked) (tb := 4) own started (by kernel_rfl) Try.func8 laidOut rfl (by kernel_rfl) (by kernel_rfl) Try.underlying4
    (fun ds h => by
      match ds, h with
      | [_, _, _], _ => rfl)
    (ChangeSpec.witness6 (enc := enc) (C := Try.checked) false ⟨#[], #[.int .i64 0, .slice none 0 0, .slice none 0 0], []⟩ 8 (by kernel_rfl) (by kernel_rfl) (by kernel_rfl) (by kernel_rfl)) ?_
  intro W base args ds ps hval hA hwt _
  rw [show Try.f8.params.toList = [3, 22, 22] by kernel_rfl] at hA hwt
  have hval' : ∀ (j : Nat) t v, (#[3, 22, 22] : Array TypeId)[j]? = some t → args[j]? = some v → Value.okWide Try.prog W .any base t v := by
    rw [← Try.params8]; exact hval
  clear hval
  obtain ⟨v0, v1, v2, d0, d1, d2, pl0, pl1, pl2, rfl, rfl, rfl, h0, h1, h2⟩ := trodAll_three hA
  obtain ⟨n0, rfl, rfl, rfl, hn0⟩ := open_int Try.underlying3 (hval' 0 3 v0 rfl rfl) h0
  have hr0 : -9223372036854775808 ≤ n0 ∧ n0 ≤ 9223372036854775807 := by simpa [Lit.wf, IntKind.min, IntKind.max, IntKind.signed, IntKind.bits] using hn0
  obtain ⟨A1, c1, xs1, rfl, hO1, hc1, hm1, hl1⟩ := open_rows (hval' 1 22 v1 rfl rfl) h1 hwt (j := 1) rfl rfl
  obtain ⟨A2, c2, xs2, rfl, hO2, hc2, hm2, hl2⟩ := open_rows (hval' 2 22 v2 rfl rfl) h2 hwt (j := 2) rfl rfl
  exact walk n0 A1 c1 xs1 A2 c2 xs2 W hr0 hO1 hc1 hm1 hl1 hO2 hc2 hm2 hl2

/-- The statement. -/
theorem proved : Rows.SectorsTornSaid :=
  OpenClaim.holds_of_wide 8 Try.f8 rfl rfl rfl rfl rfl rfl rfl ⟨rfl, rfl, rfl, rfl, rfl⟩ rfl rfl rfl rfl rfl (by kernel_rfl) Try.func8 (by kernel_rfl)
    (of_decide_eq_true (by kernel_rfl)) (by unfold Func.isWrapper; first | (rw [if_pos (by decide +kernel)]; kernel_rfl) | (rw [if_neg (by decide +kernel)]; exact ⟨rfl, rfl⟩))
    (fun os started H enc _ => lifted os started H enc)

end Go.Proofs.Ytlnahmgcjaodkaa.lawSectorsTorn
