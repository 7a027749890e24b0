/- A sector in which any one byte is turned is no record's; for all bytes, every place and every byte. -/
import Derived.Test.YtlnahmgcjaodkaaSectorsTurnedW
namespace Go.Proofs.Ytlnahmgcjaodkaa.lawSectorsTurned
open Go Go.RowKit Go.ChangeShapes Go.WideShapes Go.ChangeAt
set_option linter.unusedVariables false
set_option linter.unusedSimpArgs false

theorem own : ownKnob Try.prog.godebug = none := by kernel_rfl
theorem laidOut : laidOutB Try.prog = true := by kernel_rfl
set_option maxRecDepth 100000 in
theorem lifted (os : Os) (started : os.Started) (H : Type) (enc : TypeId × Value → H) :
    ReturnsInHanded {} Try.checked os 9 .any (Rows.sectorsTurnedSpec.pre6 enc Try.prog Try.f9 [] false) (Rows.sectorsTurnedSpec.post enc Try.prog Try.f9 false true false false) := by
  refine LK.lifted_bare (C := Try.checked) (tb := 4) own started (by kernel_rfl) Try.func9 laidOut rfl (by kernel_rfl) (by kernel_rfl) Try.underlying4
    (fun ds h => by
      match ds, h with
      | [_, _, _], _ => rfl)
    (ChangeSpec.witness6 (enc := enc) (C := Try.checked) false ⟨#[], #[.slice none 0 0, .int .i64 0, .int .u8 0], []⟩ 8 (by kernel_rfl) (by kernel_rfl) (by kernel_rfl) (by kernel_rfl)) ?_
  intro W base args ds ps hval hA hwt _
  rw [show Try.f9.params.toList = [26, 3, 5] by kernel_rfl] at hA hwt
  have hval' : ∀ (j : Nat) t v, (#[26, 3, 5] : Array TypeId)[j]? = some t → args[j]? = some v → Value.okWide Try.prog W .any base t v := by
    rw [← Try.params9]; exact hval
  clear hval
  obtain ⟨v0, v1, v2, d0, d1, d2, pl0, pl1, pl2, rfl, rfl, rfl, h0, h1, h2⟩ := trodAll_three hA
  obtain ⟨A0, c0, l0, rfl, hB0, hc0, hm0⟩ := By.open_bytes (hval' 0 26 v0 rfl rfl) h0 hwt (j := 0) rfl rfl
  obtain ⟨n1, rfl, rfl, rfl, hn1⟩ := open_int Try.underlying3 (hval' 1 3 v1 rfl rfl) h1
  have hr1 : -9223372036854775808 ≤ n1 ∧ n1 ≤ 9223372036854775807 := by simpa [Lit.wf, IntKind.min, IntKind.max, IntKind.signed, IntKind.bits] using hn1
  obtain ⟨n2, rfl, rfl, rfl, hn2⟩ := open_int Try.underlying5 (hval' 2 5 v2 rfl rfl) h2
  obtain ⟨b2, rfl⟩ := byte_of hn2
  exact walk A0 c0 l0 n1 b2 W hB0 hc0 hm0 hr1

/-- The statement. -/
theorem proved : Rows.SectorsTurnedSaid :=
  OpenClaim.holds_of_wide 9 Try.f9 rfl rfl rfl rfl rfl rfl rfl ⟨rfl, rfl, rfl, rfl, rfl⟩ rfl rfl rfl rfl rfl (by kernel_rfl) Try.func9 (by kernel_rfl)
    (of_decide_eq_true (by kernel_rfl)) (by unfold Func.isWrapper; first | (rw [if_pos (by decide +kernel)]; kernel_rfl) | (rw [if_neg (by decide +kernel)]; exact ⟨rfl, rfl⟩))
    (fun os started H enc _ => lifted os started H enc)

end Go.Proofs.Ytlnahmgcjaodkaa.lawSectorsTurned
