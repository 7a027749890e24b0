/- Two spans that are handed in, opened. -/
import Derived.Test.YtjhiicnnonmcnaaTermW7
import Derived.OpenShut
import Derived.ProofKit
namespace Go.Proofs.Ytjhiicnnonmcnaa
open Go.RowKit Go.ChangeShapes Go.WideShapes Go.ChangeAt
section
theorem cells_int : Try.prog.cellsOf 3 = 1 := by kernel_rfl
theorem cells_span : Try.prog.cellsOf 33 = 2 := by kernel_rfl
theorem cells_spans : Try.prog.cellsOf 34 = 4 := by kernel_rfl
theorem span_of {H : Type} {enc : TypeId × Value → H} {W : World} {base : Nat} {spare : Nat → Bool} {held : Bool} {n : Nat} {y : DataW H × List MemPlace} {v0 v1 : Value}
    (h : DataW.trod enc Try.prog W base spare held n 33 [v0, v1] = some y) :
    ∃ a b : Int, v0 = .int .i64 a ∧ v1 = .int .i64 b ∧ (-9223372036854775808 ≤ a ∧ a ≤ 9223372036854775807) ∧ (-9223372036854775808 ≤ b ∧ b ≤ 9223372036854775807) := by
  obtain ⟨ys, n', _, hy, _, hyl, hf⟩ := DataW.trod_struct Try.underlying33 h
  match ys, hyl with
  | [y0, y1], _ =>
    have f0 := hf 0 _ rfl
    have f1 := hf 1 _ rfl
    obtain ⟨a, e0, g0, ha⟩ := DataW.trod_int Try.underlying3 f0
    obtain ⟨b, e1, g1, hb⟩ := DataW.trod_int Try.underlying3 f1
    refine ⟨a, b, ?_, ?_, ?_, ?_⟩
    · have h : List.take (Try.prog.cellsOf 3) [v0, v1] = [.int .i64 a] := e0
      rw [cells_int] at h
      simpa using h
    · have h : List.take (Try.prog.cellsOf 3) [v1] = [.int .i64 b] := e1
      rw [cells_int] at h
      simpa using h
    · simpa [Lit.wf, IntKind.min, IntKind.max, IntKind.signed, IntKind.bits] using ha
    · simpa [Lit.wf, IntKind.min, IntKind.max, IntKind.signed, IntKind.bits] using hb
theorem open_spans {H : Type} {enc : TypeId × Value → H} {W : World} {base b0 : Nat} {r : Reach} {spare : Nat → Bool} {held : Bool} {v : Value} {d : DataW H} {ps : List MemPlace}
    (hval : Value.okWide Try.prog W r b0 34 v) (hd : DataW.Trod enc Try.prog W base spare held 34 v d ps) :
    ∃ a b c e : Int, v = .agg #[.int .i64 a, .int .i64 b, .int .i64 c, .int .i64 e] ∧ (-9223372036854775808 ≤ a ∧ a ≤ 9223372036854775807) ∧ (-9223372036854775808 ≤ b ∧ b ≤ 9223372036854775807) ∧ (-9223372036854775808 ≤ c ∧ c ≤ 9223372036854775807) ∧ (-9223372036854775808 ≤ e ∧ e ≤ 9223372036854775807) := by
  unfold Value.okWide at hval
  rw [Try.underlying34] at hval
  obtain ⟨cs, rfl, hs, _⟩ := hval
  rw [cells_spans] at hs
  obtain ⟨l⟩ := cs
  match l, hs with
  | [v0, v1, v2, v3], _ =>
    obtain ⟨fuel, hf⟩ := hd
    obtain ⟨xs, m, _, _, _, hl, hat⟩ := DataW.trod_array Try.underlying34 hf
    match xs, hl with
    | [y0, y1], _ =>
      have f0 := hat 0 (by decide)
      have f1 := hat 1 (by decide)
      rw [cells_span] at f0 f1
      obtain ⟨a, b, rfl, rfl, ha, hb⟩ := span_of (v0 := v0) (v1 := v1) f0
      obtain ⟨c, e, rfl, rfl, hc, he⟩ := span_of (v0 := v2) (v1 := v3) f1
      exact ⟨a, b, c, e, rfl, ha, hb, hc, he⟩
end
end Go.Proofs.Ytjhiicnnonmcnaa
