/- Whoever asks in good order is never told Stale, gets each answer again, and is not touched by what others ask; for every client, every list of steps and every list of requests of others. -/
import Derived.Test.YtbjemihcbbiiaaaRepliesFreshW
namespace Go.Proofs.Ytbjemihcbbiiaaa.lawRepliesFresh
open Go Go.RowKit Go.ChangeShapes Go.WideShapes Go.ChangeAt
set_option linter.unusedVariables false
set_option linter.unusedSimpArgs false
open RP (Kp St Ad)
open WM (Msg)
set_option maxRecDepth 100000

theorem own : ownKnob Try.prog.godebug = none := by kernel_rfl
theorem laidOut : laidOutB Try.prog = true := by kernel_rfl
set_option maxRecDepth 100000 in
theorem lifted (os : Os) (started : os.Started) (H : Type) (enc : TypeId × Value → H) :
    ReturnsInHanded {} Try.checked os 6 .any (Rows.repliesFreshSpec.pre6 enc Try.prog Try.f6 [] false) (Rows.repliesFreshSpec.post enc Try.prog Try.f6 false true false false) := by
  refine LK.lifted_bare (C := Try.checked) (tb := 4) own started (by kernel_rfl) Try.func6 laidOut rfl (by kernel_rfl) (by kernel_rfl) Try.underlying4
    (fun ds h => by
      match ds, h with
      | [_, _, _], _ => rfl)
    (ChangeSpec.witness6 (enc := enc) (C := Try.checked) false ⟨#[], #[.agg #[.int .i64 0, .int .i64 0], .slice none 0 0, .slice none 0 0], []⟩ 8 (by kernel_rfl) (by kernel_rfl) (by kernel_rfl) (by kernel_rfl)) ?_
  intro W base args ds ps hval hA hwt _
  rw [show Try.f6.params.toList = [58, 30, 53] by kernel_rfl] at hA hwt
  have hval' : ∀ (j : Nat) t v, (#[58, 30, 53] : Array TypeId)[j]? = some t → args[j]? = some v → Value.okWide Try.prog W .any base t v := by
    rw [← Try.params6]; exact hval
  clear hval
  obtain ⟨v0, v1, v2, d0, d1, d2, pl0, pl1, pl2, rfl, rfl, rfl, h0, h1, h2⟩ := trodAll_three hA
  obtain ⟨a0, b0, rfl, ha0, hb0⟩ := open_two (hval' 0 58 v0 rfl rfl) h0
  obtain ⟨A1, c1, xs1, rfl, hP1, hc1, hm1, hl1⟩ := open_nums (hval' 1 30 v1 rfl rfl) h1 hwt (j := 1) rfl rfl
  obtain ⟨A2, c2, xs2, rfl, hP2, hc2, hm2, hl2⟩ := open_ads (hval' 2 53 v2 rfl rfl) h2 hwt (j := 2) rfl rfl
  exact walk a0 b0 A1 c1 xs1 A2 c2 xs2 W ha0 hb0 hP1 hc1 hm1 hl1 hP2 hc2 hm2 hl2

/-- The statement. -/
theorem proved : Rows.RepliesFreshSaid :=
  OpenClaim.holds_of_wide 6 Try.f6 rfl rfl rfl rfl rfl rfl rfl ⟨rfl, rfl, rfl, rfl, rfl⟩ rfl rfl rfl rfl rfl (by kernel_rfl) Try.func6 (by kernel_rfl)
    (of_decide_eq_true (by kernel_rfl)) (by unfold Func.isWrapper; first | (rw [if_pos (by decide +kernel)]; kernel_rfl) | (rw [if_neg (by decide +kernel)]; exact ⟨rfl, rfl⟩))
    (fun os started H enc _ => lifted os started H enc)

end Go.Proofs.Ytbjemihcbbiiaaa.lawRepliesFresh
