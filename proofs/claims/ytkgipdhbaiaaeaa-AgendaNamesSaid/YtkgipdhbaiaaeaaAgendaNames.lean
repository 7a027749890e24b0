/- The kinds and the limit are the document's, and a full agenda refuses one item more; there is no input. -/
import Derived.Test.YtkgipdhbaiaaeaaRows
import Derived.Test.YtkgipdhbaiaaeaaAgAwake
import Derived.Test.YtkgipdhbaiaaeaaLawBare
import Derived.JoinedCond
import Derived.OpenShut
import Derived.Deep.CutBlock
namespace Go.Proofs.Ytkgipdhbaiaaeaa.lawAgendaNames
open Go Go.RowKit Go.ChangeShapes Go.WideShapes Go.ChangeAt
set_option linter.unusedVariables false
set_option linter.unusedSimpArgs false
open AM (It HS g sw)
def names (k : Nat) : List It := (List.range k).map fun (i : Nat) => ⟨(i : Int), 1, (i : Int)⟩
theorem names_put : ∀ k, k < 32 → AM.put (names k) ⟨(k : Int), 1, (k : Int)⟩ = (names (k + 1), 0) := by decide +kernel
theorem full_no : AM.put (names 32) ⟨0, 1, 32⟩ = (names 32, 51) := by decide +kernel
def last : List It := (AM.put (names 32) ⟨99, 1, 0⟩).1
theorem full_yes : AM.put (names 32) ⟨99, 1, 0⟩ = (last, 0) := by decide +kernel
theorem far : AM.put last ⟨4611686018427387905, 1, 0⟩ = (last, 2) := by decide +kernel
theorem five : AM.put last ⟨0, 5, 0⟩ = (last, 2) := by decide +kernel
theorem last_len : last.length = 32 := by decide +kernel
theorem wrap_nat {k : Nat} (h : k ≤ 100) : IntKind.i64.wrap ((k : Int) + 1) = (k : Int) + 1 := IntWalk.i64_in _ (by omega)
set_option maxRecDepth 100000 in
set_option maxHeartbeats 8000000 in
theorem walk (w : World) : Calls Try.prog 3 #[] w (LK.True_ w) := by
  have HS0 := Lib.hid (St1.start w)
  go_enter Try.func3, Try.ntmps3
  go_wp2_with fail
  refine (New_any w).mono ?_
  rintro e w1 ⟨rfl, e1⟩
  rw [← e1] at HS0
  clear e1
  go_wp2_with fail
  refine (awake_any w1).mono ?_
  rintro e w2 ⟨rfl, hb⟩
  have HS1 := Lib.hid (HS0.out.on hb)
  clear hb HS0
  go_wp2_with fail
  go_loopw [2] (fun i wx => ∃ k : Nat, i = .int .i64 (k : Int) ∧ k ≤ 32 ∧ Hid (St1 w wx w.heap.size (names k) [])) (fun i _ => 32 - (intOf i).toNat)
  case atStart => exact ⟨0, rfl, by omega, HS1⟩
  case round =>
    obtain ⟨k, rfl, hk, HS⟩ := hrel
    by_cases hlt : k < 32
    · have hw := wrap_nat (k := k) (by omega)
      have d1 : decide ((k : Int) < 32) = true := by simp; omega
      have HC := Lib.hid (Put_says (x := ⟨(k : Int), 1, (k : Int)⟩) HS.out.ag (names_put k hlt))
      simp only [] at HC
      go_wp2_with fail
      refine HC.out.mono ?_
      rintro e w3 ⟨rfl, ha, hm⟩
      have HS3 := Lib.hid (HS.out.put ha hm)
      clear ha hm HC HS
      go_wp2_with fail
      go_roundw
      case rel => exact ⟨k + 1, rfl, by omega, HS3⟩
      case measure => simp [intOf]; omega
    · obtain rfl : k = 32 := by omega
      go_wp2_with fail
      refine (Put_says (x := ⟨0, 1, 32⟩) HS.out.ag full_no).mono ?_
      rintro e w3 ⟨rfl, ha, hm⟩
      have HS3 := Lib.hid (HS.out.put ha hm)
      clear ha hm HS
      go_wp2_with fail
      refine (Put_says (x := ⟨99, 1, 0⟩) HS3.out.ag full_yes).mono ?_
      rintro e w4 ⟨rfl, ha, hm⟩
      have HS4 := Lib.hid (HS3.out.put ha hm)
      clear ha hm HS3
      go_wp2_with fail
      refine (Put_says (x := ⟨4611686018427387905, 1, 0⟩) HS4.out.ag far).mono ?_
      rintro e w5 ⟨rfl, ha, hm⟩
      have HS5 := Lib.hid (HS4.out.put ha hm)
      clear ha hm HS4
      go_wp2_with fail
      refine (Put_says (x := ⟨0, 5, 0⟩) HS5.out.ag five).mono ?_
      rintro e w6 ⟨rfl, ha, hm⟩
      have HS6 := Lib.hid (HS5.out.put ha hm)
      clear ha hm HS5
      obtain ⟨hh, k1, k2⟩ := HS6.out.ag
      rw [last_len] at k1
      clear k2
      go_wp2_with fail
      refine (Len_any k1).mono ?_
      rintro e w7 ⟨rfl, q, e1⟩
      have hb : Below w6.heap.size w6 w7 := by rw [e1]; exact drewN_below w6 q
      have HS7 := Lib.hid (HS6.out.on hb)
      clear hb HS6 k1 e1
      go_wp2_with fail
      go_ret
      exact ⟨rfl, HS7.out.below⟩

theorem own : ownKnob Try.prog.godebug = none := by kernel_rfl
theorem laidOut : laidOutB Try.prog = true := by kernel_rfl
set_option maxRecDepth 100000 in
theorem lifted (os : Os) (started : os.Started) (H : Type) (enc : TypeId × Value → H) :
    ReturnsInHanded {} Try.checked os 3 .any (Rows.agendaNamesSpec.pre6 enc Try.prog Try.f3 [] false) (Rows.agendaNamesSpec.post enc Try.prog Try.f3 false true false false) := by
  refine LK.lifted_bare (C := Try.checked) (tb := 4) own started (by kernel_rfl) Try.func3 laidOut rfl (by kernel_rfl) (by kernel_rfl) Try.underlying4
    (fun ds h => by
      match ds, h with
      | [], _ => rfl)
    (ChangeSpec.witness6 (enc := enc) (C := Try.checked) false ⟨#[], #[], []⟩ 8 (by kernel_rfl) (by kernel_rfl) (by kernel_rfl) (by kernel_rfl)) ?_
  intro W base args ds ps hval hA hwt _
  rw [show Try.f3.params.toList = [] by kernel_rfl] at hA hwt
  have hval' : ∀ (j : Nat) t v, (#[] : Array TypeId)[j]? = some t → args[j]? = some v → Value.okWide Try.prog W .any base t v := by
    rw [← Try.params3]; exact hval
  clear hval
  obtain ⟨rfl, _, _⟩ := trodAll_none hA
  exact walk W

/-- The statement. -/
theorem proved : Rows.AgendaNamesSaid :=
  OpenClaim.holds_of_wide 3 Try.f3 rfl rfl rfl rfl rfl rfl rfl ⟨rfl, rfl, rfl, rfl, rfl⟩ rfl rfl rfl rfl rfl (by kernel_rfl) Try.func3 (by kernel_rfl)
    (of_decide_eq_true (by kernel_rfl)) (by unfold Func.isWrapper; first | (rw [if_pos (by decide +kernel)]; kernel_rfl) | (rw [if_neg (by decide +kernel)]; exact ⟨rfl, rfl⟩))
    (fun os started H enc _ => lifted os started H enc)

end Go.Proofs.Ytkgipdhbaiaaeaa.lawAgendaNames
