/- The errors and the limits are the document's, and four calls may be open within a window of eight; there is no input. -/
import Derived.Test.YtnacchldecjcaaaRows
import Derived.Test.YtnacchldecjcaaaCaC
import Derived.Test.YtnacchldecjcaaaLaw
import Derived.JoinedCond
import Derived.OpenShut
import Derived.Deep.CutBlock
namespace Go.Proofs.Ytnacchldecjcaaa.lawCallsNames
open Go Go.RowKit Go.ChangeShapes Go.WideShapes Go.ChangeAt
set_option linter.unusedVariables false
set_option linter.unusedSimpArgs false
open CA (Cl St)
open WM (Msg)
set_option maxRecDepth 100000
def nmS : Nat → St
  | 0 => CA.new 1099511627776
  | k + 1 => CA.start (nmS k) 0 acq
theorem nm_open : ∀ k, k < 4 → CA.given (nmS k) 0 acq = (k : Int) + 1 ∧ CA.fault (nmS k) 0 acq = 0 := by decide +kernel
theorem nm_full : CA.fault (nmS 4) 0 acq = 52 ∧ CA.given (nmS 4) 0 acq = 0 := by decide +kernel
theorem nm_same : CA.start (nmS 4) 0 acq = nmS 4 := by unfold CA.start; rw [nm_full.1]; rfl
def ncS : St := CA.close (CA.close (CA.close (nmS 4) 2) 3) 4
def ndS : Nat → St
  | 0 => ncS
  | k + 1 => CA.close (CA.start (ndS k) 0 acq) ((k : Int) + 5)
theorem nd_open : ∀ k, k < 4 → CA.given (ndS k) 0 acq = (k : Int) + 5 ∧ CA.fault (ndS k) 0 acq = 0 := by decide +kernel
theorem nd_full : CA.fault (ndS 4) 0 acq = 52 ∧ CA.given (ndS 4) 0 acq = 0 := by decide +kernel
theorem nd_same : CA.start (ndS 4) 0 acq = ndS 4 := by unfold CA.start; rw [nd_full.1]; rfl
theorem nd_last : CA.given (CA.close (ndS 4) 1) 0 acq = 9 ∧ CA.fault (CA.close (ndS 4) 1) 0 acq = 0 := by decide +kernel
theorem wrap_nat {k : Nat} (h : k ≤ 100) : IntKind.i64.wrap ((k : Int) + 1) = (k : Int) + 1 := IntWalk.i64_in _ (by omega)
set_option maxHeartbeats 8000000 in
theorem walk (w : World) : Calls Try.prog 3 #[] w (LK.True_ w) := by
  go_enter Try.func3, Try.ntmps3
  go_wp2_with fail
  refine (New_yes 1099511627776 w (by decide)).mono ?_
  rintro e w1 ⟨rfl, hc, hb, hs⟩
  have HS0 := Lib.hid (show K1 w w1 (w.heap.size + 1) w.heap.size (nmS 0) from K1.start (Below.refl _ w) hc hb)
  generalize w.heap.size + 1 = g at HS0 ⊢
  generalize hM : w.heap.size = M at HS0
  have HMM := Lib.hid hM
  clear hc hb hs hM
  go_wp2_with fail
  refine (New_no 0 w1 (by decide)).mono ?_
  rintro e w2 ⟨rfl, rfl⟩
  go_wp2_with fail
  refine (awake_any w2).mono ?_
  rintro e w3 ⟨rfl, hb⟩
  have HS1 := Lib.hid (HS0.out.on hb)
  clear hb HS0
  go_wp2_with fail
  go_loopw [5, 6, 7] (fun i _ _ wx => ∃ k : Nat, i = .int .i64 ((k : Int) + 1) ∧ k ≤ 4 ∧ Hid (K1 w wx g M (nmS k))) (fun i _ _ _ => 5 - (intOf i).toNat)
  case atStart => exact ⟨0, rfl, by omega, HS1⟩
  case round =>
    obtain ⟨k, rfl, hk, HS⟩ := hrel
    by_cases hlt : k < 4
    · have hw := wrap_nat (k := k + 1) (by omega)
      rw [Int.natCast_add, Int.natCast_one] at hw
      have d1 : decide ((k : Int) + 1 ≤ 4) = true := by simp; omega
      have HF := Lib.hid (nm_open k hlt)
      go_wp2_with fail
      refine (acquire_any _).mono ?_
      rintro e w5 ⟨rfl, hb⟩
      have HS2 := Lib.hid (HS.out.on hb)
      clear hb HS
      go_wp2_with fail
      refine (Open_any HS2.out.at_ 0 acq clw_acq).mono ?_
      rintro e w6 ⟨rfl, ht⟩
      have HS3 := Lib.hid (show K1 w w6 g M (nmS (k + 1)) from HS2.out.put2 ht)
      rw [HF.out.1, HF.out.2]
      clear ht HS2 HF
      go_wp2_with fail
      go_roundw
      case rel => exact ⟨k + 1, by simp, by omega, HS3⟩
      case measure => simp [intOf]; omega
    · obtain rfl : k = 4 := by omega
      go_wp2_with fail
      refine (acquire_any _).mono ?_
      rintro e w5 ⟨rfl, hb⟩
      have HS2 := Lib.hid (HS.out.on hb)
      clear hb HS
      go_wp2_with fail
      refine (Open_any HS2.out.at_ 0 acq clw_acq).mono ?_
      rintro e w6 ⟨rfl, ht⟩
      rw [nm_same] at ht
      have HS3 := Lib.hid (HS2.out.put2 ht)
      rw [nm_full.1, nm_full.2]
      clear ht HS2
      go_wp2_with fail
      refine (Close_any HS3.out.at_ 2).mono ?_
      rintro e w7 ⟨rfl, ht⟩
      have HS4 := Lib.hid (HS3.out.put1 ht)
      clear ht HS3
      generalize aggC _ = v1
      go_wp2_with fail
      refine (Close_any HS4.out.at_ 3).mono ?_
      rintro e w8 ⟨rfl, ht⟩
      have HS5 := Lib.hid (HS4.out.put1 ht)
      clear ht HS4
      generalize aggC _ = v2
      go_wp2_with fail
      refine (Close_any HS5.out.at_ 4).mono ?_
      rintro e w9 ⟨rfl, ht⟩
      have HS6 := Lib.hid (show K1 w w9 g M (ndS 0) from HS5.out.put1 ht)
      clear ht HS5
      generalize aggC _ = v3
      go_wp2_with fail
      go_loopw [10, 11, 12] (fun i _ _ wx => ∃ k : Nat, i = .int .i64 ((k : Int) + 5) ∧ k ≤ 4 ∧ Hid (K1 w wx g M (ndS k))) (fun i _ _ _ => 9 - (intOf i).toNat)
      case atStart => exact ⟨0, rfl, by omega, HS6⟩
      case round =>
        obtain ⟨k, rfl, hk, HS⟩ := hrel
        by_cases hlt : k < 4
        · have hw := wrap_nat (k := k + 5) (by omega)
          rw [Int.natCast_add] at hw
          have hw2 : IntKind.i64.wrap ((k : Int) + 5 + 1) = (k : Int) + 5 + 1 := hw
          have d1 : decide ((k : Int) + 5 ≤ 8) = true := by simp; omega
          have HF := Lib.hid (nd_open k hlt)
          clear hw
          go_wp2_with fail
          refine (acquire_any _).mono ?_
          rintro e w5 ⟨rfl, hb⟩
          have HS2 := Lib.hid (HS.out.on hb)
          clear hb HS
          go_wp2_with fail
          refine (Open_any HS2.out.at_ 0 acq clw_acq).mono ?_
          rintro e w6 ⟨rfl, ht⟩
          have HS3 := Lib.hid (HS2.out.put2 ht)
          rw [HF.out.1, HF.out.2]
          clear ht HS2 HF
          go_wp2_with fail
          refine (Close_any HS3.out.at_ ((k : Int) + 5)).mono ?_
          rintro e w7 ⟨rfl, ht⟩
          have HS4 := Lib.hid (show K1 w w7 g M (ndS (k + 1)) from HS3.out.put1 ht)
          clear ht HS3
          generalize aggC _ = v4
          go_wp2_with fail
          go_roundw
          case rel => exact ⟨k + 1, by simp; omega, by omega, HS4⟩
          case measure => simp [intOf]; omega
        · obtain rfl : k = 4 := by omega
          go_wp2_with fail
          refine (acquire_any _).mono ?_
          rintro e w5 ⟨rfl, hb⟩
          have HS2 := Lib.hid (HS.out.on hb)
          clear hb HS
          go_wp2_with fail
          refine (Open_any HS2.out.at_ 0 acq clw_acq).mono ?_
          rintro e w6 ⟨rfl, ht⟩
          rw [nd_same] at ht
          have HS3 := Lib.hid (HS2.out.put2 ht)
          rw [nd_full.1, nd_full.2]
          clear ht HS2
          go_wp2_with fail
          refine (Close_any HS3.out.at_ 1).mono ?_
          rintro e w7 ⟨rfl, ht⟩
          have HS4 := Lib.hid (HS3.out.put1 ht)
          clear ht HS3
          generalize aggC _ = v4
          go_wp2_with fail
          refine (acquire_any _).mono ?_
          rintro e w8 ⟨rfl, hb⟩
          have HS5 := Lib.hid (HS4.out.on hb)
          clear hb HS4
          go_wp2_with fail
          refine (Open_any HS5.out.at_ 0 acq clw_acq).mono ?_
          rintro e w9 ⟨rfl, ht⟩
          have HS6 := Lib.hid (HS5.out.put2 ht)
          rw [nd_last.1, nd_last.2]
          clear ht HS5
          go_wp2_with fail
          go_ret
          exact ⟨rfl, HS6.out.below⟩

theorem own : ownKnob Try.prog.godebug = none := by kernel_rfl
theorem laidOut : laidOutB Try.prog = true := by kernel_rfl
set_option maxRecDepth 100000 in
theorem lifted (os : Os) (started : os.Started) (H : Type) (enc : TypeId × Value → H) :
    ReturnsInHanded {} Try.checked os 3 .any (Rows.callsNamesSpec.pre6 enc Try.prog Try.f3 [] false) (Rows.callsNamesSpec.post enc Try.prog Try.f3 false true false false) := by
  refine LK.lifted_bare (C := Try.checked) (tb := 4) own started (by kernel_rfl) Try.func3 laidOut rfl (by kernel_rfl) (by kernel_rfl) Try.underlying4
    (fun ds h => by
      match ds, h with
      | [], _ => rfl)
    (ChangeSpec.witness6 (enc := enc) (C := Try.checked) false ⟨#[], #[], []⟩ 8 (by kernel_rfl) (by kernel_rfl) (by kernel_rfl) (by kernel_rfl)) ?_
  intro W base args ds ps hval hA hwt _
  rw [show Try.f3.params.toList = [] by kernel_rfl] at hA hwt
  have hval' : ∀ (j : Nat) t v, (#[] : Array TypeId)[j]? = some t → args[j]? = some v → Value.okWide Try.prog W .any base t v := by
    rw [← Try.params3]; exact hval
  clear hval
  obtain ⟨rfl, _, _⟩ := trodAll_none hA
  exact walk W

/-- The statement. -/
theorem proved : Rows.CallsNamesSaid :=
  OpenClaim.holds_of_wide 3 Try.f3 rfl rfl rfl rfl rfl rfl rfl ⟨rfl, rfl, rfl, rfl, rfl⟩ rfl rfl rfl rfl rfl (by kernel_rfl) Try.func3 (by kernel_rfl)
    (of_decide_eq_true (by kernel_rfl)) (by unfold Func.isWrapper; first | (rw [if_pos (by decide +kernel)]; kernel_rfl) | (rw [if_neg (by decide +kernel)]; exact ⟨rfl, rfl⟩))
    (fun os started H enc _ => lifted os started H enc)

end Go.Proofs.Ytnacchldecjcaaa.lawCallsNames
