/- The walk of RepliesNames: it answers true, and old memory stands. -/
import Derived.Test.YtbjemihcbbiiaaaRows
import Derived.Test.YtbjemihcbbiiaaaRpAw
import Derived.Test.YtbjemihcbbiiaaaLaw
import Derived.JoinedCond
import Derived.OpenShut
import Derived.Deep.CutBlock
namespace Go.Proofs.Ytbjemihcbbiiaaa.lawRepliesNames
open Go Go.RowKit Go.ChangeShapes Go.WideShapes Go.ChangeAt
set_option linter.unusedVariables false
set_option linter.unusedSimpArgs false
open RP (Kp St)
open WM (Msg)
set_option maxRecDepth 100000
def nm : Nat → St
  | 0 => RP.st0
  | k + 1 => RP.keepSt (nm k) (askM 1 ((k : Int) + 1) 1) (refM 1 ((k : Int) + 1))
theorem nm_all : ((List.range 8).all fun k => RP.kept (nm k) (askM 1 ((k : Int) + 1) 1) (refM 1 ((k : Int) + 1))) = true := by kernel_rfl
theorem nm_kept {k : Nat} (h : k < 8) : RP.kept (nm k) (askM 1 ((k : Int) + 1) 1) (refM 1 ((k : Int) + 1)) = true := by
  have := nm_all
  rw [List.all_eq_true] at this
  exact this k (List.mem_range.2 h)
def sN0 : St := nm 8
theorem sN0_eq : nm 8 = sN0 := rfl
def sN1 : St := RP.seenSt sN0 (askM 1 9 1)
def sN2 : St := RP.seenSt sN1 (askM 1 9 2)
def sN3 : St := RP.seenSt sN2 (askM 2 1 1)
theorem vN1 : RP.verdict sN0 (askM 1 9 1) = 1 := by kernel_rfl
theorem aN1 : RP.answer sN0 (askM 1 9 1) = WM.zero := by kernel_rfl
theorem nN1 : RP.len sN1 1 = 8 := by kernel_rfl
theorem vN2 : RP.verdict sN1 (askM 1 9 2) = 3 := by kernel_rfl
theorem aN2 : RP.answer sN1 (askM 1 9 2) = WM.zero := by kernel_rfl
theorem vN3 : RP.verdict sN2 (askM 2 1 1) = 3 := by kernel_rfl
theorem aN3 : RP.answer sN2 (askM 2 1 1) = WM.zero := by kernel_rfl
theorem nN3a : RP.len sN3 1 = 0 := by kernel_rfl
theorem nN3b : RP.len sN3 8 = 0 := by kernel_rfl
theorem nN3c : RP.len sN3 (-1) = 0 := by kernel_rfl
set_option maxHeartbeats 40000000 in
theorem walk (w : World) : Calls Try.prog 3 #[] w fun e w' => e = .returned (.bool true) ∧ Below w.heap.size w w' := by
  go_enter Try.func3, Try.ntmps3
  go_upto_region 2 with (go_at_call 8; refine (New_any w).mono ?_; rintro e w3 ⟨rfl, rfl⟩)
  have HR0 := Lib.hid (Rt.new (Below.refl w.heap.size w))
  generalize w.alloc (.cells zrep.toArray 67) = w1 at HR0 ⊢
  go_wp2_with (go_at_call 9; refine (awake_any w1).mono ?_; rintro e w2 ⟨rfl, hb⟩; replace HR0 := Lib.hid (HR0.out.below hb); clear hb)
  go_loopw [2] (fun iv wx => ∃ k : Nat, iv = .int .i64 ((k : Int) + 1) ∧ k ≤ 8 ∧ Hid (Rt w wx w.heap.size (nm k))) (fun iv _ => 9 - (intOf iv).toNat)
  case atStart => exact ⟨0, rfl, Nat.zero_le _, HR0⟩
  case round =>
    obtain ⟨k, rfl, hk, HR⟩ := hrel
    by_cases hk8 : k < 8
    · have d1 : ((k : Int) + 1 ≤ 8) := by omega
      have hw : IntKind.i64.wrap ((k : Int) + 1 + 1) = (k : Int) + 1 + 1 := IntWalk.i64_in _ (by omega)
      have HKK := Lib.hid (nm_kept hk8)
      go_wp2_with (first | (go_at_call 11; refine (l_ask _ _ _ _).mono ?_; rintro e w3 ⟨rfl, hb⟩; replace HR := Lib.hid (HR.out.below hb); clear hb) | (go_at_call 12; refine (l_ref _ _ _).mono ?_; rintro e w3 ⟨rfl, hb⟩; replace HR := Lib.hid (HR.out.below hb); clear hb) | (go_at_call 10; refine (Rt.keep HR.out (askM 1 ((k : Int) + 1) 1) (refM 1 ((k : Int) + 1)) (wide_ask (by unfold In64; omega) (by unfold In64; omega) (by unfold In64; omega)) rfl (wide_ref (by unfold In64; omega) (by unfold In64; omega)) rfl).mono ?_; rintro e w4 ⟨rfl, h⟩; have HR9 : Hid (Rt w w4 w.heap.size (nm (k + 1))) := h; clear h HR; rw [HKK.out]))
      go_roundw
      case rel => exact ⟨k + 1, by simp, by omega, HR9⟩
      case measure => simp [intOf]; omega
    · have e8 : k = 8 := by omega
      have d1 : ¬ ((k : Int) + 1 ≤ 8) := by omega
      obtain ⟨s0, s1, s2, s3, e0, e1, e2, e3, v1, a1, n1, v2, a2, v3, a3, n3a, n3b, n3c⟩ : ∃ s0 s1 s2 s3 : St, nm 8 = s0 ∧ RP.seenSt s0 (askM 1 9 1) = s1 ∧ RP.seenSt s1 (askM 1 9 2) = s2 ∧ RP.seenSt s2 (askM 2 1 1) = s3 ∧ RP.verdict s0 (askM 1 9 1) = 1 ∧ RP.answer s0 (askM 1 9 1) = WM.zero ∧ RP.len s1 1 = 8 ∧ RP.verdict s1 (askM 1 9 2) = 3 ∧ RP.answer s1 (askM 1 9 2) = WM.zero ∧ RP.verdict s2 (askM 2 1 1) = 3 ∧ RP.answer s2 (askM 2 1 1) = WM.zero ∧ RP.len s3 1 = 0 ∧ RP.len s3 8 = 0 ∧ RP.len s3 (-1) = 0 :=
        ⟨sN0, sN1, sN2, sN3, rfl, rfl, rfl, rfl, vN1, aN1, nN1, vN2, aN2, vN3, aN3, nN3a, nN3b, nN3c⟩
      rw [e8, e0] at HR
      clear e0 hk hk8 e8
      have E1 := Lib.hid e1
      have E2 := Lib.hid e2
      have E3 := Lib.hid e3
      have V1 := Lib.hid (And.intro v1 a1)
      have V2 := Lib.hid (And.intro v2 a2)
      have V3 := Lib.hid (And.intro v3 a3)
      have N1 := Lib.hid n1
      have N3 := Lib.hid (And.intro n3a (And.intro n3b n3c))
      clear e1 e2 e3 v1 a1 n1 v2 a2 v3 a3 n3a n3b n3c
      go_upto_region 9 with (fail)
      go_cut [3, 4] from 31 to 36 (fun v p wx => v = .int .i64 1 ∧ Hid (Rt w wx w.heap.size s1))
      case first =>
        go_wp2_with (first | (go_at_call 11; refine (l_ask _ _ _ _).mono ?_; rintro e w3 ⟨rfl, hb⟩; replace HR := Lib.hid (HR.out.below hb); clear hb) | (go_at_call 13; refine (Rt.seen HR.out (askM 1 9 1) (wide_ask (by unfold In64; omega) (by unfold In64; omega) (by unfold In64; omega)) rfl).mono ?_; rintro e w4 ⟨A1, c1, rfl, h, hm⟩; have HR1 : Hid (Rt w w4 w.heap.size s1) := (by rw [← E1.out]; exact h); clear h HR; clear hm; rw [V1.out.1, V1.out.2]; unfold cellsM WM.zero))
        go_meet
        exact ⟨rfl, Lib.hid (HR1.out.alloc _)⟩
      case rest =>
      clear HR
      obtain ⟨rfl, HR⟩ := hcut
      go_upto_region 12 with ((go_at_call 14; refine (Rt.len HR.out (1)).mono ?_; rintro e w3 ⟨rfl, h⟩; replace HR := h; clear h; rw [N1.out]))
      go_cut [5, 6] from 44 to 49 (fun v p wx => v = .int .i64 3 ∧ Hid (Rt w wx w.heap.size s2))
      case first =>
        go_wp2_with (first | (go_at_call 11; refine (l_ask _ _ _ _).mono ?_; rintro e w3 ⟨rfl, hb⟩; replace HR := Lib.hid (HR.out.below hb); clear hb) | (go_at_call 13; refine (Rt.seen HR.out (askM 1 9 2) (wide_ask (by unfold In64; omega) (by unfold In64; omega) (by unfold In64; omega)) rfl).mono ?_; rintro e w4 ⟨A1, c1, rfl, h, hm⟩; have HR1 : Hid (Rt w w4 w.heap.size s2) := (by rw [← E2.out]; exact h); clear h HR; clear hm; rw [V2.out.1, V2.out.2]; unfold cellsM WM.zero))
        go_meet
        exact ⟨rfl, Lib.hid (HR1.out.alloc _)⟩
      case rest =>
      clear HR
      obtain ⟨rfl, HR⟩ := hcut
      go_upto_region 13 with (fail)
      go_cut [7, 8] from 50 to 55 (fun v p wx => v = .int .i64 3 ∧ Hid (Rt w wx w.heap.size s3))
      case first =>
        go_wp2_with (first | (go_at_call 11; refine (l_ask _ _ _ _).mono ?_; rintro e w3 ⟨rfl, hb⟩; replace HR := Lib.hid (HR.out.below hb); clear hb) | (go_at_call 13; refine (Rt.seen HR.out (askM 2 1 1) (wide_ask (by unfold In64; omega) (by unfold In64; omega) (by unfold In64; omega)) rfl).mono ?_; rintro e w4 ⟨A1, c1, rfl, h, hm⟩; have HR1 : Hid (Rt w w4 w.heap.size s3) := (by rw [← E3.out]; exact h); clear h HR; clear hm; rw [V3.out.1, V3.out.2]; unfold cellsM WM.zero))
        go_meet
        exact ⟨rfl, Lib.hid (HR1.out.alloc _)⟩
      case rest =>
      clear HR
      obtain ⟨rfl, HR⟩ := hcut
      go_wp2_with fail
      refine (Rt.len HR.out (1)).mono ?_
      rintro e w3 ⟨rfl, h⟩
      replace HR := h
      clear h
      rw [N3.out.1]
      go_wp2_with fail
      refine (Rt.len HR.out (8)).mono ?_
      rintro e w3 ⟨rfl, h⟩
      replace HR := h
      clear h
      rw [N3.out.2.1]
      go_wp2_with fail
      refine (Rt.len HR.out (-1)).mono ?_
      rintro e w3 ⟨rfl, h⟩
      replace HR := h
      clear h
      rw [N3.out.2.2]
      go_wp2_with fail
      go_ret
      exact ⟨rfl, HR.out.bel⟩

end Go.Proofs.Ytbjemihcbbiiaaa.lawRepliesNames
