/- The document's own answers of layer 5: where an entry stands, modes, which entry stands ahead. -/
import Derived.Test.YtbgcjbekbeobnaaGreatDoorPsMem
import Derived.Test.YtbgcjbekbeobnaaGreatDoorPathsW4
namespace Go.Proofs.YtbgcjbekbeobnaaGreatDoor
open Go.RowKit
open SE (Ent)
set_option linter.unusedVariables false
set_option maxRecDepth 100000
set_option maxHeartbeats 1000000 in
theorem Find_any (A : Option Addr) (c : Nat) (l : List Ent) (id : Int) (w : World) (hA : EntsAt w A l) (hl : l.length ≤ c) (hc : c ≤ 9223372036854775807) :
    Calls Tryz.prog 18 #[.slice A l.length c, .int .i64 id] w fun e w' => e = .returned (.int .i64 (SE.find l id)) ∧ w = w' := by
  have HA := Lib.hid hA; clear hA
  go_enter Tryz.func18, Tryz.ntmps18
  go_wp2_with fail
  go_loop [5] (fun i => ∃ k : Nat, i = .int .i64 (k : Int) ∧ k ≤ l.length ∧ Hid (∀ j (hj : j < l.length), j < k → l[j].id ≠ id)) (fun i => l.length - (intOf i).toNat)
  case atStart => exact ⟨0, rfl, by omega, Lib.hid (fun j _ hj => by omega)⟩
  case round =>
    obtain ⟨k, rfl, hk, HT⟩ := hrel
    by_cases hlt : k < l.length
    · obtain ⟨b, o, eA, _, hca⟩ := HA.out (by omega)
      subst eA
      have ca := (hca k l[k] (List.getElem?_eq_getElem hlt)).1
      clear hca
      by_cases he : l[k].id = id
      · have HE := Lib.hid (SE.find_some hlt he (fun j hj => HT.out j (by omega) hj))
        rw [he] at ca
        clear he
        go_wp2_with fail
        go_ret
        exact ⟨ret_int HE.out.symm, rfl⟩
      · have HS := Lib.hid (show ∀ j (hj : j < l.length), j < k + 1 → l[j].id ≠ id from fun j hj h => by
          by_cases e : j = k
          · subst e; exact he
          · exact HT.out j hj (by omega))
        have hd : (l[k].id == id) = false := by simpa using he
        clear he
        generalize l[k].id = x at ca hd
        go_wp2_with fail
        go_round
        case rel => exact ⟨k + 1, rfl, by omega, HS⟩
        case measure => simp only [intOf]; omega
    · have HE := Lib.hid (SE.find_none (fun j hj => HT.out j hj (by omega)))
      go_wp2_with fail
      go_ret
      exact ⟨ret_int HE.out.symm, rfl⟩
theorem Mode_any (m : Int) (w : World) : Calls Tryz.prog 42 #[.int .i64 m] w fun e w' => e = .returned (.bool (SE.okMode m)) ∧ w = w' := by
  have HE := Lib.hid (show SE.okMode m = (decide (m = 1) || decide (m = 2)) from rfl)
  by_cases h1 : m = 1
  · subst h1
    go_enter Tryz.func42, Tryz.ntmps42
    go_wp2_with fail
    go_ret
    exact ⟨rfl, rfl⟩
  · have d1 : (m == 1) = false := by simpa using h1
    by_cases h2 : m = 2
    · subst h2
      go_enter Tryz.func42, Tryz.ntmps42
      go_wp2_with fail
      go_ret
      exact ⟨rfl, rfl⟩
    · have d2 : (m == 2) = false := by simpa using h2
      have HF := Lib.hid (show SE.okMode m = false by rw [HE.out, decide_eq_false h1, decide_eq_false h2]; rfl)
      clear h1 h2
      go_enter Tryz.func42, Tryz.ntmps42
      go_wp2_with fail
      go_ret
      exact ⟨ret_bool HF.out.symm, rfl⟩
theorem Together_any (a b : Int) (w : World) : Calls Tryz.prog 43 #[.int .i64 a, .int .i64 b] w fun e w' => e = .returned (.bool (SE.together a b)) ∧ w = w' := by
  have HE := Lib.hid (show SE.together a b = (decide (a = 1) && decide (b = 1)) from rfl)
  by_cases h1 : a = 1
  · subst h1
    by_cases h2 : b = 1
    · subst h2
      go_enter Tryz.func43, Tryz.ntmps43
      go_wp2_with fail
      go_ret
      exact ⟨rfl, rfl⟩
    · have d2 : (b == 1) = false := by simpa using h2
      have HF := Lib.hid (show SE.together 1 b = false by rw [HE.out, decide_eq_false h2]; rfl)
      clear h2
      go_enter Tryz.func43, Tryz.ntmps43
      go_wp2_with fail
      go_ret
      exact ⟨ret_bool HF.out.symm, rfl⟩
  · have d1 : (a == 1) = false := by simpa using h1
    have HF := Lib.hid (show SE.together a b = false by rw [HE.out, decide_eq_false h1]; rfl)
    clear h1
    go_enter Tryz.func43, Tryz.ntmps43
    go_wp2_with fail
    go_ret
    exact ⟨ret_bool HF.out.symm, rfl⟩
end Go.Proofs.YtbgcjbekbeobnaaGreatDoor
