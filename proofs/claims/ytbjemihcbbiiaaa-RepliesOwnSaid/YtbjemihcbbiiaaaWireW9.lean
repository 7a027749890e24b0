/- Whether two messages are one; whether two lists, two rows of bytes are: the calls of layer 6. -/
import Derived.Test.YtbjemihcbbiiaaaWireF
import Derived.Test.YtbjemihcbbiiaaaWireA
import Derived.Test.YtbjemihcbbiiaaaOctB
namespace Go.Proofs.Ytbjemihcbbiiaaa
open Go.RowKit
open Oct (BytesAt)
open WM (Msg)
set_option linter.unusedVariables false
set_option maxRecDepth 100000
set_option maxHeartbeats 2000000 in
theorem Equal_any (A B : Option Addr) (c d : Nat) (a b : List Int) (w : World) (hA : IntsAt w A a) (hB : IntsAt w B b) (ha : a.length ≤ c) (hb : b.length ≤ d) (hc : c ≤ 9223372036854775807) (hd : d ≤ 9223372036854775807) :
    Calls Try.prog 63 #[.slice A a.length c, .slice B b.length d] w fun e w' => e = .returned (.bool (decide (a = b))) ∧ Below w.heap.size w w' := by
  have HA := Lib.hid hA; clear hA
  have HB := Lib.hid hB; clear hB
  by_cases hlen : a.length = b.length
  · go_enter Try.func63, Try.ntmps63
    rw [← hlen]
    go_wp2_with fail
    go_loopw [5, 13] (fun _ i wx => ∃ k : Nat, i = .int .i64 (k : Int) ∧ k ≤ a.length ∧ Below w.heap.size w wx ∧ Hid (a.take k = b.take k)) (fun _ i _ => a.length - (intOf i).toNat)
    case atStart => exact ⟨0, rfl, by omega, Below.refl _ _, Lib.hid (by rw [List.take_zero, List.take_zero])⟩
    case round =>
      obtain ⟨k, rfl, hk, hW, HT⟩ := hrel
      have HW := Lib.hid hW; clear hW
      by_cases hlt : k < a.length
      · have hltb : k < b.length := by omega
        obtain ⟨ba, oa, eA, _, hca⟩ := (HA.out.below HW.out) (by omega)
        obtain ⟨bb, ob, eB, _, hcb⟩ := (HB.out.below HW.out) (by omega)
        subst eA
        subst eB
        have ca := hca k a[k] (List.getElem?_eq_getElem hlt)
        have cb := hcb k b[k] (List.getElem?_eq_getElem hltb)
        clear hca hcb
        by_cases he : a[k] = b[k]
        · have HS := Lib.hid (take_same HT.out hlt hltb he)
          rw [← he] at cb
          clear he
          generalize a[k] = x at ca cb
          go_wp2_with fail
          go_region
          all_goals
            go_wp2
            go_roundw
            case rel => exact ⟨k + 1, rfl, by omega, HW.out.drew, HS⟩
            case measure => simp only [intOf]; omega
        · have HN := Lib.hid (take_not hlt hltb he)
          have hd2 : (a[k] == b[k]) = false := by simpa using he
          have hd3 : (a[k] != b[k]) = true := by simpa using he
          clear he
          generalize a[k] = x at ca hd2 hd3
          generalize b[k] = y at cb hd2 hd3
          go_wp2_with fail
          go_region
          all_goals
            go_wp2
            try rw [Exit.noGoto_ret]
            go_ret
            exact ⟨ret_bool (decide_eq_false HN.out).symm, HW.out.drew⟩
      · have HE := Lib.hid (show a = b by have := HT.out; rwa [List.take_of_length_le (by omega), List.take_of_length_le (by omega)] at this)
        go_wp2_with fail
        go_ret
        exact ⟨ret_bool (decide_eq_true HE.out).symm, HW.out⟩
  · go_enter Try.func63, Try.ntmps63
    go_wp2_with fail
    go_ret
    exact ⟨ret_bool (decide_eq_false (fun e => hlen (by rw [e]))).symm, Below.refl _ _⟩
end Go.Proofs.Ytbjemihcbbiiaaa
