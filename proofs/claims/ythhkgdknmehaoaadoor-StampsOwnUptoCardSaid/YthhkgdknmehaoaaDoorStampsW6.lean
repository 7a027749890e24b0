/- The document's own answers of layer 4: a list's text. -/
import Derived.Test.YthhkgdknmehaoaaDoorStampsW5
namespace Go.Proofs.YthhkgdknmehaoaaDoor
open Go.RowKit
set_option linter.unusedVariables false
set_option maxRecDepth 100000
theorem body_len : ∀ (s : List Int), (∀ x ∈ s, -9223372036854775808 ≤ x ∧ x ≤ 9223372036854775807) → (SM.body s).length ≤ 21 * s.length
  | [], _ => Nat.le_refl _
  | [x], h => by
    have := dec_len (h x (by simp))
    show (SM.dec x).length ≤ 21 * 1
    omega
  | x :: y :: r, h => by
    have h1 := dec_len (h x (by simp))
    have h2 := body_len (y :: r) (fun z hz => h z (List.mem_cons_of_mem _ hz))
    show (SM.dec x ++ 46 :: SM.body (y :: r)).length ≤ _
    rw [List.length_append, List.length_cons]
    simp only [List.length_cons] at h2 ⊢
    omega
theorem body_first {l : List Int} (h : 0 < l.length) : txt (SM.body (l.take 0)) ++ txt (SM.dec l[0]) = txt (SM.body (l.take 1)) := by
  rw [txt_cat]
  cases l with
  | nil => cases h
  | cons x r => rfl
theorem body_next {l : List Int} {k : Nat} (h : k < l.length) (hk : 0 < k) : (txt (SM.body (l.take k)) ++ (⟨#[46]⟩ : ByteArray)) ++ txt (SM.dec l[k]) = txt (SM.body (l.take (k + 1))) := by
  have e : (⟨#[46]⟩ : ByteArray) = txt [46] := rfl
  rw [e, txt_cat, txt_cat, List.take_add_one, List.getElem?_eq_getElem h]
  have hne : l.take k ≠ [] := by
    intro e
    have := congrArg List.length e
    rw [List.length_take] at this
    simp only [List.length_nil] at this
    omega
  rw [Option.toList_some, SM.body_snoc _ hne, List.append_assoc]
  rfl
set_option maxHeartbeats 1000000 in
theorem RefText_any (A : Option Addr) (c : Nat) (l : List Int) (w : World) (hA : IntsAt w A l) (hl : l.length ≤ c) (hc : c ≤ 9223372036854775807) (h8 : l.length * 8 ≤ 140737488355328) (hx : ∀ x ∈ l, -9223372036854775808 ≤ x ∧ x ≤ 9223372036854775807) :
    Calls Tryd.prog 29 #[.slice A l.length c] w fun e w' => e = .returned (.string (txt (SM.text l))) ∧ Below w.heap.size w w' := by
  have HA := Lib.hid hA; clear hA
  have HX := Lib.hid hx; clear hx
  cases hn : l.length with
  | zero =>
    have HE := Lib.hid (show (⟨#[45]⟩ : ByteArray) = txt (SM.text l) by rw [List.length_eq_zero_iff.1 hn]; rfl)
    clear hl hn h8
    go_enter Tryd.func29, Tryd.ntmps29
    go_wp2_with fail
    go_ret
    exact ⟨ret_txt HE.out, Below.refl _ _⟩
  | succ n =>
    have HT := Lib.hid (show SM.text l = SM.body l from if_neg (fun e => by rw [e] at hn; cases hn))
    have HN := Lib.hid hn
    have hn8 : (n + 1) * 8 ≤ 140737488355328 := by omega
    have hnc : n + 1 ≤ c := by omega
    have hz0 : ((n : Int) + 1 == 0) = false := by simpa using (show ¬ (n : Int) + 1 = 0 by omega)
    clear hl hn h8
    go_enter Tryd.func29, Tryd.ntmps29
    go_wp2_with fail
    go_loopw [3, 4] (fun t i wx => ∃ k : Nat, i = .int .i64 (k : Int) ∧ k ≤ n + 1 ∧ t = .string (txt (SM.body (l.take k))) ∧ Below w.heap.size w wx) (fun _ i _ => n + 1 - (intOf i).toNat)
    case atStart => exact ⟨0, rfl, by omega, rfl, Below.refl _ _⟩
    case round =>
      obtain ⟨k, rfl, hk, rfl, hW⟩ := hrel
      have HW := Lib.hid hW; clear hW
      by_cases hlt : k < n + 1
      · have hkl : k < l.length := by rw [HN.out]; exact hlt
        obtain ⟨b, o, eA, _, hca⟩ := (HA.out.below HW.out) (by omega)
        subst eA
        have ca := hca k l[k] (List.getElem?_eq_getElem hkl)
        clear hca
        have hr := HX.out l[k] (List.getElem_mem hkl)
        have hs1 : (txt (SM.body (l.take k))).size ≤ 21 * k := by
          rw [txt_size]
          have := body_len (l.take k) (fun x hx => HX.out x (List.mem_of_mem_take hx))
          rw [List.length_take] at this
          omega
        have hs2 : (txt (SM.dec l[k])).size ≤ 20 := by rw [txt_size]; exact dec_len hr
        have HD := Lib.hid (fun w' => RefDecimal_any l[k] w' hr)
        by_cases hz : k = 0
        · subst hz
          have HS := Lib.hid (body_first hkl)
          generalize txt (SM.dec l[0]) = t2 at *
          generalize l[0] = x at ca hr HD
          generalize txt (SM.body (l.take 0)) = t1 at *
          have ca0 : wr.cell? ⟨b, o, none⟩ = some (.int .i64 x) := ca
          clear hkl ca
          go_wp2_with fail
          refine (HD.out _).mono ?_
          rintro z w2 ⟨rfl, hb⟩
          have HW2 := Lib.hid (below_on HW.out hb); clear hb
          go_wp2_with fail
          go_roundw
          case rel => exact ⟨1, rfl, by omega, by rw [← HS.out], HW2.out⟩
          case measure => simp only [intOf]; omega
        · have HS := Lib.hid (body_next hkl (by omega))
          have hk0 : 0 < k := by omega
          clear hz
          generalize txt (SM.dec l[k]) = t2 at *
          generalize l[k] = x at ca hr HD
          generalize txt (SM.body (l.take k)) = t1 at *
          clear hkl
          go_wp2_with fail
          refine (HD.out _).mono ?_
          rintro z w2 ⟨rfl, hb⟩
          have HW2 := Lib.hid (below_on HW.out hb); clear hb
          go_wp2_with fail
          go_roundw
          case rel => exact ⟨k + 1, rfl, by omega, by rw [← HS.out], HW2.out⟩
          case measure => simp only [intOf]; omega
      · have HE := Lib.hid (show txt (SM.body (l.take k)) = txt (SM.text l) by rw [HT.out, List.take_of_length_le (by rw [HN.out]; omega)])
        go_wp2_with fail
        go_ret
        exact ⟨ret_txt HE.out, HW.out⟩
end Go.Proofs.YthhkgdknmehaoaaDoor
