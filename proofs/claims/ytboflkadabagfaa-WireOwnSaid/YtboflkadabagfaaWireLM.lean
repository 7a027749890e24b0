/- Messages and their bytes: there and back, one form, a turned byte. -/
import Derived.Test.YtboflkadabagfaaWireW12
namespace Go.Proofs.Ytboflkadabagfaa
open WM (Msg)
set_option linter.unusedVariables false
set_option maxRecDepth 100000
theorem by8_inj {a b : Nat} (ha : a < 256) (hb : b < 256) (h : OM.by8 a = OM.by8 b) : a = b := by
  have h1 := congrArg UInt8.toNat h
  rwa [OM.by8_nat ha, OM.by8_nat hb] at h1
theorem four_inj {x y : Nat} (hx : x < 4294967296) (hy : y < 4294967296) (h : Oct.four x = Oct.four y) : x = y := by
  unfold Oct.four at h
  simp only [List.cons.injEq, and_true] at h
  obtain ⟨h0, h1, h2, h3⟩ := h
  have e0 := by8_inj (by omega) (by omega) h0
  have e1 := by8_inj (by omega) (by omega) h1
  have e2 := by8_inj (by omega) (by omega) h2
  have e3 := by8_inj (by omega) (by omega) h3
  omega
theorem valid_used {m : Msg} (h : WM.valid m = true) : WM.used m = m := by
  unfold WM.valid at h
  simp only [Bool.and_eq_true, decide_eq_true_eq] at h
  exact h.2
theorem taken_enc {m : Msg} (h : WM.valid m = true) : WM.taken 4 (enc m) = m := by
  unfold enc
  rw [WM.taken_body 4 _ (valid_is h) (Nat.le_refl _), valid_used h]
theorem dec_enc {m : Msg} (h : WM.valid m = true) : dec (enc m) = true := by
  have h1 := taken_enc h
  have h2 := enc_len h
  unfold dec
  rw [h1, h, decide_eq_true rfl, decide_eq_true (by omega)]
  rfl
theorem enc_inj {m n : Msg} (hm : WM.valid m = true) (hn : WM.valid n = true) (h : enc m = enc n) : m = n := by
  rw [← taken_enc hm, ← taken_enc hn, h]
theorem enc_long {m : Msg} : 4 < (enc m).length := by
  unfold enc WM.body
  have h1 : 0 < (WM.nums [m.kind, m.frm, m.dst]).length := by
    unfold WM.nums
    rw [List.length_append]
    have := OM.enc_pos m.kind.toNat
    omega
  rw [List.length_append, List.length_append, four_len]
  omega
/-- A turned byte is told. -/
theorem dec_turned {m : Msg} (hm : WM.valid m = true) (k : Nat) (hk : k < (enc m).length) (d : UInt8) (hd : (enc m)[k] ≠ d) : dec ((enc m).set k d) = false := by
  cases he : dec ((enc m).set k d) with
  | false => rfl
  | true =>
    exfalso
    unfold dec at he
    simp only [Bool.and_eq_true, decide_eq_true_eq] at he
    obtain ⟨_, hv, he⟩ := he
    generalize WM.taken 4 ((enc m).set k d) = n at hv he
    have hl : (WM.body n).length = (WM.body m).length := by
      have h1 := congrArg List.length he
      rw [List.length_set] at h1
      unfold enc at h1
      rw [List.length_append, List.length_append, four_len, four_len] at h1
      omega
    unfold enc at he hk
    by_cases hlt : k < (WM.body m).length
    · rw [List.set_append_left _ _ hlt] at he
      have e1 := List.append_inj he (by rw [List.length_set]; exact hl)
      have e2 : (WM.body m)[k] ≠ d := by
        intro e
        apply hd
        unfold enc
        rw [List.getElem_append_left hlt]
        exact e
      have e3 := four_inj (OM.sum_lt _) (OM.sum_lt _) e1.2
      rw [e1.1] at e3
      have s1 : WM.body m = (WM.body m).take k ++ (WM.body m)[k] :: (WM.body m).drop (k + 1) := by
        rw [← List.drop_eq_getElem_cons hlt, List.take_append_drop]
      have s2 : (WM.body m).set k d = (WM.body m).take k ++ d :: (WM.body m).drop (k + 1) := by
        rw [List.set_eq_take_append_cons_drop, if_pos hlt]
      rw [s2] at e3
      rw [congrArg OM.sum s1] at e3
      exact OM.sum_turned _ _ _ _ e2 e3.symm
    · rw [List.set_append_right _ _ (by omega)] at he
      have e1 := List.append_inj he hl
      rw [e1.1] at e1
      have e2 := e1.2
      have hk4 : k - (WM.body m).length < (Oct.four (OM.sum (WM.body m))).length := by
        rw [List.length_append] at hk
        omega
      have e3 : (Oct.four (OM.sum (WM.body m)))[k - (WM.body m).length] = d := by
        have h1 : (Oct.four (OM.sum (WM.body m)))[k - (WM.body m).length]? = some d := by
          rw [e2, List.getElem?_set_self hk4]
        rw [List.getElem?_eq_getElem hk4] at h1
        exact Option.some.inj h1
      apply hd
      unfold enc
      rw [List.getElem_append_right (by omega)]
      exact e3
end Go.Proofs.Ytboflkadabagfaa
