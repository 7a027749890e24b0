/- No two lists have one text. -/
import Derived.Test.YthhkgdknmehaoaaDoorStampsMath
namespace Go.Proofs.YthhkgdknmehaoaaDoor.SM
/-- The number that digits spell. -/
def val (l : List UInt8) : Nat := l.foldl (fun v c => 10 * v + (c.toNat - 48)) 0
theorem val_snoc (l : List UInt8) (c : UInt8) : val (l ++ [c]) = 10 * val l + (c.toNat - 48) := by unfold val; rw [List.foldl_append]; rfl
theorem val_digits : ∀ n : Nat, val (digits n) = n := by
  intro n
  induction n using Nat.strongRecOn with
  | ind n ih =>
    by_cases h : n < 10
    · rw [digits_low h]
      show 10 * 0 + ((dig n).toNat - 48) = n
      rw [dig_nat h]; omega
    · rw [digits_high h, val_snoc, ih (n / 10) (by omega), dig_nat (by omega)]
      omega
theorem digits_inj {m n : Nat} (h : digits m = digits n) : m = n := by
  have e := congrArg val h
  rwa [val_digits, val_digits] at e
theorem digits_head {n : Nat} {c : UInt8} {r : List UInt8} (h : digits n = c :: r) : c ≠ 45 := by
  intro e
  have := digits_all n c (by rw [h]; simp)
  rw [e] at this
  have h45 : (45 : UInt8).toNat = 45 := rfl
  omega
theorem dec_inj {x y : Int} (h : dec x = dec y) : x = y := by
  unfold dec at h
  split at h
  · split at h
    · injection h with _ h
      have := digits_inj h
      omega
    · exact absurd rfl (digits_head h.symm)
  · split at h
    · exact absurd rfl (digits_head h)
    · have := digits_inj h
      omega
theorem dec_bytes {x : Int} : ∀ c ∈ dec x, c ≠ 46 := by
  intro c hc e
  have h46 : (46 : UInt8).toNat = 46 := rfl
  have h45 : (45 : UInt8).toNat = 45 := rfl
  unfold dec at hc
  split at hc
  · rcases List.mem_cons.1 hc with h | h
    · rw [h] at e; rw [← e] at h46; omega
    · have := digits_all _ c h
      rw [e] at this; omega
  · have := digits_all _ c hc
    rw [e] at this; omega
theorem dec_ne (x : Int) : dec x ≠ [] := by
  unfold dec
  split
  · simp
  · exact digits_ne _
/-- Parting at the first point. -/
theorem parted : ∀ {p q u v : List UInt8}, (∀ c ∈ p, c ≠ 46) → (∀ c ∈ q, c ≠ 46) → p ++ 46 :: u = q ++ 46 :: v → p = q ∧ u = v
  | [], [], _, _, _, _, h => by injection h with _ h; exact ⟨rfl, h⟩
  | [], c :: q, _, _, _, hq, h => by injection h with h _; exact absurd h.symm (hq c (by simp))
  | c :: p, [], _, _, hp, _, h => by injection h with h _; exact absurd h (hp c (by simp))
  | c :: p, d :: q, u, v, hp, hq, h => by
    injection h with h1 h2
    obtain ⟨e1, e2⟩ := parted (fun x hx => hp x (List.mem_cons_of_mem _ hx)) (fun x hx => hq x (List.mem_cons_of_mem _ hx)) h2
    exact ⟨by rw [h1, e1], e2⟩
theorem body_inj : ∀ {a b : List Int}, a ≠ [] → b ≠ [] → body a = body b → a = b
  | [], _, h, _, _ => absurd rfl h
  | _, [], _, h, _ => absurd rfl h
  | [x], [y], _, _, h => by rw [dec_inj (show dec x = dec y from h)]
  | [x], y :: z :: r, _, _, h => absurd rfl (dec_bytes (x := x) 46 (by rw [show dec x = dec y ++ 46 :: body (z :: r) from h]; simp))
  | y :: z :: r, [x], _, _, h => absurd rfl (dec_bytes (x := x) 46 (by rw [← show dec y ++ 46 :: body (z :: r) = dec x from h]; simp))
  | x :: x2 :: r, y :: y2 :: t, _, _, h => by
    obtain ⟨e1, e2⟩ := parted dec_bytes dec_bytes (show dec x ++ 46 :: body (x2 :: r) = dec y ++ 46 :: body (y2 :: t) from h)
    rw [dec_inj e1, body_inj (by simp) (by simp) e2]
theorem body_dash {a : List Int} (h : a ≠ []) : body a ≠ [45] := by
  have key : ∀ (x : Int) (r : List UInt8), dec x ++ r ≠ [45] := by
    intro x r e
    unfold dec at e
    split at e
    · rw [List.cons_append] at e
      injection e with _ e
      exact digits_ne _ (List.append_eq_nil_iff.1 e).1
    · cases hd : digits x.toNat with
      | nil => exact digits_ne _ hd
      | cons c t =>
        rw [hd, List.cons_append] at e
        injection e with e _
        exact digits_head hd e
  match a, h with
  | [x], _ => intro e; exact key x [] (by rw [List.append_nil]; exact e)
  | x :: y :: r, _ => exact key x _
theorem text_inj {a b : List Int} (h : text a = text b) : a = b := by
  unfold text at h
  split at h
  · split at h
    · rw [‹a = []›, ‹b = []›]
    · exact absurd h.symm (body_dash ‹_›)
  · split at h
    · exact absurd h (body_dash ‹_›)
    · exact body_inj ‹_› ‹_› h
/-- A list's text is parsed just if the list is a stamp. -/
theorem parse_of_text (s : List Int) : parse (text s) = if valid s = true then (s, 0) else ([], 13) := by
  split
  · exact parse_text ‹_›
  · refine parse_unique (.inr ⟨rfl, rfl, fun x hv hx => ?_⟩)
    rw [text_inj hx] at hv
    exact absurd hv ‹_›
end Go.Proofs.YthhkgdknmehaoaaDoor.SM
