/- The library's numerals and pieces in the words of layer 4's own functions: a number's digits, what they read as, a stamp's text taken apart at its points. -/
import Derived.Test.YthhkgdknmehaoaaDoorStampsMath2
import Derived.Lib.Split
import Derived.Lib.AtoiAllCases
import Derived.Lib.ItoaNum
namespace Go.Proofs.YthhkgdknmehaoaaDoor.SM
theorem dec_digits (n : Nat) : Lib.decDigits n = digits n := by
  induction n using Nat.strongRecOn with
  | ind n ih =>
    by_cases h : n < 10
    · rw [Lib.decDigits, dif_pos h, digits_low h]; rfl
    · rw [Lib.decDigits, dif_neg h, digits_high h, ih (n / 10) (by omega)]; rfl
theorem itoa_dec (n : Int) : Lib.itoa n = dec n := by
  unfold Lib.itoa dec
  rw [dec_digits, dec_digits]
theorem read_digits (n : Nat) : ∀ r : List UInt8, n ≤ 1099511627776 → Lib.parseUint10 0 (digits n ++ r) = Lib.parseUint10 n r := by
  induction n using Nat.strongRecOn with
  | ind n ih =>
    intro r hn
    by_cases h : n < 10
    · have e := dig_nat h
      rw [digits_low h, List.singleton_append, Lib.parseUint10, e, if_pos (by omega), if_neg (by omega), if_neg (by omega)]
      congr 1
      omega
    · have e := dig_nat (n := n % 10) (by omega)
      rw [digits_high h, List.append_assoc, List.singleton_append, ih (n / 10) (by omega) _ (by omega), Lib.parseUint10, e, if_pos (by omega), if_neg (by omega), if_neg (by omega)]
      congr 1
      omega
theorem read_dec {x : Int} (h1 : 1 ≤ x) (h2 : x ≤ 1099511627776) : Lib.atoiAll (dec x) = .ok x := by
  rw [dec_pos (by omega)]
  have hr := read_digits x.toNat [] (by omega)
  rw [List.append_nil] at hr
  have hall := digits_all x.toNat
  cases hd : digits x.toNat with
  | nil => exact absurd hd (digits_ne _)
  | cons c t =>
    have hc := hall c (by rw [hd]; simp)
    rw [hd] at hr
    rw [Lib.atoiAll_plain c t (by omega) (by omega)]
    unfold Lib.parseMag
    rw [if_neg (by simp), hr, Lib.parseUint10]
    unfold Lib.signless
    simp only
    rw [if_neg (by omega)]
    congr 1
    omega
theorem index_no : ∀ {p : List UInt8}, (∀ c ∈ p, c ≠ 46) → Lib.index p [46] = -1
  | [], _ => rfl
  | c :: p, h => by
    have ih := index_no (p := p) (fun x hx => h x (List.mem_cons_of_mem _ hx))
    have hc : ((46 : UInt8) == c) = false := by
      have := h c (by simp)
      simpa using fun e => this e.symm
    rw [Lib.index, ih, if_neg (by simp [List.isPrefixOf, hc]), if_pos (by decide)]
theorem index_at : ∀ {p r : List UInt8}, (∀ c ∈ p, c ≠ 46) → Lib.index (p ++ 46 :: r) [46] = (p.length : Int)
  | [], r, _ => by
    show Lib.index (46 :: r) [46] = 0
    rw [Lib.index, if_pos (by simp [List.isPrefixOf])]
  | c :: p, r, h => by
    have ih := index_at (p := p) (r := r) (fun x hx => h x (List.mem_cons_of_mem _ hx))
    have hc : ((46 : UInt8) == c) = false := by
      have := h c (by simp)
      simpa using fun e => this e.symm
    have hn : ((p.length : Int) == -1) = false := by simp
    rw [List.cons_append, Lib.index, ih, if_neg (by simp [List.isPrefixOf, hc]), hn, if_neg (by decide)]
    simp
theorem split_body : ∀ {s : List Int} {k : Nat}, s ≠ [] → s.length ≤ k + 1 → Lib.splitK [46] 0 k (body s) = s.map dec
  | [], _, h, _ => absurd rfl h
  | [x], k, _, _ => by
    show Lib.splitK [46] 0 k (dec x) = [dec x]
    cases k with
    | zero => rfl
    | succ k => rw [Lib.splitK, index_no (fun c hc => dec_bytes c hc), if_pos (by decide)]
  | x :: y :: r, 0, _, h => by simp at h
  | x :: y :: r, k + 1, _, h => by
    have ih := split_body (s := y :: r) (k := k) (by simp) (by simpa using h)
    have hi := index_at (p := dec x) (r := body (y :: r)) (fun c hc => dec_bytes c hc)
    have hn : (((dec x).length : Int) == -1) = false := by simp
    show Lib.splitK [46] 0 (k + 1) (dec x ++ 46 :: body (y :: r)) = _
    rw [Lib.splitK, hi, hn, if_neg (by decide)]
    simp only [Int.toNat_natCast, Nat.add_zero, List.length_cons, List.length_nil, Nat.zero_add]
    rw [List.take_append_of_le_length (Nat.le_refl _), List.take_length, show (dec x ++ 46 :: body (y :: r)).drop ((dec x).length + 1) = body (y :: r) by rw [List.drop_append]; simp, ih]
    rfl
theorem body_count : ∀ s : List Int, s.length ≤ (body s).length
  | [] => Nat.le_refl _
  | [x] => by
    show 1 ≤ (dec x).length
    have := List.length_pos_iff.2 (dec_ne x)
    omega
  | x :: y :: r => by
    have ih := body_count (y :: r)
    show _ ≤ (dec x ++ 46 :: body (y :: r)).length
    simp only [List.length_cons, List.length_append] at *
    omega
theorem piece_le : ∀ {k : Nat} {l p : List UInt8}, p ∈ Lib.splitK [46] 0 k l → p.length ≤ l.length
  | 0, l, p, h => by
    have := List.mem_singleton.1 h
    rw [this]
    exact Nat.le_refl _
  | k + 1, l, p, h => by
    rw [Lib.splitK] at h
    split at h
    · have := List.mem_singleton.1 h
      rw [this]
      exact Nat.le_refl _
    · rcases List.mem_cons.1 h with h | h
      · rw [h, List.length_take]
        exact Nat.min_le_right _ _
      · have := piece_le h
        rw [List.length_drop] at this
        omega
/-- The pieces of a text at its points, five at most. -/
def pieces (t : List UInt8) : List (List UInt8) := Lib.splitK [46] 0 (min 5 (t.length + 1) - 1) t
theorem pieces_of {s : List Int} {t : List UInt8} (hv : valid s = true) (ht : text s = t) (h45 : t ≠ [45]) : (pieces t).map Lib.atoiAll = s.map Lib.NumEnd.ok := by
  have hs : s ≠ [] := fun e => by rw [e] at ht; exact h45 ht.symm
  have hb : body s = t := by unfold text at ht; rwa [if_neg hs] at ht
  obtain ⟨h4, hx⟩ := valid_iff.1 hv
  have hc := body_count s
  unfold pieces
  rw [← hb, split_body hs (by omega), List.map_map]
  refine List.map_congr_left fun x hm => ?_
  exact read_dec (hx x hm).1 (hx x hm).2
theorem parse_bad {t : List UInt8} (h45 : t ≠ [45]) {j : Nat} {p : List UInt8} (hp : (pieces t)[j]? = some p) (hb : ∀ v, Lib.atoiAll p ≠ .ok v) : parse t = ([], 13) := by
  refine parse_unique (.inr ⟨rfl, rfl, fun s hv ht => ?_⟩)
  have e := congrArg (fun l => l[j]?) (pieces_of hv ht h45)
  simp only [List.getElem?_map, hp, Option.map_some] at e
  cases hs : s[j]? with
  | none => rw [hs] at e; cases e
  | some x =>
    rw [hs] at e
    injection e with e
    exact hb x e
theorem parse_good {t : List UInt8} (h45 : t ≠ [45]) {xs : List Int} (hx : (pieces t).map Lib.atoiAll = xs.map Lib.NumEnd.ok) : parse t = if valid xs = true ∧ text xs = t then (xs, 0) else ([], 13) := by
  split
  · rename_i h
    exact parse_unique (.inl ⟨rfl, h.1, h.2⟩)
  · rename_i h
    refine parse_unique (.inr ⟨rfl, rfl, fun s hv ht => ?_⟩)
    have e := pieces_of hv ht h45
    rw [hx] at e
    have e2 : xs = s := by
      refine List.map_inj_right (fun a b hab => ?_) |>.1 e
      injection hab
    rw [e2] at h
    exact h ⟨hv, ht⟩
end Go.Proofs.YthhkgdknmehaoaaDoor.SM
