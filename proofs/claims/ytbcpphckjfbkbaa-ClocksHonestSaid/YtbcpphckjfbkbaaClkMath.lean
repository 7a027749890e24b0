/- Clocks bs whole numbers: what a tick answers and does. -/
import Derived.Test.YtbcpphckjfbkbaaTermMath
namespace Go.Proofs.Ytbcpphckjfbkbaa.CK
set_option linter.unusedVariables false
/-- The clocks' times, true time, the drift. -/
structure Ck where
  ts : List Int
  tr : Int
  dr : Int
def late (t a : Int) : Bool := decide (1152921504606846976 - t < a)
def lateAny (ts bs : List Int) : Bool := (ts.zip bs).any fun p => late p.1 p.2
def back (a : Int) : Bool := decide (a < 0)
def neg (bs : List Int) : Bool := bs.any back
def drift (d dr : Int) (bs : List Int) : Int := bs.foldl (fun m a => max m (TM.least d a : Int)) dr
def err (c : Ck) (d : Int) (bs : List Int) : Int :=
  if bs.length ≠ c.ts.length ∨ d < 0 ∨ neg bs = true then 2 else if late c.tr d = true ∨ lateAny c.ts bs = true then 30 else 0
def go (c : Ck) (d : Int) (bs : List Int) : Ck := ⟨List.zipWith (· + ·) c.ts bs, c.tr + d, drift d c.dr bs⟩
def step (c : Ck) (d : Int) (bs : List Int) : Ck := if err c d bs = 0 then go c d bs else c
def zero (n : Nat) : Ck := ⟨List.replicate n 0, 0, 0⟩
structure Sound (c : Ck) : Prop where
  one : 1 ≤ c.ts.length
  le : c.ts.length ≤ 8
  ts : ∀ t ∈ c.ts, 0 ≤ t ∧ t ≤ 1152921504606846976
  tr : 0 ≤ c.tr ∧ c.tr ≤ 1152921504606846976
  dr : 0 ≤ c.dr ∧ c.dr ≤ 1000
theorem zero_sound {n : Nat} (h1 : 1 ≤ n) (h8 : n ≤ 8) : Sound (zero n) :=
  ⟨by simpa [zero] using h1, by simpa [zero] using h8, fun t ht => by rw [List.eq_of_mem_replicate ht]; omega, by simp [zero], by simp [zero]⟩
theorem drift_le (d : Int) : ∀ (bs : List Int) (r : Int), r ≤ drift d r bs
  | [], r => Int.le_refl r
  | a :: bs, r => Int.le_trans (Int.le_max_left _ _) (drift_le d bs _)
theorem drift_range (d : Int) : ∀ (bs : List Int) (r : Int), 0 ≤ r ∧ r ≤ 1000 → 0 ≤ drift d r bs ∧ drift d r bs ≤ 1000
  | [], r, h => h
  | a :: bs, r, h => drift_range d bs (max r (TM.least d a : Int)) ⟨by have := Int.le_max_left r (TM.least d a : Int); omega, by have := TM.least_le d a; rw [Int.max_def]; split <;> omega⟩
theorem drift_snoc (d r a : Int) (bs : List Int) : drift d r (bs ++ [a]) = max (drift d r bs) (TM.least d a : Int) := by simp [drift]
theorem drift_take {d r : Int} {bs : List Int} {k : Nat} (h : k < bs.length) : drift d r (bs.take (k + 1)) = max (drift d r (bs.take k)) (TM.least d bs[k] : Int) := by
  rw [List.take_add_one, List.getElem?_eq_getElem h, Option.toList_some, drift_snoc]
/-- The drift is at most r just if it was and all keep within it. -/
theorem drift_iff (d : Int) : ∀ (bs : List Int) (r b : Int), drift d r bs ≤ b ↔ r ≤ b ∧ ∀ a ∈ bs, (TM.least d a : Int) ≤ b
  | [], r, b => by simp [drift]
  | a :: bs, r, b => by
    show drift d (max r (TM.least d a : Int)) bs ≤ b ↔ _
    rw [drift_iff d bs]
    simp only [List.mem_cons, forall_eq_or_imp, Int.max_le]
    exact ⟨fun h => ⟨h.1.1, h.1.2, h.2⟩, fun h => ⟨⟨h.1, h.2.1⟩, h.2.2⟩⟩
theorem lateAny_true {ts bs : List Int} {i : Nat} (h1 : i < ts.length) (h2 : i < bs.length) (h : late ts[i] bs[i] = true) : lateAny ts bs = true := by
  unfold lateAny
  rw [List.any_eq_true]
  refine ⟨(ts[i], bs[i]), ?_, h⟩
  have : (ts.zip bs)[i]'(by rw [List.length_zip]; omega) = (ts[i], bs[i]) := List.getElem_zip
  rw [← this]
  exact List.getElem_mem _
theorem lateAny_false {ts bs : List Int} (h : ∀ i (h1 : i < ts.length) (h2 : i < bs.length), late ts[i] bs[i] = false) : lateAny ts bs = false := by
  unfold lateAny
  rw [List.any_eq_false]
  intro p hp
  obtain ⟨i, hi, rfl⟩ := List.getElem_of_mem hp
  rw [List.length_zip] at hi
  rw [List.getElem_zip, h i (by omega) (by omega)]
  decide
theorem lateAny_not {ts bs : List Int} (h : lateAny ts bs = false) {i : Nat} (h1 : i < ts.length) (h2 : i < bs.length) : late ts[i] bs[i] = false := by
  cases e : late ts[i] bs[i] with
  | false => rfl
  | true => rw [lateAny_true h1 h2 e] at h; cases h
theorem neg_false {bs : List Int} (h : ∀ a ∈ bs, 0 ≤ a) : neg bs = false := by
  unfold neg
  rw [List.any_eq_false]
  intro a ha
  have := h a ha
  simp [back]; omega
theorem neg_not {bs : List Int} (h : neg bs = false) : ∀ a ∈ bs, 0 ≤ a := by
  intro a ha
  have := List.any_eq_false.1 h a ha
  simp [back] at this; omega
theorem neg_true {bs : List Int} {a : Int} (ha : a ∈ bs) (h : a < 0) : neg bs = true := List.any_eq_true.2 ⟨a, ha, by simp [back, h]⟩
theorem err_ok {c : Ck} {d : Int} {bs : List Int} : err c d bs = 0 ↔ bs.length = c.ts.length ∧ 0 ≤ d ∧ neg bs = false ∧ late c.tr d = false ∧ lateAny c.ts bs = false := by
  unfold err
  split
  · rename_i h
    refine ⟨fun h => absurd h (by decide), fun k => ?_⟩
    rcases h with h | h | h
    · exact absurd k.1 h
    · omega
    · rw [k.2.2.1] at h; cases h
  · rename_i h
    have h1 : bs.length = c.ts.length := Classical.byContradiction fun e => h (.inl e)
    have h2 : 0 ≤ d := by have : ¬ d < 0 := fun e => h (.inr (.inl e)); omega
    have h3 : neg bs = false := by cases e : neg bs with | false => rfl | true => exact absurd (.inr (.inr e)) h
    split
    · rename_i h'
      refine ⟨fun h => absurd h (by decide), fun k => ?_⟩
      rcases h' with h' | h'
      · rw [k.2.2.2.1] at h'; cases h'
      · rw [k.2.2.2.2] at h'; cases h'
    · rename_i h'
      refine ⟨fun _ => ⟨h1, h2, h3, ?_, ?_⟩, fun _ => rfl⟩
      · cases e : late c.tr d with | false => rfl | true => exact absurd (.inl e) h'
      · cases e : lateAny c.ts bs with | false => rfl | true => exact absurd (.inr e) h'
theorem err_range {c : Ck} {d : Int} {bs : List Int} (h : bs.length ≠ c.ts.length ∨ d < 0 ∨ neg bs = true) : err c d bs = 2 := if_pos h
theorem err_time {c : Ck} {d : Int} {bs : List Int} (h1 : bs.length = c.ts.length) (h2 : 0 ≤ d) (h3 : neg bs = false) (h : late c.tr d = true ∨ lateAny c.ts bs = true) : err c d bs = 30 := by
  unfold err
  rw [if_neg (fun h => h.elim (fun h => h h1) (fun h => h.elim (fun h => absurd h (by omega)) (fun h => by rw [h3] at h; cases h))), if_pos h]
theorem step_ok {c : Ck} {d : Int} {bs : List Int} (h : err c d bs = 0) : step c d bs = go c d bs := if_pos h
theorem step_no {c : Ck} {d : Int} {bs : List Int} (h : err c d bs ≠ 0) : step c d bs = c := if_neg h
theorem late_not {t a : Int} : late t a = false ↔ a ≤ 1152921504606846976 - t := by simp [late]
theorem go_len {c : Ck} {d : Int} {bs : List Int} (h : bs.length = c.ts.length) : (go c d bs).ts.length = c.ts.length := by simp [go, h]
theorem go_at {c : Ck} {d : Int} {bs : List Int} {i : Nat} (h1 : i < c.ts.length) (h2 : i < bs.length) : (go c d bs).ts[i]? = some (c.ts[i] + bs[i]) := by
  show (List.zipWith (· + ·) c.ts bs)[i]? = _
  rw [List.getElem?_zipWith, List.getElem?_eq_getElem h1, List.getElem?_eq_getElem h2]
theorem step_sound {c : Ck} {d : Int} {bs : List Int} (h : Sound c) : Sound (step c d bs) := by
  by_cases e : err c d bs = 0
  · rw [step_ok e]
    obtain ⟨h1, h2, h3, h4, h5⟩ := err_ok.1 e
    refine ⟨by rw [go_len h1]; exact h.one, by rw [go_len h1]; exact h.le, fun t ht => ?_, ?_, drift_range d bs c.dr h.dr⟩
    · obtain ⟨i, hi, rfl⟩ := List.getElem_of_mem ht
      rw [go_len h1] at hi
      have e2 := go_at (d := d) hi (show i < bs.length by omega)
      rw [List.getElem?_eq_getElem (by rw [go_len h1]; exact hi)] at e2
      rw [Option.some.inj e2]
      have k1 := h.ts _ (List.getElem_mem hi)
      have k2 := neg_not h3 _ (List.getElem_mem (show i < bs.length by omega))
      have k3 := late_not.1 (lateAny_not h5 hi (show i < bs.length by omega))
      omega
    · have := h.tr
      have := late_not.1 h4
      show 0 ≤ c.tr + d ∧ c.tr + d ≤ _
      omega
  · rw [step_no e]; exact h
theorem step_len {c : Ck} {d : Int} {bs : List Int} : (step c d bs).ts.length = c.ts.length := by
  by_cases e : err c d bs = 0
  · rw [step_ok e, go_len (err_ok.1 e).1]
  · rw [step_no e]
theorem zip_eq {ts bs us : List Int} (hl : bs.length = ts.length) (hu : us.length = ts.length) (h : ∀ i (h1 : i < ts.length) (h2 : i < bs.length), us[i]? = some (ts[i] + bs[i])) : us = List.zipWith (· + ·) ts bs := by
  refine List.ext_getElem? fun i => ?_
  by_cases hi : i < ts.length
  · rw [h i hi (by omega), List.getElem?_zipWith, List.getElem?_eq_getElem hi, List.getElem?_eq_getElem (show i < bs.length by omega)]
  · rw [List.getElem?_eq_none (by omega), List.getElem?_eq_none (by rw [List.length_zipWith]; omega)]
end Go.Proofs.Ytbcpphckjfbkbaa.CK
