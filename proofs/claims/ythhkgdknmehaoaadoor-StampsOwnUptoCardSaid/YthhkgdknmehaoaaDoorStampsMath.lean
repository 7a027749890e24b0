/- What layer 4's calls answer, as functions of lists of numbers and of bytes: the order of lists, what is under what, the longer and the next stamp, the text of a list and the stamp of a text. -/
import Init.Data.List.Lemmas
import Init.Data.List.Sublist
import Init.Data.Int.Order
import Init.Data.UInt.Lemmas
import Init.Omega
namespace Go.Proofs.YthhkgdknmehaoaaDoor.SM

/-- Which one is the earlier. -/
def cmp : List Int → List Int → Int
  | [], [] => 0
  | [], _ :: _ => -1
  | _ :: _, [] => 1
  | x :: a, y :: b => if x < y then -1 else if y < x then 1 else cmp a b
def count (x : Int) : Bool := decide (1 ≤ x) && decide (x ≤ 1099511627776)
def valid (s : List Int) : Bool := decide (s.length ≤ 4) && s.all count
def under (a b : List Int) : Bool := decide (a <+: b)
def later (a b : List Int) : List Int := if cmp a b < 0 then b else a
/-- A longer stamp, and the error beside it. -/
def extend (s : List Int) (n : Int) : List Int × Int :=
  if valid s = false then ([], 13) else if s.length = 4 then ([], 14) else if count n = false then ([], 66) else (s ++ [n], 0)
def last (s : List Int) : Int := s.getLastD 0
def next (s : List Int) : List Int × Int :=
  if valid s = false ∨ s = [] then ([], 13) else if last s = 1099511627776 then ([], 66) else (s.dropLast ++ [last s + 1], 0)

theorem cmp_nil_left (b : List Int) : cmp [] b = if b = [] then 0 else -1 := by cases b <;> rfl
theorem cmp_nil_right (a : List Int) : cmp a [] = if a = [] then 0 else 1 := by cases a <;> rfl
theorem cmp_cons (x y : Int) (a b : List Int) : cmp (x :: a) (y :: b) = if x < y then -1 else if y < x then 1 else cmp a b := rfl
theorem cmp_range : ∀ a b : List Int, cmp a b = -1 ∨ cmp a b = 0 ∨ cmp a b = 1
  | [], [] => .inr (.inl rfl)
  | [], _ :: _ => .inl rfl
  | _ :: _, [] => .inr (.inr rfl)
  | x :: a, y :: b => by
    rw [cmp_cons]
    split
    · exact .inl rfl
    · split
      · exact .inr (.inr rfl)
      · exact cmp_range a b
theorem cmp_neg : ∀ a b : List Int, cmp a b = - cmp b a
  | [], [] => rfl
  | [], _ :: _ => rfl
  | _ :: _, [] => rfl
  | x :: a, y :: b => by
    rw [cmp_cons, cmp_cons]
    split
    · rw [if_neg (by omega)]
    · split
      · rfl
      · exact cmp_neg a b
theorem cmp_self : ∀ a : List Int, cmp a a = 0
  | [] => rfl
  | x :: a => by rw [cmp_cons, if_neg (by omega), if_neg (by omega)]; exact cmp_self a
theorem cmp_zero : ∀ {a b : List Int}, cmp a b = 0 → a = b
  | [], [], _ => rfl
  | [], _ :: _, h => by cases h
  | _ :: _, [], h => by cases h
  | x :: a, y :: b, h => by
    rw [cmp_cons] at h
    split at h
    · cases h
    · split at h
      · cases h
      · rw [cmp_zero h, show x = y by omega]
theorem cmp_zero_iff {a b : List Int} : cmp a b = 0 ↔ a = b := ⟨cmp_zero, fun h => by rw [h]; exact cmp_self b⟩
theorem cmp_trans : ∀ {a b c : List Int}, cmp a b ≤ 0 → cmp b c ≤ 0 → cmp a c ≤ 0
  | [], _, c, _, _ => by rw [cmp_nil_left]; split <;> omega
  | x :: a, [], c, h, _ => by rw [cmp_nil_right, if_neg (by simp)] at h; omega
  | x :: a, y :: b, [], _, h => by rw [cmp_nil_right, if_neg (by simp)] at h; omega
  | x :: a, y :: b, z :: c, h, k => by
    rw [cmp_cons] at h k ⊢
    split at h
    · split at k
      · rw [if_pos (by omega)]; omega
      · split at k
        · omega
        · rw [if_pos (by omega)]; omega
    · split at h
      · omega
      · split at k
        · rw [if_pos (by omega)]; omega
        · split at k
          · omega
          · rw [if_neg (by omega), if_neg (by omega)]
            exact cmp_trans h k
theorem under_iff {a b : List Int} : under a b = true ↔ a <+: b := by unfold under; exact decide_eq_true_iff
theorem cmp_prefix : ∀ {a b : List Int}, a <+: b → cmp a b ≤ 0
  | [], b, _ => by rw [cmp_nil_left]; split <;> omega
  | x :: a, [], h => by have := List.prefix_nil.1 h; cases this
  | x :: a, y :: b, h => by
    obtain ⟨rfl, h2⟩ := List.cons_prefix_cons.1 h
    rw [cmp_cons, if_neg (by omega), if_neg (by omega)]
    exact cmp_prefix h2
/-- What is under a is earlier than all that is later than a and not under it. -/
theorem cmp_between : ∀ {a b c : List Int}, a <+: b → cmp a c < 0 → ¬ a <+: c → cmp b c < 0
  | [], _, _, _, _, h => absurd (List.nil_prefix) h
  | x :: a, [], c, h, _, _ => by have := List.prefix_nil.1 h; cases this
  | x :: a, y :: b, [], _, h, _ => by rw [cmp_nil_right, if_neg (by simp)] at h; omega
  | x :: a, y :: b, z :: c, h, k, n => by
    obtain ⟨rfl, h2⟩ := List.cons_prefix_cons.1 h
    rw [cmp_cons] at k ⊢
    split at k
    · rw [if_pos ‹_›]; omega
    · split at k
      · omega
      · rw [if_neg ‹_›, if_neg ‹_›]
        exact cmp_between h2 k (fun hp => n (List.cons_prefix_cons.2 ⟨by omega, hp⟩))
theorem cmp_append : ∀ (a : List Int) {b c : List Int}, cmp (a ++ b) (a ++ c) = cmp b c
  | [], _, _ => rfl
  | x :: a, b, c => by
    rw [List.cons_append, List.cons_append, cmp_cons, if_neg (by omega), if_neg (by omega)]
    exact cmp_append a
theorem cmp_longer (a : List Int) (x : Int) : cmp a (a ++ [x]) = -1 := by
  have h := cmp_append a (b := []) (c := [x])
  rw [List.append_nil] at h
  rw [h]; rfl
theorem later_cases (a b : List Int) : (later a b = a ∧ 0 ≤ cmp a b) ∨ (later a b = b ∧ cmp a b < 0) := by
  unfold later
  split
  · exact .inr ⟨rfl, ‹_›⟩
  · exact .inl ⟨rfl, by omega⟩

theorem valid_iff {s : List Int} : valid s = true ↔ s.length ≤ 4 ∧ ∀ x ∈ s, 1 ≤ x ∧ x ≤ 1099511627776 := by
  unfold valid count
  simp
theorem count_iff {n : Int} : count n = true ↔ 1 ≤ n ∧ n ≤ 1099511627776 := by unfold count; simp
theorem last_snoc (s : List Int) (x : Int) : last (s ++ [x]) = x := by unfold last; simp
theorem snoc_of {s : List Int} (h : s ≠ []) : s = s.dropLast ++ [last s] := by
  have e := List.dropLast_concat_getLast h
  have e2 : last s = s.getLast h := by
    unfold last
    rw [List.getLastD_eq_getLast?, List.getLast?_eq_some_getLast h]
    rfl
  rw [e2, e]

/-! ### Texts -/
/-- A digit of a number. -/
def dig (n : Nat) : UInt8 := (48 + n).toUInt8
/-- A number's digits. -/
def digits (n : Nat) : List UInt8 := if n < 10 then [dig n] else digits (n / 10) ++ [dig (n % 10)]
def dec (n : Int) : List UInt8 := if n < 0 then 45 :: digits n.natAbs else digits n.toNat
/-- The numbers with a point between each two. -/
def body : List Int → List UInt8
  | [] => []
  | [x] => dec x
  | x :: y :: r => dec x ++ 46 :: body (y :: r)
def text (s : List Int) : List UInt8 := if s = [] then [45] else body s
/-- A text read loosely: the numbers so far, the one under way, what is left. -/
def scan (out : List Int) (n : Nat) : List UInt8 → Option (List Int)
  | [] => if out.length = 4 then none else some (out ++ [(n : Int)])
  | c :: r => if c = 46 then if out.length = 4 then none else scan (out ++ [(n : Int)]) 0 r
    else if c < 48 ∨ 57 < c ∨ 1099511627776 < n then none else scan out (10 * n + (c.toNat - 48)) r
def parse (t : List UInt8) : List Int × Int :=
  if t = [45] then ([], 0) else match scan [] 0 t with
    | none => ([], 13)
    | some out => if valid out = true ∧ text out = t then (out, 0) else ([], 13)

theorem digits_low {n : Nat} (h : n < 10) : digits n = [dig n] := by rw [digits, if_pos h]
theorem digits_high {n : Nat} (h : ¬ n < 10) : digits n = digits (n / 10) ++ [dig (n % 10)] := by rw [digits, if_neg h]
theorem dig_nat {n : Nat} (h : n < 10) : (dig n).toNat = 48 + n := by
  unfold dig
  rw [Nat.toUInt8_eq, UInt8.toNat_ofNat']
  omega
theorem digits_all : ∀ n : Nat, ∀ c ∈ digits n, 48 ≤ c.toNat ∧ c.toNat ≤ 57 := by
  intro n
  induction n using Nat.strongRecOn with
  | ind n ih =>
    intro c hc
    by_cases h : n < 10
    · rw [digits_low h, List.mem_singleton] at hc
      rw [hc, dig_nat h]; omega
    · rw [digits_high h, List.mem_append, List.mem_singleton] at hc
      rcases hc with hc | rfl
      · exact ih (n / 10) (by omega) c hc
      · rw [dig_nat (by omega)]; omega
theorem digits_ne (n : Nat) : digits n ≠ [] := by
  by_cases h : n < 10
  · rw [digits_low h]; simp
  · rw [digits_high h]; simp
theorem body_snoc : ∀ {s : List Int} (x : Int), s ≠ [] → body (s ++ [x]) = body s ++ 46 :: dec x
  | [], _, h => absurd rfl h
  | [_], _, _ => rfl
  | y :: z :: r, x, _ => by
    show dec y ++ 46 :: body (z :: r ++ [x]) = (dec y ++ 46 :: body (z :: r)) ++ 46 :: dec x
    rw [body_snoc (s := z :: r) x (by simp)]
    simp
theorem scan_point (out : List Int) (n : Nat) (r : List UInt8) (h : out.length < 4) : scan out n (46 :: r) = scan (out ++ [(n : Int)]) 0 r := by
  rw [scan, if_pos rfl, if_neg (by omega)]
theorem scan_dig {out : List Int} {n d : Nat} {r : List UInt8} (hd : d < 10) (hn : n ≤ 1099511627776) : scan out n (dig d :: r) = scan out (10 * n + d) r := by
  have e := dig_nat hd
  have h1 : dig d ≠ 46 := fun h => by rw [h] at e; have : (46 : UInt8).toNat = 46 := rfl; omega
  have h2 : ¬ (dig d < 48 ∨ 57 < dig d ∨ 1099511627776 < n) := by
    rw [UInt8.lt_iff_toNat_lt, UInt8.lt_iff_toNat_lt, e, show (48 : UInt8).toNat = 48 from rfl, show (57 : UInt8).toNat = 57 from rfl]
    omega
  rw [scan, if_neg h1, if_neg h2, e]
  congr 1
  omega
theorem scan_digits : ∀ (n : Nat) {out : List Int} {r : List UInt8}, n ≤ 1099511627776 → scan out 0 (digits n ++ r) = scan out n r := by
  intro n
  induction n using Nat.strongRecOn with
  | ind n ih =>
    intro out r hn
    by_cases h : n < 10
    · rw [digits_low h, List.singleton_append, scan_dig h (by omega)]
      congr 1
      omega
    · rw [digits_high h, List.append_assoc, List.singleton_append, ih (n / 10) (by omega) (by omega), scan_dig (by omega) (by omega)]
      congr 1
      omega
theorem dec_pos {x : Int} (h : 0 ≤ x) : dec x = digits x.toNat := by unfold dec; rw [if_neg (by omega)]
theorem scan_body : ∀ {s : List Int} {out : List Int}, s ≠ [] → out.length + s.length ≤ 4 → (∀ x ∈ s, 1 ≤ x ∧ x ≤ 1099511627776) → scan out 0 (body s) = some (out ++ s)
  | [], _, h, _, _ => absurd rfl h
  | [x], out, _, hl, hx => by
    have h1 := hx x (by simp)
    have e := scan_digits x.toNat (out := out) (r := []) (by omega)
    rw [List.append_nil] at e
    show scan out 0 (dec x) = _
    rw [dec_pos (by omega), e, scan, if_neg (by simp at hl; omega)]
    rw [show ((x.toNat : Nat) : Int) = x by omega]
  | x :: y :: r, out, _, hl, hx => by
    have h1 := hx x (by simp)
    show scan out 0 (dec x ++ 46 :: body (y :: r)) = _
    simp only [List.length_cons] at hl
    rw [dec_pos (by omega), scan_digits x.toNat (by omega), scan_point _ _ _ (by omega), scan_body (by simp) (by simp; omega) (fun z hz => hx z (by simp [List.mem_cons.1 hz])),
      show ((x.toNat : Nat) : Int) = x by omega]
    simp
theorem body_ne {s : List Int} (hs : s ≠ []) (hx : ∀ x ∈ s, 1 ≤ x ∧ x ≤ 1099511627776) : body s ≠ [45] := by
  have key : ∀ (x : Int) (r : List UInt8), 1 ≤ x → dec x ++ r ≠ [45] := by
    intro x r h e
    rw [dec_pos (by omega)] at e
    have hn := digits_ne x.toNat
    cases hd : digits x.toNat with
    | nil => exact hn hd
    | cons c t =>
      rw [hd, List.cons_append] at e
      injection e with e1 _
      have := digits_all x.toNat c (by rw [hd]; simp)
      rw [e1] at this
      have h45 : (45 : UInt8).toNat = 45 := rfl
      omega
  match s, hs with
  | [x], _ =>
    intro e
    exact key x [] (hx x (by simp)).1 (by rw [List.append_nil]; exact e)
  | x :: y :: r, _ => exact key x _ (hx x (by simp)).1
theorem parse_text {s : List Int} (h : valid s = true) : parse (text s) = (s, 0) := by
  obtain ⟨h1, h2⟩ := valid_iff.1 h
  by_cases hs : s = []
  · subst hs; rfl
  · have e := scan_body (out := []) hs (by simpa using h1) h2
    rw [List.nil_append] at e
    have ht : text s = body s := by unfold text; rw [if_neg hs]
    unfold parse
    rw [ht, if_neg (body_ne hs h2), e]
    simp only
    rw [if_pos ⟨h, ht⟩]
/-- What a text's stamp is. -/
theorem parse_cases (t : List UInt8) : ((parse t).2 = 0 ∧ valid (parse t).1 = true ∧ text (parse t).1 = t) ∨ ((parse t).2 = 13 ∧ (parse t).1 = [] ∧ ∀ s, valid s = true → text s ≠ t) := by
  by_cases hx : ∃ s, valid s = true ∧ text s = t
  · obtain ⟨s, h1, rfl⟩ := hx
    rw [parse_text h1]
    exact .inl ⟨rfl, h1, rfl⟩
  · right
    have hn : ∀ s, valid s = true → text s ≠ t := fun s h1 h2 => hx ⟨s, h1, h2⟩
    refine ⟨?_, ?_, hn⟩
    all_goals
      unfold parse
      split
      · exact absurd (‹t = [45]›).symm (hn [] rfl)
      · split
        · rfl
        · split
          · rename_i h; exact absurd h.2 (hn _ h.1)
          · rfl
/-- Whatever answers so answers as the document does. -/
theorem parse_unique {t : List UInt8} {x : List Int} {e : Int} (h : (e = 0 ∧ valid x = true ∧ text x = t) ∨ (e = 13 ∧ x = [] ∧ ∀ s, valid s = true → text s ≠ t)) : parse t = (x, e) := by
  rcases h with ⟨rfl, h1, rfl⟩ | ⟨rfl, rfl, h3⟩
  · exact parse_text h1
  · rcases parse_cases t with ⟨_, k2, k3⟩ | ⟨k1, k2, _⟩
    · exact absurd k3 (h3 _ k2)
    · exact Prod.ext k2 k1
end Go.Proofs.YthhkgdknmehaoaaDoor.SM
