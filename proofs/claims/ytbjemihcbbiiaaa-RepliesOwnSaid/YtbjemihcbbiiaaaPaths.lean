/- Texts that belong together: PathsMath, PathsSplitMath, PathsW1, PathsW2, PathsW3, PathsW4. -/
import Derived.Lib.Bytealg
import Derived.Lib.Join
import Derived.Lib.Split
import Derived.Lib.SplitLaws
import Derived.Test.YtbjemihcbbiiaaaChecked
import Derived.WalkKit
import Derived.WalkSpells
import Derived.WalkLawsBesides
import Derived.Deep.QuietTactic
import Derived.BigQuiet
import Derived.Lib.Hide
import Derived.Lib.Strings
import Derived.WalkMore
import Derived.RegionTactic
import Derived.OwnWalk
namespace Go.Proofs.Ytbjemihcbbiiaaa.PM

def isSeg (c : UInt8) : Bool := decide ((97 ≤ c.toNat ∧ c.toNat ≤ 122) ∨ (48 ≤ c.toNat ∧ c.toNat ≤ 57))
def segB (l : List UInt8) : Bool := decide (1 ≤ l.length) && (decide (l.length ≤ 6) && l.all isSeg)
def pcs : List UInt8 → List UInt8 → List (List UInt8)
  | cur, [] => [cur]
  | cur, c :: r => if c = 47 then cur :: pcs [] r else pcs (cur ++ [c]) r
def okB (l : List UInt8) : Bool := l.isEmpty || (decide ((pcs [] l).length ≤ 4) && (pcs [] l).all segB)
def segsOf (l : List UInt8) : List (List UInt8) := if l = [] then [] else pcs [] l
def depthI (l : List UInt8) : Int := if okB l = true then (segsOf l).length else -1
def scan : Nat → Nat → List UInt8 → Option (Nat × Nat)
  | s, z, [] => some (s, z)
  | s, z, c :: r => if c = 47 ∧ 0 < z ∧ s < 4 then scan (s + 1) 0 r else if isSeg c = true ∧ z < 6 then scan s (z + 1) r else none

theorem isSeg_47 : isSeg 47 = false := by decide
theorem segB_iff (l : List UInt8) : segB l = true ↔ 1 ≤ l.length ∧ l.length ≤ 6 ∧ l.all isSeg = true := by simp [segB]

theorem pcs_ne (l : List UInt8) : ∀ cur, pcs cur l ≠ [] := by
  induction l with
  | nil => intro cur; simp [pcs]
  | cons c r ih =>
    intro cur
    unfold pcs
    split
    · simp
    · exact ih _

theorem pcs_pos (cur l : List UInt8) : 1 ≤ (pcs cur l).length := by
  have := pcs_ne l cur
  cases h : pcs cur l with
  | nil => exact absurd h this
  | cons a b => simp

theorem pcs_bad : ∀ (l cur : List UInt8), (6 < cur.length ∨ cur.all isSeg = false) → (pcs cur l).all segB = false := by
  intro l
  induction l with
  | nil =>
    intro cur h
    have : segB cur = false := by
      rw [Bool.eq_false_iff, ne_eq, segB_iff]
      rintro ⟨_, h2, h3⟩
      rcases h with h | h
      · omega
      · rw [h] at h3; cases h3
    simp [pcs, this]
  | cons c r ih =>
    intro cur h
    unfold pcs
    by_cases hc : c = 47
    · rw [if_pos hc]
      have : segB cur = false := by
        rw [Bool.eq_false_iff, ne_eq, segB_iff]
        rintro ⟨_, h2, h3⟩
        rcases h with h | h
        · omega
        · rw [h] at h3; cases h3
      simp only [List.all_cons, this, Bool.false_and]
    · rw [if_neg hc]
      refine ih _ ?_
      rcases h with h | h
      · left; simp; omega
      · right; simp only [List.all_append, h, Bool.false_and]

/-- The scan from s pieces and a current piece 'cur' on tells just what the pieces tell. -/
theorem scan_spec : ∀ (l cur : List UInt8) (s : Nat), cur.all isSeg = true → cur.length ≤ 6 → 1 ≤ s → s ≤ 4 →
    (scan s cur.length l = none → ¬ (s + (pcs cur l).length ≤ 5 ∧ (pcs cur l).all segB = true)) ∧
    (∀ s' z', scan s cur.length l = some (s', z') → s' + 1 = s + (pcs cur l).length ∧ s' ≤ 4 ∧ (z' ≠ 0 ↔ (pcs cur l).all segB = true)) := by
  intro l
  induction l with
  | nil =>
    intro cur s h1 h2 h3 h4
    constructor
    · intro h; simp [scan] at h
    · intro s' z' h
      simp only [scan, Option.some.injEq, Prod.mk.injEq] at h
      obtain ⟨rfl, rfl⟩ := h
      refine ⟨by simp [pcs], h4, ?_⟩
      simp only [pcs, List.all_cons, List.all_nil, Bool.and_true, segB_iff, h1, and_true]
      omega
  | cons c r ih =>
    intro cur s h1 h2 h3 h4
    unfold scan pcs
    by_cases hc : c = 47
    · subst hc
      by_cases hz : 0 < cur.length
      · have hs : segB cur = true := (segB_iff _).2 ⟨hz, h2, h1⟩
        by_cases hs4 : s < 4
        · rw [if_pos ⟨rfl, hz, hs4⟩, if_pos rfl]
          have := ih [] (s + 1) rfl (by simp) (by omega) (by omega)
          simp only [List.length_nil] at this
          refine ⟨fun h hh => this.1 h ⟨?_, ?_⟩, fun s' z' h => ?_⟩
          · have := hh.1; simp only [List.length_cons] at this; omega
          · have := hh.2; simp only [List.all_cons, hs, Bool.true_and] at this; exact this
          · obtain ⟨e1, e2, e3⟩ := this.2 s' z' h
            refine ⟨by simp only [List.length_cons]; omega, e2, ?_⟩
            simp only [List.all_cons, hs, Bool.true_and]
            exact e3
        · rw [if_neg (fun h => hs4 h.2.2), if_neg (fun h => by rw [isSeg_47] at h; cases h.1), if_pos rfl]
          refine ⟨fun _ hh => ?_, fun s' z' h => by cases h⟩
          have := hh.1
          have h5 := pcs_pos [] r
          simp only [List.length_cons] at this
          omega
      · rw [if_neg (fun h => hz h.2.1), if_neg (fun h => by rw [isSeg_47] at h; cases h.1), if_pos rfl]
        refine ⟨fun _ hh => ?_, fun s' z' h => by cases h⟩
        have h6 := hh.2
        have : segB cur = false := by rw [Bool.eq_false_iff, ne_eq, segB_iff]; omega
        simp only [List.all_cons, this, Bool.false_and] at h6
        cases h6
    · rw [if_neg (fun h => hc h.1), if_neg hc]
      by_cases hg : isSeg c = true
      · by_cases hz : cur.length < 6
        · rw [if_pos ⟨hg, hz⟩]
          have := ih (cur ++ [c]) s (by simp [h1, hg]) (by simp; omega) h3 h4
          simpa using this
        · rw [if_neg (fun h => hz h.2)]
          refine ⟨fun _ hh => ?_, fun s' z' h => by cases h⟩
          rw [pcs_bad r (cur ++ [c]) (Or.inl (by simp; omega))] at hh
          exact absurd hh.2 (by simp)
      · rw [if_neg (fun h => hg h.1)]
        refine ⟨fun _ hh => ?_, fun s' z' h => by cases h⟩
        rw [pcs_bad r (cur ++ [c]) (Or.inr (by simp [Bool.eq_false_iff.2 hg]))] at hh
        exact absurd hh.2 (by simp)

def scanD (l : List UInt8) : Int := match scan 1 0 l with
  | none => -1
  | some (s, z) => if z = 0 then -1 else s

theorem depthI_nil : depthI [] = 0 := by decide
theorem depthI_ne (l : List UInt8) (h : l ≠ []) : depthI l = scanD l := by
  have hs := scan_spec l [] 1 rfl (by simp) (by omega) (by omega)
  simp only [List.length_nil] at hs
  have he : l.isEmpty = false := by cases l with | nil => exact absurd rfl h | cons a b => rfl
  unfold depthI scanD okB segsOf
  rw [if_neg h, he, Bool.false_or]
  cases hc : scan 1 0 l with
  | none =>
    have := hs.1 hc
    rw [if_neg]
    intro hh
    simp only [Bool.and_eq_true, decide_eq_true_eq] at hh
    exact this ⟨by omega, hh.2⟩
  | some x =>
    obtain ⟨s, z⟩ := x
    obtain ⟨e1, e2, e3⟩ := hs.2 s z hc
    show _ = if z = 0 then (-1 : Int) else s
    by_cases hz : z = 0
    · rw [if_pos hz, if_neg]
      intro hh
      simp only [Bool.and_eq_true, decide_eq_true_eq] at hh
      exact absurd hz (e3.2 hh.2)
    · rw [if_neg hz, if_pos]
      · omega
      · simp only [Bool.and_eq_true, decide_eq_true_eq]
        exact ⟨by omega, e3.1 hz⟩

theorem depth_nonneg (l : List UInt8) : decide (0 ≤ depthI l) = okB l := by
  unfold depthI
  by_cases h : okB l = true
  · rw [if_pos h, h]; simp
  · rw [if_neg h, Bool.eq_false_iff.2 h]; rfl

theorem okB_iff (l : List UInt8) (h : l ≠ []) : okB l = true ↔ (pcs [] l).length ≤ 4 ∧ (pcs [] l).all segB = true := by
  have he : l.isEmpty = false := by cases l with | nil => exact absurd rfl h | cons a b => rfl
  unfold okB
  rw [he, Bool.false_or]
  simp

theorem pcs_app47 : ∀ (l cur t : List UInt8), pcs cur (l ++ 47 :: t) = pcs cur l ++ pcs [] t := by
  intro l
  induction l with
  | nil => intro cur t; simp [pcs]
  | cons c r ih =>
    intro cur t
    simp only [List.cons_append, pcs]
    split
    · rw [ih]; rfl
    · rw [ih]

theorem pcs_no (l : List UInt8) : ∀ cur, (47 : UInt8) ∉ l → pcs cur l = [cur ++ l] := by
  induction l with
  | nil => intro cur _; simp [pcs]
  | cons c r ih =>
    intro cur h
    have h1 : c ≠ 47 := fun e => h (by simp [e])
    have h2 : (47 : UInt8) ∉ r := fun e => h (by simp [e])
    rw [pcs, if_neg h1, ih _ h2]
    simp

theorem seg_no (l : List UInt8) (h : segB l = true) : (47 : UInt8) ∉ l := by
  intro hm
  have := List.all_eq_true.1 ((segB_iff l).1 h).2.2 _ hm
  rw [isSeg_47] at this
  cases this

abbrev jn (xs : List (List UInt8)) : List UInt8 := Lib.join xs [47]

theorem jn_cons2 (x y : List UInt8) (r : List (List UInt8)) : jn (x :: y :: r) = x ++ 47 :: jn (y :: r) := by
  show Lib.join _ _ = _ ++ _ :: Lib.join _ _
  rw [Lib.join_cons, Lib.join_cons]
  simp [Lib.joinTail]

theorem jn_app : ∀ (xs ys : List (List UInt8)), xs ≠ [] → ys ≠ [] → jn (xs ++ ys) = jn xs ++ 47 :: jn ys := by
  intro xs
  induction xs with
  | nil => intro ys h _; exact absurd rfl h
  | cons x r ih =>
    intro ys _ hy
    cases r with
    | nil =>
      cases ys with
      | nil => exact absurd rfl hy
      | cons y r2 =>
        have h1 : jn [x] = x := Lib.join_one x [47]
        simp only [List.cons_append, List.nil_append]; rw [jn_cons2, h1]
    | cons x2 r2 =>
      have := ih ys (by simp) hy
      simp only [List.cons_append] at this ⊢
      rw [jn_cons2, this, jn_cons2]
      simp

theorem pcs_jn : ∀ (xs : List (List UInt8)), xs ≠ [] → (∀ x ∈ xs, (47 : UInt8) ∉ x) → pcs [] (jn xs) = xs := by
  intro xs
  induction xs with
  | nil => intro h; exact absurd rfl h
  | cons x r ih =>
    intro _ hx
    cases r with
    | nil =>
      show pcs [] (Lib.join _ _) = _
      rw [Lib.join_one, pcs_no _ _ (hx x (by simp))]; rfl
    | cons y r2 =>
      rw [jn_cons2, pcs_app47, pcs_no _ _ (hx x (by simp)), ih (by simp) (fun z hz => hx z (List.mem_cons_of_mem _ hz))]
      rfl

theorem jn_pcs : ∀ (l cur : List UInt8), jn (pcs cur l) = cur ++ l := by
  intro l
  induction l with
  | nil => intro cur; show Lib.join _ _ = _; simp [pcs, Lib.join_one]
  | cons c r ih =>
    intro cur
    unfold pcs
    by_cases h : c = 47
    · subst h
      rw [if_pos rfl]
      have hne := pcs_ne r []
      have := ih []
      cases hp : pcs [] r with
      | nil => exact absurd hp hne
      | cons a b => rw [jn_cons2, ← hp, this]; rfl
    · rw [if_neg h, ih]; simp

theorem jn_segsOf (l : List UInt8) : jn (segsOf l) = l := by
  unfold segsOf
  by_cases h : l = []
  · rw [if_pos h, h]; rfl
  · rw [if_neg h, jn_pcs]; rfl

def segsB (xs : List (List UInt8)) : Bool := decide (xs.length ≤ 4) && xs.all segB

theorem segsB_no (xs : List (List UInt8)) (h : segsB xs = true) : ∀ x ∈ xs, (47 : UInt8) ∉ x := by
  simp only [segsB, Bool.and_eq_true, List.all_eq_true] at h
  exact fun x hx => seg_no x (h.2 x hx)

theorem jn_ne (xs : List (List UInt8)) (h : xs ≠ []) (hs : xs.all segB = true) : jn xs ≠ [] := by
  cases xs with
  | nil => exact absurd rfl h
  | cons x r =>
    simp only [List.all_cons, Bool.and_eq_true] at hs
    have h1 := ((segB_iff x).1 hs.1).1
    show Lib.join _ _ ≠ _
    rw [Lib.join_cons]
    intro e
    have := congrArg List.length e
    simp only [List.length_append, List.length_nil] at this
    omega

theorem segsOf_jn (xs : List (List UInt8)) (h : segsB xs = true) : segsOf (jn xs) = xs := by
  have hn := segsB_no xs h
  simp only [segsB, Bool.and_eq_true] at h
  unfold segsOf
  cases xs with
  | nil => rfl
  | cons x r => rw [if_neg (jn_ne _ (by simp) h.2), pcs_jn _ (by simp) hn]

theorem okB_segs (l : List UInt8) : okB l = segsB (segsOf l) := by
  unfold okB segsOf segsB
  cases l with
  | nil => rfl
  | cons a b => simp

theorem okB_jn (xs : List (List UInt8)) (h : segsB xs = true) : okB (jn xs) = true := by
  rw [okB_segs, segsOf_jn xs h, h]

theorem segsOf_inj {a b : List UInt8} (h : segsOf a = segsOf b) : a = b := by
  rw [← jn_segsOf a, ← jn_segsOf b, h]

theorem segsOf_nil_iff (l : List UInt8) : segsOf l = [] ↔ l = [] := by
  unfold segsOf
  by_cases h : l = []
  · simp [h]
  · rw [if_neg h]; exact ⟨fun e => absurd e (pcs_ne _ _), fun e => absurd e h⟩

def cov (p q : List UInt8) : Bool := okB p && (okB q && (segsOf p).isPrefixOf (segsOf q))

theorem cov_iff (p q : List UInt8) : cov p q = true ↔ okB p = true ∧ okB q = true ∧ segsOf p <+: segsOf q := by
  simp [cov]

/-- How the program tells it: the text is empty, or the other, or with a separator behind it a beginning of the other. -/
theorem prefix_iff (p q : List UInt8) : segsOf p <+: segsOf q ↔ (p = [] ∨ p = q ∨ (p ++ [47]) <+: q) := by
  constructor
  · rintro ⟨t, ht⟩
    by_cases hp : p = []
    · exact Or.inl hp
    · by_cases h2 : t = []
      · subst h2
        rw [List.append_nil] at ht
        exact Or.inr (Or.inl (segsOf_inj ht))
      · refine Or.inr (Or.inr ⟨jn t, ?_⟩)
        rw [← jn_segsOf q, ← ht, jn_app _ _ (fun e => hp ((segsOf_nil_iff p).1 e)) h2, jn_segsOf]
        simp
  · rintro (h | h | ⟨t, ht⟩)
    · subst h; exact List.nil_prefix
    · subst h; exact List.prefix_refl _
    · by_cases hp : p = []
      · subst hp; exact List.nil_prefix
      · have hq : q ≠ [] := by rw [← ht]; simp
        refine ⟨pcs [] t, ?_⟩
        unfold segsOf
        rw [if_neg hp, if_neg hq, ← ht, ← pcs_app47]
        simp

theorem okB_len (l : List UInt8) (h : okB l = true) : l.length ≤ 27 := by
  rw [okB_segs] at h
  have hj := jn_segsOf l
  generalize segsOf l = xs at h hj
  simp only [segsB, Bool.and_eq_true, decide_eq_true_eq, List.all_eq_true] at h
  obtain ⟨h4, hs⟩ := h
  rw [← hj]
  have hl : ∀ x ∈ xs, x.length ≤ 6 := fun x hx => ((segB_iff x).1 (hs x hx)).2.1
  match xs, h4, hl with
  | [], _, _ => simp [jn, Lib.join_nil]
  | [a], _, hl =>
    have := hl a (by simp)
    simp only [jn, Lib.join_one]; omega
  | [a, b], _, hl =>
    have h1 := hl a (by simp); have h2 := hl b (by simp)
    rw [jn_cons2]; simp only [jn, Lib.join_one, List.length_append, List.length_cons]; omega
  | [a, b, c], _, hl =>
    have h1 := hl a (by simp); have h2 := hl b (by simp); have h3 := hl c (by simp)
    rw [jn_cons2, jn_cons2]; simp only [jn, Lib.join_one, List.length_append, List.length_cons]; omega
  | [a, b, c, d], _, hl =>
    have h1 := hl a (by simp); have h2 := hl b (by simp); have h3 := hl c (by simp); have h4 := hl d (by simp)
    rw [jn_cons2, jn_cons2, jn_cons2]; simp only [jn, Lib.join_one, List.length_append, List.length_cons]; omega
  | a :: b :: c :: d :: e :: r, h4, _ => simp only [List.length_cons] at h4; omega

theorem cov_okl {p q : List UInt8} (h : cov p q = true) : okB p = true := ((cov_iff p q).1 h).1
theorem cov_okr {p q : List UInt8} (h : cov p q = true) : okB q = true := ((cov_iff p q).1 h).2.1
theorem cov_self (p : List UInt8) : cov p p = okB p := by
  cases h : okB p with
  | false => unfold cov; rw [h]; rfl
  | true => exact (cov_iff p p).2 ⟨h, h, List.prefix_refl _⟩
theorem cov_trans {p q r : List UInt8} (h1 : cov p q = true) (h2 : cov q r = true) : cov p r = true := by
  rw [cov_iff] at h1 h2 ⊢
  exact ⟨h1.1, h2.2.1, h1.2.2.trans h2.2.2⟩
theorem cov_anti {p q : List UInt8} (h1 : cov p q = true) (h2 : cov q p = true) : p = q := by
  rw [cov_iff] at h1 h2
  exact segsOf_inj (h1.2.2.eq_of_length_le h2.2.2.length_le)
theorem cov_both {p q r : List UInt8} (h1 : cov p r = true) (h2 : cov q r = true) : cov p q = true ∨ cov q p = true := by
  rw [cov_iff] at h1 h2
  rw [cov_iff, cov_iff]
  rcases Nat.le_total (segsOf p).length (segsOf q).length with h | h
  · exact Or.inl ⟨h1.1, h2.1, List.prefix_of_prefix_length_le h1.2.2 h2.2.2 h⟩
  · exact Or.inr ⟨h2.1, h1.1, List.prefix_of_prefix_length_le h2.2.2 h1.2.2 h⟩
theorem depth_ok {p : List UInt8} (h : okB p = true) : depthI p = ((segsOf p).length : Int) := by unfold depthI; rw [if_pos h]
theorem cov_depth {p q : List UInt8} (h : cov p q = true) : depthI p ≤ depthI q := by
  rw [cov_iff] at h
  rw [depth_ok h.1, depth_ok h.2.1]
  have := h.2.2.length_le
  omega
theorem cov_of_depth {p q : List UInt8} (h : cov q p = true) (hd : depthI p ≤ depthI q) : p = q := by
  have h' := (cov_iff q p).1 h
  rw [depth_ok h'.1, depth_ok h'.2.1] at hd
  exact (segsOf_inj (h'.2.2.eq_of_length_le (by omega))).symm

/-! ### the order of texts -/
abbrev cmp (a b : List UInt8) : Int := Lib.compareBytes a b
theorem cmp_cons (a b : UInt8) (x y : List UInt8) : cmp (a :: x) (b :: y) = if a < b then -1 else if b < a then 1 else cmp x y := rfl
theorem cmp_range : ∀ (a b : List UInt8), cmp a b = -1 ∨ cmp a b = 0 ∨ cmp a b = 1
  | [], [] => by simp [Lib.compareBytes]
  | [], _ :: _ => by simp [Lib.compareBytes]
  | _ :: _, [] => by simp [Lib.compareBytes]
  | a :: x, b :: y => by
    rw [cmp_cons]
    have := cmp_range x y
    split
    · simp
    · split
      · simp
      · exact this
theorem cmp_self : ∀ (a : List UInt8), cmp a a = 0
  | [] => rfl
  | a :: x => by
    rw [cmp_cons, if_neg (UInt8.lt_irrefl a), if_neg (UInt8.lt_irrefl a), cmp_self x]
theorem cmp_neg : ∀ (a b : List UInt8), cmp a b = - cmp b a
  | [], [] => rfl
  | [], _ :: _ => rfl
  | _ :: _, [] => rfl
  | a :: x, b :: y => by
    rw [cmp_cons, cmp_cons]
    by_cases h1 : a < b
    · have h2 : ¬ b < a := by rw [UInt8.lt_iff_toNat_lt] at h1 ⊢; omega
      rw [if_pos h1, if_neg h2, if_pos h1]
    · by_cases h2 : b < a
      · rw [if_neg h1, if_pos h2, if_pos h2]; rfl
      · rw [if_neg h1, if_neg h2, if_neg h2, if_neg h1, cmp_neg x y]
theorem cmp_eq : ∀ (a b : List UInt8), cmp a b = 0 → a = b
  | [], [], _ => rfl
  | [], _ :: _, h => by simp [Lib.compareBytes] at h
  | _ :: _, [], h => by simp [Lib.compareBytes] at h
  | a :: x, b :: y, h => by
    rw [cmp_cons] at h
    by_cases h1 : a < b
    · rw [if_pos h1] at h; omega
    · by_cases h2 : b < a
      · rw [if_neg h1, if_pos h2] at h; omega
      · rw [if_neg h1, if_neg h2] at h
        have e : a = b := by
          apply UInt8.toNat_inj.1
          rw [UInt8.lt_iff_toNat_lt] at h1 h2
          omega
        rw [e, cmp_eq x y h]
theorem cmp_trans : ∀ (a b c : List UInt8), cmp a b ≤ 0 → cmp b c ≤ 0 → cmp a c ≤ 0
  | [], _, [], _, _ => by simp [Lib.compareBytes]
  | [], _, _ :: _, _, _ => by simp [Lib.compareBytes]
  | a :: x, [], _, h, _ => by simp [Lib.compareBytes] at h
  | a :: x, b :: y, [], _, h => by simp [Lib.compareBytes] at h
  | a :: x, b :: y, c :: z, h1, h2 => by
    rw [cmp_cons] at h1 h2 ⊢
    by_cases k1 : a < b
    · by_cases k2 : b < c
      · rw [if_pos (by rw [UInt8.lt_iff_toNat_lt] at *; omega)]; omega
      · by_cases k3 : c < b
        · rw [if_neg k2, if_pos k3] at h2; omega
        · rw [if_pos (by rw [UInt8.lt_iff_toNat_lt] at *; omega)]; omega
    · by_cases k4 : b < a
      · rw [if_neg k1, if_pos k4] at h1; omega
      · by_cases k2 : b < c
        · rw [if_pos (by rw [UInt8.lt_iff_toNat_lt] at *; omega)]; omega
        · by_cases k3 : c < b
          · rw [if_neg k2, if_pos k3] at h2; omega
          · rw [if_neg k1, if_neg k4] at h1
            rw [if_neg k2, if_neg k3] at h2
            rw [if_neg (by rw [UInt8.lt_iff_toNat_lt] at *; omega), if_neg (by rw [UInt8.lt_iff_toNat_lt] at *; omega)]
            exact cmp_trans x y z h1 h2
theorem cmp_prefix : ∀ (a t : List UInt8), t ≠ [] → cmp a (a ++ t) = -1
  | [], [], h => absurd rfl h
  | [], _ :: _, _ => rfl
  | a :: x, t, h => by
    rw [List.cons_append, cmp_cons, if_neg (UInt8.lt_irrefl a), if_neg (UInt8.lt_irrefl a), cmp_prefix x t h]
theorem cov_prefix {p q : List UInt8} (h : cov p q = true) : p <+: q := by
  rw [cov_iff, prefix_iff] at h
  rcases h.2.2 with h | h | h
  · subst h; exact List.nil_prefix
  · subst h; exact List.prefix_refl _
  · exact (List.prefix_append p [47]).trans h
theorem cov_cmp {p q : List UInt8} (h : cov p q = true) : cmp p q ≤ 0 := by
  obtain ⟨t, rfl⟩ := cov_prefix h
  by_cases ht : t = []
  · subst ht; rw [List.append_nil, cmp_self]; omega
  · rw [cmp_prefix p t ht]; omega

/-! ### what the law of joining and splitting says -/
theorem okB_ext (l : List UInt8) (more : List UInt8) (h : okB l = true) (h2 : segsB (segsOf l ++ [more]) = true) :
    cov l (jn (segsOf l ++ [more])) = true ∧ cov (jn (segsOf l ++ [more])) l = false ∧ depthI (jn (segsOf l ++ [more])) = (segsOf l).length + 1 ∧ cmp l (jn (segsOf l ++ [more])) = -1 := by
  have e := segsOf_jn _ h2
  have k := okB_jn _ h2
  have c1 : cov l (jn (segsOf l ++ [more])) = true := by rw [cov_iff, e]; exact ⟨h, k, List.prefix_append _ _⟩
  have c2 : cov (jn (segsOf l ++ [more])) l = false := by
    rw [Bool.eq_false_iff, ne_eq, cov_iff, e]
    rintro ⟨_, _, hp⟩
    have := hp.length_le
    simp at this
    omega
  refine ⟨c1, c2, ?_, ?_⟩
  · rw [depth_ok k, e]; simp
  · have h3 := cov_cmp c1
    rcases cmp_range l (jn (segsOf l ++ [more])) with h4 | h4 | h4
    · exact h4
    · have := cmp_eq _ _ h4
      rw [← this, cov_self, h] at c2
      cases c2
    · omega

end Go.Proofs.Ytbjemihcbbiiaaa.PM
namespace Go.Proofs.Ytbjemihcbbiiaaa.PM

theorem split_one : ∀ (n : Nat) (l : List UInt8), l.length ≤ n → Lib.splitK [47] 0 (Lib.count l [47]) l = pcs [] l := by
  intro n
  induction n with
  | zero =>
    intro l hl
    have : l = [] := List.eq_nil_of_length_eq_zero (by omega)
    subst this
    rfl
  | succ n ih =>
    intro l hl
    rcases Lib.index_spec l [47] with ⟨hi, hn⟩ | ⟨i, hi, hil, hocc, hno⟩
    · rw [Lib.count_miss hi]
      show [l] = _
      rw [pcs_no]
      · rfl
      · intro hm
        obtain ⟨j, hj, he⟩ := List.getElem_of_mem hm
        have := hn j (by omega)
        unfold Lib.occAt at this
        rw [List.drop_eq_getElem_cons hj, he] at this
        simp at this
    · have hlt : i < l.length := by
        rcases Lib.occAt_room hocc with h | h
        · simp at h; omega
        · cases h
      have hc : l[i] = 47 := by
        unfold Lib.occAt at hocc
        rw [List.drop_eq_getElem_cons hlt] at hocc
        simp only [List.isPrefixOf, Bool.and_true, beq_iff_eq] at hocc
        exact hocc.symm
      have hl2 : l = l.take i ++ 47 :: l.drop (i + 1) := by
        rw [← hc, ← List.drop_eq_getElem_cons hlt, List.take_append_drop]
      have hni : (47 : UInt8) ∉ l.take i := by
        intro hm
        obtain ⟨j, hj, he⟩ := List.getElem_of_mem hm
        have hji : j < i := by simp at hj; omega
        have := hno j hji
        unfold Lib.occAt at this
        rw [List.drop_eq_getElem_cons (by omega)] at this
        rw [List.getElem_take] at he
        rw [he] at this
        simp at this
      rw [Lib.count_hit (by simp) hi, Nat.add_comm 1, Lib.splitK]
      rw [if_neg (by rw [hi]; intro h; have := beq_iff_eq.1 h; omega), hi]
      simp only [Int.toNat_natCast, Nat.add_zero, List.length_cons, List.length_nil, Nat.zero_add]
      rw [ih _ (by simp; omega)]
      have e : pcs [] l = pcs [] (l.take i ++ 47 :: l.drop (i + 1)) := congrArg (pcs []) hl2
      rw [e, pcs_app47, pcs_no _ _ hni]
      rfl

theorem splitB_one (s : ByteArray) : (Lib.splitB ⟨#[47]⟩ 0 (Lib.countB s ⟨#[47]⟩) s).map (·.data.toList) = pcs [] s.data.toList := by
  rw [Lib.splitB_data]
  exact split_one _ _ (Nat.le_refl _)

/-- A text of bytes as a value. -/
def str (l : List UInt8) : Value := .string ⟨l.toArray⟩
theorem str_data (s : ByteArray) : str s.data.toList = .string s := rfl

theorem splitB_vals (s : ByteArray) : (Lib.splitB ⟨#[47]⟩ 0 (Lib.countB s ⟨#[47]⟩) s).map Value.string = (pcs [] s.data.toList).map str := by
  rw [← splitB_one, List.map_map]
  rfl

theorem countB_one (s : ByteArray) : Lib.countB s ⟨#[47]⟩ + 1 = (pcs [] s.data.toList).length := by
  rw [← splitB_one, List.length_map]
  exact (Lib.splitB_all ⟨#[47]⟩ (Nat.le_refl 1) 0 _ s rfl).symm

end Go.Proofs.Ytbjemihcbbiiaaa.PM
namespace Go.Proofs.Ytbjemihcbbiiaaa
open Go.RowKit

theorem ret_int {k : IntKind} {a b : Int} (h : a = b) : Ending.returned (.int k a) = .returned (.int k b) := by rw [h]
theorem ret_bool {a b : Bool} (h : a = b) : Ending.returned (.bool a) = .returned (.bool b) := by rw [h]

set_option maxHeartbeats 400000 in
theorem isSegmentByte_any (c : UInt8) (w : World) :
    Calls Try.prog 93 #[.int .u8 (c.toNat : Int)] w fun e w' => e = .returned (.bool (PM.isSeg c)) ∧ w = w' := by
  go_enter Try.func93, Try.ntmps93
  go_wp2
  all_goals
    go_ret
    refine ⟨ret_bool ?_, rfl⟩
    rw [Bool.eq_iff_iff]
    simp [PM.isSeg]
    omega

/-- The rest of a text from byte k on. -/
def rest (s : ByteArray) (k : Nat) : List UInt8 := s.data.toList.drop k
theorem rest_zero (s : ByteArray) : rest s 0 = s.data.toList := by simp [rest]
theorem rest_cons (s : ByteArray) (k : Nat) (h : k < s.size) : rest s k = s[k] :: rest s (k + 1) := by
  unfold rest
  rw [List.drop_eq_getElem_cons (by simpa using h)]
  rfl
theorem rest_end (s : ByteArray) : rest s s.size = [] := by
  unfold rest
  apply List.drop_of_length_le
  simp

theorem scan_slash {c : UInt8} {s z : Nat} {r : List UInt8} (h : c.toNat = 47) (hz : 0 < z) (hs : s < 4) : PM.scan s z (c :: r) = PM.scan (s + 1) 0 r := by
  rw [PM.scan, if_pos ⟨UInt8.toNat_inj.1 (by rw [h]; rfl), hz, hs⟩]
theorem scan_seg {c : UInt8} {s z : Nat} {r : List UInt8} (h : PM.isSeg c = true) (hz : z < 6) : PM.scan s z (c :: r) = PM.scan s (z + 1) r := by
  rw [PM.scan, if_neg (fun hh => by rw [hh.1, PM.isSeg_47] at h; cases h), if_pos ⟨h, hz⟩]
theorem scan_bad {c : UInt8} {s z : Nat} {r : List UInt8} (h1 : ¬ (c.toNat = 47 ∧ 0 < z ∧ s < 4)) (h2 : ¬ (PM.isSeg c = true ∧ z < 6)) : PM.scan s z (c :: r) = none := by
  rw [PM.scan, if_neg (fun hh => h1 ⟨by rw [hh.1]; rfl, hh.2⟩), if_neg h2]

theorem len_toList (s : ByteArray) : s.data.toList.length = s.size := rfl
theorem str_ne {s : ByteArray} (h : 0 < s.size) : s.data.toList ≠ [] := by
  intro e
  have h1 := len_toList s
  rw [e] at h1
  simp only [List.length_nil] at h1
  omega

theorem c47 : (({ data := #[47] } : ByteArray)[0]).toNat = 47 := rfl
section
variable {s : ByteArray} {k g z : Nat} {h : k < s.size}
theorem next_slash (H : Hid (PM.scan 1 0 s.data.toList = PM.scan g z (rest s k))) (hc : (s[k].toNat : Int) = (({ data := #[47] } : ByteArray)[0]).toNat) (hz : 0 < z) (hg : (g : Int) < 4) :
    Hid (PM.scan 1 0 s.data.toList = PM.scan (g + 1) 0 (rest s (k + 1))) := by
  rw [c47] at hc
  exact Lib.hid (by rw [H.out, rest_cons s k h, scan_slash (by omega) hz (by omega)])
theorem next_seg (H : Hid (PM.scan 1 0 s.data.toList = PM.scan g z (rest s k))) (hc : PM.isSeg s[k] = true) (hz : (z : Int) < 6) :
    Hid (PM.scan 1 0 s.data.toList = PM.scan g (z + 1) (rest s (k + 1))) :=
  Lib.hid (by rw [H.out, rest_cons s k h, scan_seg hc (by omega)])
theorem depth_bad (hs : s.data.toList ≠ []) (H : PM.scan 1 0 s.data.toList = none) : PM.depthI s.data.toList = -1 := by
  rw [PM.depthI_ne _ hs]; unfold PM.scanD; rw [H]
theorem bad1 (hs : Hid (s.data.toList ≠ [])) (H : Hid (PM.scan 1 0 s.data.toList = PM.scan g z (rest s k))) (hc : (s[k].toNat : Int) = (({ data := #[47] } : ByteArray)[0]).toNat) (hg : (4 : Int) ≤ g) : PM.depthI s.data.toList = -1 := by
  rw [c47] at hc
  refine depth_bad hs.out ?_
  rw [H.out, rest_cons s k h]
  refine scan_bad (by omega) (fun hh => ?_)
  have : s[k] = 47 := UInt8.toNat_inj.1 (by rw [show (47 : UInt8).toNat = 47 from rfl]; omega)
  rw [this, PM.isSeg_47] at hh
  cases hh.1
theorem bad2 (hs : Hid (s.data.toList ≠ [])) (H : Hid (PM.scan 1 0 s.data.toList = PM.scan g z (rest s k))) (hc : (s[k].toNat : Int) = (({ data := #[47] } : ByteArray)[0]).toNat) (hg : ¬ 0 < z) : PM.depthI s.data.toList = -1 := by
  rw [c47] at hc
  refine depth_bad hs.out ?_
  rw [H.out, rest_cons s k h]
  refine scan_bad (by omega) (fun hh => ?_)
  have : s[k] = 47 := UInt8.toNat_inj.1 (by rw [show (47 : UInt8).toNat = 47 from rfl]; omega)
  rw [this, PM.isSeg_47] at hh
  cases hh.1
theorem bad3 (hs : Hid (s.data.toList ≠ [])) (H : Hid (PM.scan 1 0 s.data.toList = PM.scan g z (rest s k))) (hc : ¬ (s[k].toNat : Int) = (({ data := #[47] } : ByteArray)[0]).toNat) (hg : (6 : Int) ≤ z) : PM.depthI s.data.toList = -1 := by
  rw [c47] at hc
  refine depth_bad hs.out ?_
  rw [H.out, rest_cons s k h]
  exact scan_bad (by omega) (by omega)
theorem bad4 (hs : Hid (s.data.toList ≠ [])) (H : Hid (PM.scan 1 0 s.data.toList = PM.scan g z (rest s k))) (hc : ¬ (s[k].toNat : Int) = (({ data := #[47] } : ByteArray)[0]).toNat) (hg : ¬ PM.isSeg s[k] = true) : PM.depthI s.data.toList = -1 := by
  rw [c47] at hc
  refine depth_bad hs.out ?_
  rw [H.out, rest_cons s k h]
  exact scan_bad (by omega) (fun hh => hg hh.1)
end
theorem depth_end {s : ByteArray} {g z k : Nat} (hs : Hid (s.data.toList ≠ [])) (H : Hid (PM.scan 1 0 s.data.toList = PM.scan g z (rest s k))) (hk : s.size = k) : PM.depthI s.data.toList = if z = 0 then -1 else (g : Int) := by
  subst hk
  rw [PM.depthI_ne _ hs.out]
  unfold PM.scanD
  rw [H.out, rest_end]
  rfl

set_option maxHeartbeats 400000 in
theorem Depth_any (s : ByteArray) (w : World) (hs : s.size ≤ 9223372036854775807) :
    Calls Try.prog 91 #[.string s] w fun e w' => e = .returned (.int .i64 (PM.depthI s.data.toList)) ∧ w = w' := by
  go_enter Try.func91, Try.ntmps91
  by_cases h0 : s.toList = []
  · go_wp2; go_step3; go_wp2
    rw [Exit.noGoto_ret]; go_ret
    refine ⟨ret_int ?_, rfl⟩
    have h1 : s.data.toList = [] := by rw [← Lib.toList_data]; exact h0
    rw [h1, PM.depthI_nil]
  · have h1 : s.toList.isEmpty = false := by simpa using h0
    have h2 : s.data.toList ≠ [] := by rw [← Lib.toList_data]; exact h0
    clear h0
    have H2 := Lib.hid h2; clear h2
    go_wp2; go_step3; go_wp2; go_step3; go_wp2
    go_loop [3, 4, 11] (fun a b i => ∃ g z k : Nat, k ≤ s.size ∧ i = .int .i64 k ∧ a = .int .i64 g ∧ b = .int .i64 z ∧ 1 ≤ g ∧ g ≤ 4 ∧ z ≤ 6 ∧ Hid (PM.scan 1 0 s.data.toList = PM.scan g z (rest s k))) (fun _ _ i => s.size - (intOf i).toNat)
    case atStart => exact ⟨1, 0, 0, by omega, rfl, rfl, rfl, by omega, by omega, by omega, Lib.hid (by rw [rest_zero])⟩
    case round =>
      obtain ⟨g, z, k, hk, rfl, rfl, rfl, hg1, hg4, hz, H⟩ := hrel
      by_cases hlt : k < s.size
      · go_wp2_with (go_at_call 93; refine (isSegmentByte_any _ _).mono ?_; rintro e w' ⟨rfl, rfl⟩)
        · go_round
          case rel => exact ⟨g + 1, 0, k + 1, by omega, by go_num, by go_num, by go_num, by omega, by omega, by omega, next_slash (h := hlt) H ‹_› ‹_› ‹_›⟩
          case measure => simp [intOf]; omega
        · rw [Exit.noGoto_ret]; go_ret
          exact ⟨ret_int (bad1 (h := hlt) H2 H ‹_› ‹_›).symm, rfl⟩
        · rw [Exit.noGoto_ret]; go_ret
          exact ⟨ret_int (bad2 (h := hlt) H2 H ‹_› ‹_›).symm, rfl⟩
        · go_round
          case rel => exact ⟨g, z + 1, k + 1, by omega, by go_num, by go_num, by go_num, by omega, by omega, by omega, next_seg (h := hlt) H ‹_› ‹_›⟩
          case measure => simp [intOf]; omega
        · rw [Exit.noGoto_ret]; go_ret
          exact ⟨ret_int (bad3 (h := hlt) H2 H ‹_› ‹_›).symm, rfl⟩
        · rw [Exit.noGoto_ret]; go_ret
          exact ⟨ret_int (bad4 (h := hlt) H2 H ‹_› ‹_›).symm, rfl⟩
      · have he : s.size = k := by omega
        have hd := Lib.hid (depth_end H2 H he); clear he
        by_cases hz0 : z = 0
        · subst hz0
          go_wp2
          try rw [Exit.noGoto_ret]
          go_ret
          exact ⟨ret_int hd.out.symm, rfl⟩
        · have hz1 : ((z : Int) == 0) = false := by simpa using hz0
          rw [if_neg hz0] at hd
          clear hz0
          go_wp2
          try rw [Exit.noGoto_ret]
          go_ret
          exact ⟨ret_int hd.out.symm, rfl⟩

set_option maxHeartbeats 400000 in
theorem Valid_any (s : ByteArray) (w : World) (hs : s.size ≤ 9223372036854775807) :
    Calls Try.prog 80 #[.string s] w fun e w' => e = .returned (.bool (PM.okB s.data.toList)) ∧ w = w' := by
  go_enter Try.func80, Try.ntmps80
  go_wp2_with (go_at_call 91; refine (Depth_any _ _ hs).mono ?_; rintro e w' ⟨rfl, rfl⟩)
  go_ret
  exact ⟨ret_bool (PM.depth_nonneg _), rfl⟩

end Go.Proofs.Ytbjemihcbbiiaaa
namespace Go.Proofs.Ytbjemihcbbiiaaa
open Go.RowKit
open PM (str)

/-- A slice of texts that reads as a list (nil let in). -/
def StrsAt (w : World) (A : Option Addr) (c : Nat) (xs : List (List UInt8)) : Prop :=
  xs.length ≤ c ∧ (0 < xs.length → ∃ b o, A = some ⟨b, o, none⟩ ∧ b < w.heap.size ∧ ∀ j x, xs[j]? = some x → w.cell? ⟨b, o + j, none⟩ = some (str x))
theorem StrsAt.nil (w : World) (A : Option Addr) (c : Nat) : StrsAt w A c [] := ⟨Nat.zero_le _, fun h => absurd h (Nat.lt_irrefl 0)⟩
theorem StrsAt.below {w w' : World} {A : Option Addr} {c : Nat} {xs : List (List UInt8)} (h : StrsAt w A c xs) (hb : Below w.heap.size w w') : StrsAt w' A c xs :=
  ⟨h.1, fun h0 => by
    obtain ⟨b, o, e, hlt, hc⟩ := h.2 h0
    exact ⟨b, o, e, Nat.lt_of_lt_of_le hlt hb.size, fun j x hx => (hb.cell (p := ⟨b, o + j, none⟩) hlt).trans (hc j x hx)⟩⟩
theorem StrsAt.new (w : World) (xs : List (List UInt8)) (c : Nat) (hc : xs.length ≤ c) : StrsAt (w.alloc (.cells (xs.map str).toArray 9)) (some ⟨w.heap.size, 0, none⟩) c xs :=
  ⟨hc, fun _ => ⟨w.heap.size, 0, rfl, by simp, fun j x hx => by
    rw [Nat.zero_add, World.cell?_alloc_new]
    simp [hx]⟩⟩

section
variable (s : ByteArray) (w : World)
theorem ok_size (h : PM.okB s.data.toList = true) : s.size ≤ 27 := by
  have := PM.okB_len _ h
  rwa [len_toList] at this
end

section
variable {p q : ByteArray}
theorem cov_bad (h : (!PM.okB q.data.toList) = true) : false = PM.cov p.data.toList q.data.toList := by
  have : PM.okB q.data.toList = false := by simpa using h
  unfold PM.cov
  rw [this]; simp
theorem cov_bad1 (h : (!PM.okB p.data.toList) = true) : false = PM.cov p.data.toList q.data.toList := by
  have : PM.okB p.data.toList = false := by simpa using h
  unfold PM.cov
  rw [this]; simp
theorem cov_nil (h1 : PM.okB p.data.toList = true) (h2 : (!PM.okB q.data.toList) = false) (h : p.toList = []) : true = PM.cov p.data.toList q.data.toList := by
  refine ((PM.cov_iff _ _).2 ⟨h1, by simpa using h2, (PM.prefix_iff _ _).2 (Or.inl ?_)⟩).symm
  rw [← Lib.toList_data]; exact h
theorem cov_same (h1 : PM.okB p.data.toList = true) (h2 : (!PM.okB q.data.toList) = false) (h : p.toList = q.toList) : true = PM.cov p.data.toList q.data.toList := by
  refine ((PM.cov_iff _ _).2 ⟨h1, by simpa using h2, (PM.prefix_iff _ _).2 (Or.inr (Or.inl ?_))⟩).symm
  rw [← Lib.toList_data, ← Lib.toList_data]; exact h
theorem cov_pre (h1 : PM.okB p.data.toList = true) (h2 : (!PM.okB q.data.toList) = false) (h3 : ¬ p.toList = []) (h4 : ¬ p.toList = q.toList) :
    Lib.hasPrefix q.data.toList (p.data.toList ++ [47]) = PM.cov p.data.toList q.data.toList := by
  rw [Lib.toList_data] at h3 h4
  rw [Lib.toList_data] at h4
  rw [Bool.eq_iff_iff, PM.cov_iff, PM.prefix_iff]
  unfold Lib.hasPrefix
  rw [List.isPrefixOf_iff_prefix]
  exact ⟨fun h => ⟨h1, by simpa using h2, Or.inr (Or.inr h)⟩, fun h => h.2.2.resolve_left h3 |>.resolve_left h4⟩
end

def MeetPost (p q : ByteArray) (e : Ending) : Prop :=
  e = if PM.cov p.data.toList q.data.toList = true then .returned (.tuple #[.string q, .bool true]) else if PM.cov q.data.toList p.data.toList = true then .returned (.tuple #[.string p, .bool true]) else .returned (.tuple #[.string ⟨#[]⟩, .bool false])
theorem depth_one (x : List UInt8) : PM.depthI x = 1 ↔ PM.segB x = true := by
  constructor
  · intro h
    unfold PM.depthI at h
    by_cases ho : PM.okB x = true
    · rw [if_pos ho] at h
      have h1 : (PM.segsOf x).length = 1 := by omega
      have h2 := PM.jn_segsOf x
      rw [PM.okB_segs] at ho
      match hs : PM.segsOf x, h1 with
      | [y], _ =>
        rw [hs] at h2 ho
        have : y = x := by rw [← h2]; exact (Lib.join_one y [47]).symm
        subst this
        simpa [PM.segsB] using ho
    · rw [if_neg ho] at h; omega
  · intro h
    have h1 : PM.segsB [x] = true := by simp [PM.segsB, h]
    have h2 := PM.segsOf_jn [x] h1
    have h3 := PM.okB_jn [x] h1
    have h4 : PM.jn [x] = x := Lib.join_one x [47]
    rw [h4] at h2 h3
    rw [PM.depth_ok h3, h2]; rfl

def joinE (xs : List (List UInt8)) : Ending := if PM.segsB xs = true then .returned (.tuple #[str (PM.jn xs), .int .i64 0]) else .returned (.tuple #[.string ⟨#[]⟩, .int .i64 10])
theorem joinE_ok {xs : List (List UInt8)} (h : PM.segsB xs = true) : joinE xs = .returned (.tuple #[str (PM.jn xs), .int .i64 0]) := if_pos h
theorem joinE_no {xs : List (List UInt8)} (h : PM.segsB xs = false) : joinE xs = .returned (.tuple #[.string ⟨#[]⟩, .int .i64 10]) := if_neg (by rw [h]; simp)
theorem bytes_data (x : List UInt8) : (⟨x.toArray⟩ : ByteArray).data.toList = x := by simp
theorem bytes_size (x : List UInt8) : (⟨x.toArray⟩ : ByteArray).size = x.length := by rw [← len_toList, bytes_data]

theorem segsB_long {xs : List (List UInt8)} (h : 4 < xs.length) : PM.segsB xs = false := by
  unfold PM.segsB
  rw [decide_eq_false (by omega)]; rfl
theorem segsB_bad {xs : List (List UInt8)} {k : Nat} {x : List UInt8} (hx : xs[k]? = some x) (h : ¬ PM.depthI x = 1) : PM.segsB xs = false := by
  have h1 : PM.segB x = false := by
    rw [Bool.eq_false_iff]
    exact fun e => h ((depth_one x).2 e)
  unfold PM.segsB
  have : xs.all PM.segB = false := by
    rw [Bool.eq_false_iff]
    intro e
    have := List.all_eq_true.1 e x (List.mem_of_getElem? hx)
    rw [h1] at this; cases this
  rw [this]; simp

theorem lens_seg : ∀ (xs : List (List UInt8)), (∀ x ∈ xs, x.length ≤ 6) → (PM.jn xs).length ≤ 7 * xs.length := by
  intro xs
  induction xs with
  | nil => intro _; simp [Lib.join_nil]
  | cons x r ih =>
    intro h
    have h1 := h x (by simp)
    have h2 := ih (fun y hy => h y (List.mem_cons_of_mem _ hy))
    cases r with
    | nil => have : PM.jn [x] = x := Lib.join_one x [47]; rw [this]; simp; omega
    | cons y r2 => rw [PM.jn_cons2]; simp only [List.length_append, List.length_cons] at h2 ⊢; omega

end Go.Proofs.Ytbjemihcbbiiaaa
namespace Go.Proofs.Ytbjemihcbbiiaaa
open Go.RowKit
set_option maxRecDepth 100000
open PM (str)

theorem all_ends {s : ByteArray} : (rest s s.size).all PM.isSeg = true := by rw [rest_end]; rfl
theorem all_step {s : ByteArray} {k : Nat} (h : k < s.size) (H : Hid (s.data.toList.all PM.isSeg = (rest s k).all PM.isSeg))
    (h1 : 97 ≤ (s[k].toNat : Int) ∧ (s[k].toNat : Int) ≤ 122 ∨ 48 ≤ (s[k].toNat : Int) ∧ (s[k].toNat : Int) ≤ 57) : Hid (s.data.toList.all PM.isSeg = (rest s (k + 1)).all PM.isSeg) := by
  refine Lib.hid ?_
  have : PM.isSeg s[k] = true := by unfold PM.isSeg; rw [decide_eq_true_eq]; omega
  rw [H.out, rest_cons s k h, List.all_cons, this, Bool.true_and]
theorem all_bad {s : ByteArray} {k : Nat} (h : k < s.size) (H : Hid (s.data.toList.all PM.isSeg = (rest s k).all PM.isSeg))
    (h1 : ¬ (97 ≤ (s[k].toNat : Int) ∧ (s[k].toNat : Int) ≤ 122 ∨ 48 ≤ (s[k].toNat : Int) ∧ (s[k].toNat : Int) ≤ 57)) : false = PM.segB s.data.toList := by
  have : PM.isSeg s[k] = false := by unfold PM.isSeg; rw [decide_eq_false_iff_not]; omega
  have h2 : s.data.toList.all PM.isSeg = false := by rw [H.out, rest_cons s k h, List.all_cons, this, Bool.false_and]
  unfold PM.segB
  rw [h2]; simp
theorem all_end {s : ByteArray} {k : Nat} (h : s.size = k) (h1 : 1 ≤ s.size) (h6 : s.size ≤ 6) (H : Hid (s.data.toList.all PM.isSeg = (rest s k).all PM.isSeg)) : true = PM.segB s.data.toList := by
  subst h
  refine ((PM.segB_iff _).2 ⟨by rw [len_toList]; exact h1, by rw [len_toList]; exact h6, ?_⟩).symm
  rw [H.out, all_ends]
theorem seg_short {s : ByteArray} (h : ¬ (1 ≤ s.size ∧ s.size ≤ 6)) : false = PM.segB s.data.toList := by
  symm
  rw [Bool.eq_false_iff, ne_eq, PM.segB_iff, len_toList]
  omega

set_option maxHeartbeats 400000 in
theorem segment_any (s : ByteArray) (w : World) :
    Calls Try.prog 86 #[.string s] w fun e w' => e = .returned (.bool (PM.segB s.data.toList)) ∧ w = w' := by
  by_cases h6 : 1 ≤ s.size ∧ s.size ≤ 6
  · obtain ⟨h1, h6⟩ := h6
    go_enter Try.func86, Try.ntmps86
    go_wp2
    go_loop [3] (fun i => ∃ k : Nat, k ≤ s.size ∧ i = .int .i64 k ∧ Hid (s.data.toList.all PM.isSeg = (rest s k).all PM.isSeg)) (fun i => s.size - (intOf i).toNat)
    case atStart => exact ⟨0, Nat.zero_le _, rfl, Lib.hid (by rw [rest_zero])⟩
    case round =>
      obtain ⟨k, hk, rfl, H⟩ := hrel
      by_cases hlt : k < s.size
      · go_wp2
        all_goals first
          | (go_round
             case rel => exact ⟨k + 1, by omega, by go_num, all_step hlt H (by omega)⟩
             case measure => simp [intOf]; omega)
          | (go_ret
             exact ⟨ret_bool (all_bad hlt H (by omega)), rfl⟩)
      · go_wp2
        go_ret
        exact ⟨ret_bool (all_end (by omega) h1 h6 H), rfl⟩
  · by_cases h0 : s.size < 1
    · go_enter Try.func86, Try.ntmps86
      go_wp2
      go_ret
      exact ⟨ret_bool (seg_short h6), rfl⟩
    · have h7 : 6 < s.size := by omega
      go_enter Try.func86, Try.ntmps86
      go_wp2
      go_ret
      exact ⟨ret_bool (seg_short h6), rfl⟩

/-! ### Split, by definition -/
theorem own_form {w : World} {base : Nat} {e : TypeId} {v : Value} {n : Nat} {xs : List Value} (h : w.ownsRow base e 1 v n xs) : ∃ A c, v = .slice A n c := by
  rcases h.2 with ⟨rfl, rfl⟩ | ⟨g, cap, cur, rfl, _⟩
  · exact ⟨_, _, rfl⟩
  · exact ⟨_, _, rfl⟩
theorem own_strs {w : World} {base : Nat} {A : Option Addr} {n c : Nat} {xs : List (List UInt8)} (h : w.ownsRow base 9 1 (.slice A n c) n (xs.map str)) (hn : xs.length = n) : StrsAt w A c xs := by
  have hl := h.lt
  have hc := @World.ownsRow.cells _ _ _ _ _ _ _ h
  rcases h.2 with ⟨hv, hn0⟩ | ⟨g, cap, cur, hv, _, hg, hle, _⟩
  · have : xs = [] := List.eq_nil_of_length_eq_zero (by omega)
    subst this
    exact StrsAt.nil _ _ _
  · cases hv
    refine ⟨by omega, fun h0 => ⟨g, 0, rfl, (hl g rfl).2, fun j x hx => ?_⟩⟩
    have := hc rfl j (str x) (by rw [List.getElem?_map, hx]; rfl)
    rw [Addr.add_lit] at this
    exact this

/-- The text's bytes from 'f' up to 'k'. -/
def cut (s : ByteArray) (f k : Nat) : List UInt8 := (s.data.toList.take k).drop f
theorem cut_data (s : ByteArray) (f k : Nat) : (s.extract f k).data.toList = cut s f k := by
  rw [Lib.extract_data]
  unfold cut
  simp [List.drop_take]
theorem cut_str (s : ByteArray) (f k : Nat) : Value.string (s.extract f k) = str (cut s f k) := by
  rw [← cut_data]; rfl
theorem cut_more (s : ByteArray) (f k : Nat) (hf : f ≤ k) (h : k < s.size) : cut s f (k + 1) = cut s f k ++ [s[k]] := by
  unfold cut
  rw [List.take_succ_eq_append_getElem (by rw [len_toList]; exact h), List.drop_append_of_le_length (by simp; omega)]
  rfl
theorem cut_self (s : ByteArray) (k : Nat) : cut s k k = [] := by
  unfold cut
  apply List.drop_of_length_le
  simp
  omega
theorem info_str : (Try.prog.info? 9).map (fun i => (i.zero, i.size, i.bytes)) = some (some (.string ⟨#[]⟩), 1, 16) := by kernel_rfl

/-- What is known at byte k: the pieces are those that are done, then those of what is at hand. -/
def AtByte (s : ByteArray) (o : List (List UInt8)) (f k : Nat) : Prop :=
  (k ≤ s.size → PM.pcs [] s.data.toList = o ++ PM.pcs (cut s f k) (rest s k)) ∧ (s.size < k → PM.pcs [] s.data.toList = o)
section
variable {s : ByteArray} {o : List (List UInt8)} {f k : Nat}
theorem AtByte.more (H : AtByte s o f k) (hf : f ≤ k) (h : k < s.size) (hc : ((s[k].toNat : Int) != 47) = true) : AtByte s o f (k + 1) := by
  have hc' : s[k] ≠ 47 := fun e => by rw [e] at hc; exact absurd hc (by decide)
  refine ⟨fun _ => ?_, fun h2 => by omega⟩
  rw [H.1 (by omega), rest_cons s k h, PM.pcs, if_neg hc', ← cut_more s f k hf h]
theorem AtByte.slash (H : AtByte s o f k) (h : k < s.size) (hc : ((s[k].toNat : Int) != 47) = false) :
    (∃ R, PM.pcs [] s.data.toList = o ++ cut s f k :: R) ∧ AtByte s (o ++ [cut s f k]) (k + 1) (k + 1) := by
  have hc' : s[k] = 47 := UInt8.toNat_inj.1 (by simp only [bne_eq_false_iff_eq] at hc; rw [show (47 : UInt8).toNat = 47 from rfl]; omega)
  have := H.1 (by omega)
  rw [rest_cons s k h, PM.pcs, if_pos hc'] at this
  exact ⟨⟨_, this⟩, fun _ => by rw [cut_self, this]; simp, fun h2 => by omega⟩
theorem AtByte.last (H : AtByte s o f k) (h : s.size = k) : (∃ R, PM.pcs [] s.data.toList = o ++ cut s f k :: R) ∧ AtByte s (o ++ [cut s f k]) (k + 1) (k + 1) := by
  subst h
  have := H.1 (Nat.le_refl _)
  rw [rest_end, PM.pcs] at this
  exact ⟨⟨[], this⟩, fun h2 => by omega, fun _ => this⟩
theorem many_bad (h0 : s.data.toList ≠ []) {x : List UInt8} (H : ∃ R, PM.pcs [] s.data.toList = o ++ x :: R) (h : (o.length : Int) = 4) : PM.okB s.data.toList = false := by
  obtain ⟨R, hR⟩ := H
  rw [Bool.eq_false_iff, ne_eq, PM.okB_iff _ h0, hR]
  simp only [List.length_append, List.length_cons]
  omega
theorem seg_bad (h0 : s.data.toList ≠ []) {x : List UInt8} (H : ∃ R, PM.pcs [] s.data.toList = o ++ x :: R) (h : PM.segB x = false) : PM.okB s.data.toList = false := by
  obtain ⟨R, hR⟩ := H
  rw [Bool.eq_false_iff, ne_eq, PM.okB_iff _ h0, hR]
  simp only [List.all_append, List.all_cons, h, Bool.false_and, Bool.and_false]
  simp
theorem AtByte.done (h0 : s.data.toList ≠ []) (H : AtByte s o f k) (h : s.size < k) (h4 : o.length ≤ 4) (hs : o.all PM.segB = true) : PM.okB s.data.toList = true ∧ PM.segsOf s.data.toList = o := by
  have := H.2 h
  refine ⟨(PM.okB_iff _ h0).2 ⟨by rw [this]; exact h4, by rw [this]; exact hs⟩, ?_⟩
  unfold PM.segsOf
  rw [if_neg h0, this]
end

theorem one_str {x : ByteArray} : ∀ u ∈ [Value.string x], u.oneCell' = true := by
  intro u hu
  simp at hu
  subst hu
  rfl
theorem bad_of {n : Int} {b : Bool} (h : ¬ n = 4) (h2 : (n == 4) = true ∨ (!b) = true) : b = false := by
  rcases h2 with h2 | h2
  · exact absurd (beq_iff_eq.1 h2) h
  · simpa using h2
theorem size_alloc (w : World) (o : Obj) : (w.alloc o).heap.size = w.heap.size + 1 := by simp
/-- What the document's Split leaves. -/
def RSplitPost (l : List UInt8) (w : World) (e : Ending) (w' : World) : Prop :=
  (PM.okB l = true ∧ (∃ A c, e = .returned (.tuple #[.slice A (PM.segsOf l).length c, .int .i64 0]) ∧ StrsAt w' A c (PM.segsOf l)) ∨ PM.okB l = false ∧ e = .returned (.tuple #[.slice none 0 0, .int .i64 10])) ∧ Below w.heap.size w w'

set_option maxHeartbeats 800000 in
theorem RSplit_any (s : ByteArray) (w : World) (hs : s.size ≤ 140737488351232) :
    Calls Try.prog 68 #[.string s] w (RSplitPost s.data.toList w) := by
  obtain ⟨i0, hi, hz0, hz1, hz2⟩ := info_parts info_str
  by_cases h0 : s.toList = []
  · go_enter Try.func68, Try.ntmps68
    go_wp2
    go_ret2
    have h1 : s.data.toList = [] := by rw [← Lib.toList_data]; exact h0
    rw [h1]
    exact ⟨Or.inl ⟨rfl, none, 0, rfl, StrsAt.nil _ _ _⟩, Below.refl _ _⟩
  · have h1 : s.toList.isEmpty = false := by simpa using h0
    have h2 : s.data.toList ≠ [] := by rw [← Lib.toList_data]; exact h0
    clear h0
    have H2 := Lib.hid h2; clear h2
    go_enter Try.func68, Try.ntmps68
    go_wp2
    go_loopw [4, 5, 6] (fun v fr i wr => ∃ (k f : Nat) (o : List (List UInt8)), f ≤ k ∧ k ≤ s.size + 1 ∧ i = .int .i64 k ∧ fr = .int .i64 f ∧ wr.ownsRow w.heap.size 9 1 v o.length (o.map str) ∧ o.length ≤ 4 ∧ Hid (o.all PM.segB = true) ∧ AtByte s o f k ∧ Below w.heap.size w wr) (fun _ _ i _ => s.size + 1 - (intOf i).toNat)
    case atStart => exact ⟨0, 0, [], Nat.le_refl _, by omega, rfl, rfl, World.ownsRow_nil _ _ _ _, by simp, Lib.hid rfl, ⟨fun _ => by simp [cut, rest_zero], fun h => absurd h (by omega)⟩, Below.refl _ _⟩
    case round =>
      obtain ⟨k, f, o, hf, hk, rfl, rfl, hown, ho4, HO, HP, hbel⟩ := hrel
      obtain ⟨A, c, rfl⟩ := own_form hown
      by_cases hlt : s.size < k
      · obtain ⟨d1, d2⟩ := HP.done H2.out hlt ho4 HO.out
        have D1 := Lib.hid d1; have D2 := Lib.hid d2; clear d1 d2
        go_wp2
        go_ret2
        refine ⟨Or.inl ⟨D1.out, A, c, ?_, ?_⟩, hbel⟩
        · rw [D2.out]; rfl
        · rw [D2.out]; exact own_strs hown rfl
      · by_cases hmore : ∃ h : k < s.size, ((s[k].toNat : Int) != 47) = true
        · obtain ⟨hlt2, hc⟩ := hmore
          have HP' := HP.more hf hlt2 hc
          clear HP
          go_wp2
          go_roundw
          case rel => exact ⟨k + 1, f, o, by omega, by omega, by go_num, rfl, hown, ho4, HO, HP', hbel⟩
          case measure => simp [intOf]; omega
        · have hB : (∃ R, PM.pcs [] s.data.toList = o ++ cut s f k :: R) ∧ AtByte s (o ++ [cut s f k]) (k + 1) (k + 1) := by
            by_cases hlt2 : k < s.size
            · exact HP.slash hlt2 (by
                rw [Bool.eq_false_iff]
                exact fun e => hmore ⟨hlt2, e⟩)
            · exact HP.last (by omega)
          obtain ⟨hR, HP'⟩ := hB
          have HR := Lib.hid hR
          clear HP hR
          have hB2 : (∃ h : k < s.size, ((s[k].toNat : Int) != 47) = false) ∨ ¬ k < s.size := by
            by_cases hlt2 : k < s.size
            · exact Or.inl ⟨hlt2, by
                rw [Bool.eq_false_iff]
                exact fun e => hmore ⟨hlt2, e⟩⟩
            · exact Or.inr hlt2
          clear hmore
          have hseg := segment_any (s.extract f k)
          rw [cut_data] at hseg
          have HSeg := Lib.hid hseg; clear hseg
          rcases hB2 with ⟨hlt2, hc⟩ | hlt2
          all_goals
            go_wp2_with (first
              | (go_at_call 86; refine (HSeg.out _).mono ?_; rintro e w' ⟨rfl, rfl⟩)
              | (at_builtin; refine wpList_append_own _ rfl (.tmp 36) (.tmp 41) 111 rfl w.heap.size 9 i0 (.string ⟨#[]⟩) 1 16 Try.underlying111 hi hz0 hz1 hz2 rfl (by decide) _ _ _ rfl (hown.alloc _) ⟨wr.heap.size, 0, none⟩ 1 1 [.string (s.extract f k)] rfl rfl (cell_one_new _ _ _) one_str (by unfold maxLen; omega) (by omega) (by rw [size_alloc]; exact Nat.le_succ_of_le hbel.size) ?_; intro v2 w2 hown2 hgrow2 _))
          all_goals first
            | (go_ret2
               refine ⟨Or.inr ⟨?_, rfl⟩, hbel⟩
               first
                 | exact many_bad H2.out HR.out (by assumption)
                 | exact seg_bad H2.out HR.out (bad_of (by assumption) (by assumption)))
            | (go_roundw
               case rel =>
                 refine ⟨k + 1, k + 1, o ++ [cut s f k], Nat.le_refl _, by omega, by go_num, by go_num, ?_, ?_, Lib.hid ?_, HP', ?_⟩
                 · rw [List.length_append, List.map_append]
                   have := hown2
                   rw [cut_str] at this
                   exact this
                 · have : ¬ (o.length : Int) = 4 := by assumption
                   simp; omega
                 · have h := HO.out
                   have hand : ((o.length : Int) == 4) = false ∧ (!PM.segB (cut s f k)) = false := by assumption
                   rw [List.all_append, h, List.all_cons, List.all_nil]
                   simpa using hand.2
                 · exact (hbel.alloc hbel.size _).grown hgrow2 (by rw [size_alloc]; exact Nat.le_succ_of_le hbel.size) (fun g hg => (hown.lt g hg).1)
               case measure => simp [intOf]; omega)

end Go.Proofs.Ytbjemihcbbiiaaa
namespace Go.Proofs.Ytbjemihcbbiiaaa
open Go.RowKit
set_option maxRecDepth 100000
open PM (str)

theorem below_drewN {B : Nat} {a w : World} (h : Below B a w) (n : Nat) : Below B a (w.drewN n) := ⟨h.os, h.tape, h.output, h.size, h.block⟩

section
variable (s : ByteArray) (w : World) (hs : s.size ≤ 140737488351232)
include hs
set_option maxHeartbeats 400000 in
theorem RValid_any : Calls Try.prog 40 #[.string s] w fun e w' => e = .returned (.bool (PM.okB s.data.toList)) ∧ Below w.heap.size w w' := by
  go_enter Try.func40, Try.ntmps40
  go_wp2_with fail
  refine (RSplit_any _ _ hs).mono ?_
  rintro e w' ⟨⟨ho, A, c, rfl, hS⟩ | ⟨ho, rfl⟩, hb⟩
  all_goals
    have HO := Lib.hid ho; clear ho
    go_wp2
    go_ret
    exact ⟨ret_bool HO.out.symm, hb⟩
end

/-! ### same -/
/-! ### Join, by definition -/
theorem jn_snoc (xs : List (List UInt8)) (x : List UInt8) (h : xs ≠ []) : PM.jn (xs ++ [x]) = PM.jn xs ++ 47 :: x := by
  rw [PM.jn_app xs [x] h (by simp)]
  have : PM.jn [x] = x := Lib.join_one x [47]
  rw [this]
theorem jn_one (x : List UInt8) : PM.jn ([] ++ [x]) = x := Lib.join_one x [47]

theorem data_app (a b : ByteArray) : (a ++ b).data.toList = a.data.toList ++ b.data.toList := by simp
theorem size_app (a b : ByteArray) : (a ++ b).size = a.size + b.size := by simp

/-! ### Covers, by definition -/
theorem take_prefix {xs ys : List (List UInt8)} (h : xs = ys.take xs.length) : xs <+: ys := by
  rw [h]; exact List.take_prefix _ _
theorem prefix_take {xs ys : List (List UInt8)} (h : xs <+: ys) : xs = ys.take xs.length := List.prefix_iff_eq_take.1 h

section
variable (p q : ByteArray) (w : World) (hp : p.size ≤ 140737488351232) (hq : q.size ≤ 140737488351232)
include hp hq
end

/-! ### Compare, byte by byte -/
theorem cmp_lt {p q : ByteArray} {k : Nat} (hp : k < p.size) (hq : k < q.size) (H : Hid (PM.cmp p.data.toList q.data.toList = PM.cmp (rest p k) (rest q k))) (h : p[k].toNat < q[k].toNat) : PM.cmp p.data.toList q.data.toList = -1 := by
  rw [H.out, rest_cons p k hp, rest_cons q k hq, PM.cmp_cons, if_pos (by rw [UInt8.lt_iff_toNat_lt]; exact h)]
theorem cmp_gt {p q : ByteArray} {k : Nat} (hp : k < p.size) (hq : k < q.size) (H : Hid (PM.cmp p.data.toList q.data.toList = PM.cmp (rest p k) (rest q k))) (h : q[k].toNat < p[k].toNat) : PM.cmp p.data.toList q.data.toList = 1 := by
  rw [H.out, rest_cons p k hp, rest_cons q k hq, PM.cmp_cons, if_neg (by rw [UInt8.lt_iff_toNat_lt]; omega), if_pos (by rw [UInt8.lt_iff_toNat_lt]; exact h)]
theorem cmp_same {p q : ByteArray} {k : Nat} (hp : k < p.size) (hq : k < q.size) (H : Hid (PM.cmp p.data.toList q.data.toList = PM.cmp (rest p k) (rest q k))) (h : p[k].toNat = q[k].toNat) :
    Hid (PM.cmp p.data.toList q.data.toList = PM.cmp (rest p (k + 1)) (rest q (k + 1))) :=
  Lib.hid (by rw [H.out, rest_cons p k hp, rest_cons q k hq, PM.cmp_cons, if_neg (by rw [UInt8.lt_iff_toNat_lt]; omega), if_neg (by rw [UInt8.lt_iff_toNat_lt]; omega)])
theorem rest_ne {s : ByteArray} {k : Nat} (h : k < s.size) : ∃ c r, rest s k = c :: r := ⟨_, _, rest_cons s k h⟩
theorem rest_over {s : ByteArray} {k : Nat} (h : s.size ≤ k) : rest s k = [] := by
  unfold rest
  apply List.drop_of_length_le
  rw [len_toList]; exact h

end Go.Proofs.Ytbjemihcbbiiaaa
