/- What a path is, in plain lists of bytes: its pieces, the scan that counts them, joining, covering and comparing; no program is named. -/
import Derived.Lib.Bytealg
import Derived.Lib.Join
namespace Go.Proofs.YtpfljooceppcbaaDoor.PM

def isSeg (c : UInt8) : Bool := decide ((97 ≤ c.toNat ∧ c.toNat ≤ 122) ∨ (48 ≤ c.toNat ∧ c.toNat ≤ 57))
def segB (l : List UInt8) : Bool := decide (1 ≤ l.length) && (decide (l.length ≤ 6) && l.all isSeg)
def pcs : List UInt8 → List UInt8 → List (List UInt8)
  | cur, [] => [cur]
  | cur, c :: r => if c = 47 then cur :: pcs [] r else pcs (cur ++ [c]) r
def okB (l : List UInt8) : Bool := l.isEmpty || (decide ((pcs [] l).length ≤ 4) && (pcs [] l).all segB)
def segsOf (l : List UInt8) : List (List UInt8) := if l = [] then [] else pcs [] l
def depthI (l : List UInt8) : Int := if okB l = true then (segsOf l).length else -1
def scan : Nat → Nat → List UInt8 → Option (Nat × Nat)
  | s, z, [] => some (s, z)
  | s, z, c :: r => if c = 47 ∧ 0 < z ∧ s < 4 then scan (s + 1) 0 r else if isSeg c = true ∧ z < 6 then scan s (z + 1) r else none

theorem isSeg_47 : isSeg 47 = false := by decide
theorem segB_iff (l : List UInt8) : segB l = true ↔ 1 ≤ l.length ∧ l.length ≤ 6 ∧ l.all isSeg = true := by simp [segB]

theorem pcs_ne (l : List UInt8) : ∀ cur, pcs cur l ≠ [] := by
  induction l with
  | nil => intro cur; simp [pcs]
  | cons c r ih =>
    intro cur
    unfold pcs
    split
    · simp
    · exact ih _

theorem pcs_pos (cur l : List UInt8) : 1 ≤ (pcs cur l).length := by
  have := pcs_ne l cur
  cases h : pcs cur l with
  | nil => exact absurd h this
  | cons a b => simp

theorem pcs_bad : ∀ (l cur : List UInt8), (6 < cur.length ∨ cur.all isSeg = false) → (pcs cur l).all segB = false := by
  intro l
  induction l with
  | nil =>
    intro cur h
    have : segB cur = false := by
      rw [Bool.eq_false_iff, ne_eq, segB_iff]
      rintro ⟨_, h2, h3⟩
      rcases h with h | h
      · omega
      · rw [h] at h3; cases h3
    simp [pcs, this]
  | cons c r ih =>
    intro cur h
    unfold pcs
    by_cases hc : c = 47
    · rw [if_pos hc]
      have : segB cur = false := by
        rw [Bool.eq_false_iff, ne_eq, segB_iff]
        rintro ⟨_, h2, h3⟩
        rcases h with h | h
        · omega
        · rw [h] at h3; cases h3
      simp only [List.all_cons, this, Bool.false_and]
    · rw [if_neg hc]
      refine ih _ ?_
      rcases h with h | h
      · left; simp; omega
      · right; simp only [List.all_append, h, Bool.false_and]

/-- The scan from s pieces and a current piece 'cur' on tells just what the pieces tell. -/
theorem scan_spec : ∀ (l cur : List UInt8) (s : Nat), cur.all isSeg = true → cur.length ≤ 6 → 1 ≤ s → s ≤ 4 →
    (scan s cur.length l = none → ¬ (s + (pcs cur l).length ≤ 5 ∧ (pcs cur l).all segB = true)) ∧
    (∀ s' z', scan s cur.length l = some (s', z') → s' + 1 = s + (pcs cur l).length ∧ s' ≤ 4 ∧ (z' ≠ 0 ↔ (pcs cur l).all segB = true)) := by
  intro l
  induction l with
  | nil =>
    intro cur s h1 h2 h3 h4
    constructor
    · intro h; simp [scan] at h
    · intro s' z' h
      simp only [scan, Option.some.injEq, Prod.mk.injEq] at h
      obtain ⟨rfl, rfl⟩ := h
      refine ⟨by simp [pcs], h4, ?_⟩
      simp only [pcs, List.all_cons, List.all_nil, Bool.and_true, segB_iff, h1, and_true]
      omega
  | cons c r ih =>
    intro cur s h1 h2 h3 h4
    unfold scan pcs
    by_cases hc : c = 47
    · subst hc
      by_cases hz : 0 < cur.length
      · have hs : segB cur = true := (segB_iff _).2 ⟨hz, h2, h1⟩
        by_cases hs4 : s < 4
        · rw [if_pos ⟨rfl, hz, hs4⟩, if_pos rfl]
          have := ih [] (s + 1) rfl (by simp) (by omega) (by omega)
          simp only [List.length_nil] at this
          refine ⟨fun h hh => this.1 h ⟨?_, ?_⟩, fun s' z' h => ?_⟩
          · have := hh.1; simp only [List.length_cons] at this; omega
          · have := hh.2; simp only [List.all_cons, hs, Bool.true_and] at this; exact this
          · obtain ⟨e1, e2, e3⟩ := this.2 s' z' h
            refine ⟨by simp only [List.length_cons]; omega, e2, ?_⟩
            simp only [List.all_cons, hs, Bool.true_and]
            exact e3
        · rw [if_neg (fun h => hs4 h.2.2), if_neg (fun h => by rw [isSeg_47] at h; cases h.1), if_pos rfl]
          refine ⟨fun _ hh => ?_, fun s' z' h => by cases h⟩
          have := hh.1
          have h5 := pcs_pos [] r
          simp only [List.length_cons] at this
          omega
      · rw [if_neg (fun h => hz h.2.1), if_neg (fun h => by rw [isSeg_47] at h; cases h.1), if_pos rfl]
        refine ⟨fun _ hh => ?_, fun s' z' h => by cases h⟩
        have h6 := hh.2
        have : segB cur = false := by rw [Bool.eq_false_iff, ne_eq, segB_iff]; omega
        simp only [List.all_cons, this, Bool.false_and] at h6
        cases h6
    · rw [if_neg (fun h => hc h.1), if_neg hc]
      by_cases hg : isSeg c = true
      · by_cases hz : cur.length < 6
        · rw [if_pos ⟨hg, hz⟩]
          have := ih (cur ++ [c]) s (by simp [h1, hg]) (by simp; omega) h3 h4
          simpa using this
        · rw [if_neg (fun h => hz h.2)]
          refine ⟨fun _ hh => ?_, fun s' z' h => by cases h⟩
          rw [pcs_bad r (cur ++ [c]) (Or.inl (by simp; omega))] at hh
          exact absurd hh.2 (by simp)
      · rw [if_neg (fun h => hg h.1)]
        refine ⟨fun _ hh => ?_, fun s' z' h => by cases h⟩
        rw [pcs_bad r (cur ++ [c]) (Or.inr (by simp [Bool.eq_false_iff.2 hg]))] at hh
        exact absurd hh.2 (by simp)

def scanD (l : List UInt8) : Int := match scan 1 0 l with
  | none => -1
  | some (s, z) => if z = 0 then -1 else s

theorem depthI_nil : depthI [] = 0 := by decide
theorem depthI_ne (l : List UInt8) (h : l ≠ []) : depthI l = scanD l := by
  have hs := scan_spec l [] 1 rfl (by simp) (by omega) (by omega)
  simp only [List.length_nil] at hs
  have he : l.isEmpty = false := by cases l with | nil => exact absurd rfl h | cons a b => rfl
  unfold depthI scanD okB segsOf
  rw [if_neg h, he, Bool.false_or]
  cases hc : scan 1 0 l with
  | none =>
    have := hs.1 hc
    rw [if_neg]
    intro hh
    simp only [Bool.and_eq_true, decide_eq_true_eq] at hh
    exact this ⟨by omega, hh.2⟩
  | some x =>
    obtain ⟨s, z⟩ := x
    obtain ⟨e1, e2, e3⟩ := hs.2 s z hc
    show _ = if z = 0 then (-1 : Int) else s
    by_cases hz : z = 0
    · rw [if_pos hz, if_neg]
      intro hh
      simp only [Bool.and_eq_true, decide_eq_true_eq] at hh
      exact absurd hz (e3.2 hh.2)
    · rw [if_neg hz, if_pos]
      · omega
      · simp only [Bool.and_eq_true, decide_eq_true_eq]
        exact ⟨by omega, e3.1 hz⟩

theorem depth_nonneg (l : List UInt8) : decide (0 ≤ depthI l) = okB l := by
  unfold depthI
  by_cases h : okB l = true
  · rw [if_pos h, h]; simp
  · rw [if_neg h, Bool.eq_false_iff.2 h]; rfl

theorem okB_iff (l : List UInt8) (h : l ≠ []) : okB l = true ↔ (pcs [] l).length ≤ 4 ∧ (pcs [] l).all segB = true := by
  have he : l.isEmpty = false := by cases l with | nil => exact absurd rfl h | cons a b => rfl
  unfold okB
  rw [he, Bool.false_or]
  simp

theorem pcs_app47 : ∀ (l cur t : List UInt8), pcs cur (l ++ 47 :: t) = pcs cur l ++ pcs [] t := by
  intro l
  induction l with
  | nil => intro cur t; simp [pcs]
  | cons c r ih =>
    intro cur t
    simp only [List.cons_append, pcs]
    split
    · rw [ih]; rfl
    · rw [ih]

theorem pcs_no (l : List UInt8) : ∀ cur, (47 : UInt8) ∉ l → pcs cur l = [cur ++ l] := by
  induction l with
  | nil => intro cur _; simp [pcs]
  | cons c r ih =>
    intro cur h
    have h1 : c ≠ 47 := fun e => h (by simp [e])
    have h2 : (47 : UInt8) ∉ r := fun e => h (by simp [e])
    rw [pcs, if_neg h1, ih _ h2]
    simp

theorem seg_no (l : List UInt8) (h : segB l = true) : (47 : UInt8) ∉ l := by
  intro hm
  have := List.all_eq_true.1 ((segB_iff l).1 h).2.2 _ hm
  rw [isSeg_47] at this
  cases this

abbrev jn (xs : List (List UInt8)) : List UInt8 := Lib.join xs [47]

theorem jn_cons2 (x y : List UInt8) (r : List (List UInt8)) : jn (x :: y :: r) = x ++ 47 :: jn (y :: r) := by
  show Lib.join _ _ = _ ++ _ :: Lib.join _ _
  rw [Lib.join_cons, Lib.join_cons]
  simp [Lib.joinTail]

theorem jn_app : ∀ (xs ys : List (List UInt8)), xs ≠ [] → ys ≠ [] → jn (xs ++ ys) = jn xs ++ 47 :: jn ys := by
  intro xs
  induction xs with
  | nil => intro ys h _; exact absurd rfl h
  | cons x r ih =>
    intro ys _ hy
    cases r with
    | nil =>
      cases ys with
      | nil => exact absurd rfl hy
      | cons y r2 =>
        have h1 : jn [x] = x := Lib.join_one x [47]
        simp only [List.cons_append, List.nil_append]; rw [jn_cons2, h1]
    | cons x2 r2 =>
      have := ih ys (by simp) hy
      simp only [List.cons_append] at this ⊢
      rw [jn_cons2, this, jn_cons2]
      simp

theorem pcs_jn : ∀ (xs : List (List UInt8)), xs ≠ [] → (∀ x ∈ xs, (47 : UInt8) ∉ x) → pcs [] (jn xs) = xs := by
  intro xs
  induction xs with
  | nil => intro h; exact absurd rfl h
  | cons x r ih =>
    intro _ hx
    cases r with
    | nil =>
      show pcs [] (Lib.join _ _) = _
      rw [Lib.join_one, pcs_no _ _ (hx x (by simp))]; rfl
    | cons y r2 =>
      rw [jn_cons2, pcs_app47, pcs_no _ _ (hx x (by simp)), ih (by simp) (fun z hz => hx z (List.mem_cons_of_mem _ hz))]
      rfl

theorem jn_pcs : ∀ (l cur : List UInt8), jn (pcs cur l) = cur ++ l := by
  intro l
  induction l with
  | nil => intro cur; show Lib.join _ _ = _; simp [pcs, Lib.join_one]
  | cons c r ih =>
    intro cur
    unfold pcs
    by_cases h : c = 47
    · subst h
      rw [if_pos rfl]
      have hne := pcs_ne r []
      have := ih []
      cases hp : pcs [] r with
      | nil => exact absurd hp hne
      | cons a b => rw [jn_cons2, ← hp, this]; rfl
    · rw [if_neg h, ih]; simp

theorem jn_segsOf (l : List UInt8) : jn (segsOf l) = l := by
  unfold segsOf
  by_cases h : l = []
  · rw [if_pos h, h]; rfl
  · rw [if_neg h, jn_pcs]; rfl

def segsB (xs : List (List UInt8)) : Bool := decide (xs.length ≤ 4) && xs.all segB

theorem segsB_no (xs : List (List UInt8)) (h : segsB xs = true) : ∀ x ∈ xs, (47 : UInt8) ∉ x := by
  simp only [segsB, Bool.and_eq_true, List.all_eq_true] at h
  exact fun x hx => seg_no x (h.2 x hx)

theorem jn_ne (xs : List (List UInt8)) (h : xs ≠ []) (hs : xs.all segB = true) : jn xs ≠ [] := by
  cases xs with
  | nil => exact absurd rfl h
  | cons x r =>
    simp only [List.all_cons, Bool.and_eq_true] at hs
    have h1 := ((segB_iff x).1 hs.1).1
    show Lib.join _ _ ≠ _
    rw [Lib.join_cons]
    intro e
    have := congrArg List.length e
    simp only [List.length_append, List.length_nil] at this
    omega

theorem segsOf_jn (xs : List (List UInt8)) (h : segsB xs = true) : segsOf (jn xs) = xs := by
  have hn := segsB_no xs h
  simp only [segsB, Bool.and_eq_true] at h
  unfold segsOf
  cases xs with
  | nil => rfl
  | cons x r => rw [if_neg (jn_ne _ (by simp) h.2), pcs_jn _ (by simp) hn]

theorem okB_segs (l : List UInt8) : okB l = segsB (segsOf l) := by
  unfold okB segsOf segsB
  cases l with
  | nil => rfl
  | cons a b => simp

theorem okB_jn (xs : List (List UInt8)) (h : segsB xs = true) : okB (jn xs) = true := by
  rw [okB_segs, segsOf_jn xs h, h]

theorem segsOf_inj {a b : List UInt8} (h : segsOf a = segsOf b) : a = b := by
  rw [← jn_segsOf a, ← jn_segsOf b, h]

theorem segsOf_nil_iff (l : List UInt8) : segsOf l = [] ↔ l = [] := by
  unfold segsOf
  by_cases h : l = []
  · simp [h]
  · rw [if_neg h]; exact ⟨fun e => absurd e (pcs_ne _ _), fun e => absurd e h⟩

def cov (p q : List UInt8) : Bool := okB p && (okB q && (segsOf p).isPrefixOf (segsOf q))

theorem cov_iff (p q : List UInt8) : cov p q = true ↔ okB p = true ∧ okB q = true ∧ segsOf p <+: segsOf q := by
  simp [cov]

/-- How the program tells it: the text is empty, or the other, or with a separator behind it a beginning of the other. -/
theorem prefix_iff (p q : List UInt8) : segsOf p <+: segsOf q ↔ (p = [] ∨ p = q ∨ (p ++ [47]) <+: q) := by
  constructor
  · rintro ⟨t, ht⟩
    by_cases hp : p = []
    · exact Or.inl hp
    · by_cases h2 : t = []
      · subst h2
        rw [List.append_nil] at ht
        exact Or.inr (Or.inl (segsOf_inj ht))
      · refine Or.inr (Or.inr ⟨jn t, ?_⟩)
        rw [← jn_segsOf q, ← ht, jn_app _ _ (fun e => hp ((segsOf_nil_iff p).1 e)) h2, jn_segsOf]
        simp
  · rintro (h | h | ⟨t, ht⟩)
    · subst h; exact List.nil_prefix
    · subst h; exact List.prefix_refl _
    · by_cases hp : p = []
      · subst hp; exact List.nil_prefix
      · have hq : q ≠ [] := by rw [← ht]; simp
        refine ⟨pcs [] t, ?_⟩
        unfold segsOf
        rw [if_neg hp, if_neg hq, ← ht, ← pcs_app47]
        simp

theorem okB_len (l : List UInt8) (h : okB l = true) : l.length ≤ 27 := by
  rw [okB_segs] at h
  have hj := jn_segsOf l
  generalize segsOf l = xs at h hj
  simp only [segsB, Bool.and_eq_true, decide_eq_true_eq, List.all_eq_true] at h
  obtain ⟨h4, hs⟩ := h
  rw [← hj]
  have hl : ∀ x ∈ xs, x.length ≤ 6 := fun x hx => ((segB_iff x).1 (hs x hx)).2.1
  match xs, h4, hl with
  | [], _, _ => simp [jn, Lib.join_nil]
  | [a], _, hl =>
    have := hl a (by simp)
    simp only [jn, Lib.join_one]; omega
  | [a, b], _, hl =>
    have h1 := hl a (by simp); have h2 := hl b (by simp)
    rw [jn_cons2]; simp only [jn, Lib.join_one, List.length_append, List.length_cons]; omega
  | [a, b, c], _, hl =>
    have h1 := hl a (by simp); have h2 := hl b (by simp); have h3 := hl c (by simp)
    rw [jn_cons2, jn_cons2]; simp only [jn, Lib.join_one, List.length_append, List.length_cons]; omega
  | [a, b, c, d], _, hl =>
    have h1 := hl a (by simp); have h2 := hl b (by simp); have h3 := hl c (by simp); have h4 := hl d (by simp)
    rw [jn_cons2, jn_cons2, jn_cons2]; simp only [jn, Lib.join_one, List.length_append, List.length_cons]; omega
  | a :: b :: c :: d :: e :: r, h4, _ => simp only [List.length_cons] at h4; omega

theorem cov_okl {p q : List UInt8} (h : cov p q = true) : okB p = true := ((cov_iff p q).1 h).1
theorem cov_okr {p q : List UInt8} (h : cov p q = true) : okB q = true := ((cov_iff p q).1 h).2.1
theorem cov_self (p : List UInt8) : cov p p = okB p := by
  cases h : okB p with
  | false => unfold cov; rw [h]; rfl
  | true => exact (cov_iff p p).2 ⟨h, h, List.prefix_refl _⟩
theorem cov_trans {p q r : List UInt8} (h1 : cov p q = true) (h2 : cov q r = true) : cov p r = true := by
  rw [cov_iff] at h1 h2 ⊢
  exact ⟨h1.1, h2.2.1, h1.2.2.trans h2.2.2⟩
theorem cov_anti {p q : List UInt8} (h1 : cov p q = true) (h2 : cov q p = true) : p = q := by
  rw [cov_iff] at h1 h2
  exact segsOf_inj (h1.2.2.eq_of_length_le h2.2.2.length_le)
theorem cov_both {p q r : List UInt8} (h1 : cov p r = true) (h2 : cov q r = true) : cov p q = true ∨ cov q p = true := by
  rw [cov_iff] at h1 h2
  rw [cov_iff, cov_iff]
  rcases Nat.le_total (segsOf p).length (segsOf q).length with h | h
  · exact Or.inl ⟨h1.1, h2.1, List.prefix_of_prefix_length_le h1.2.2 h2.2.2 h⟩
  · exact Or.inr ⟨h2.1, h1.1, List.prefix_of_prefix_length_le h2.2.2 h1.2.2 h⟩
theorem depth_ok {p : List UInt8} (h : okB p = true) : depthI p = ((segsOf p).length : Int) := by unfold depthI; rw [if_pos h]
theorem cov_depth {p q : List UInt8} (h : cov p q = true) : depthI p ≤ depthI q := by
  rw [cov_iff] at h
  rw [depth_ok h.1, depth_ok h.2.1]
  have := h.2.2.length_le
  omega
theorem cov_of_depth {p q : List UInt8} (h : cov q p = true) (hd : depthI p ≤ depthI q) : p = q := by
  have h' := (cov_iff q p).1 h
  rw [depth_ok h'.1, depth_ok h'.2.1] at hd
  exact (segsOf_inj (h'.2.2.eq_of_length_le (by omega))).symm

/-! ### the order of texts -/
abbrev cmp (a b : List UInt8) : Int := Lib.compareBytes a b
theorem cmp_cons (a b : UInt8) (x y : List UInt8) : cmp (a :: x) (b :: y) = if a < b then -1 else if b < a then 1 else cmp x y := rfl
theorem cmp_range : ∀ (a b : List UInt8), cmp a b = -1 ∨ cmp a b = 0 ∨ cmp a b = 1
  | [], [] => by simp [Lib.compareBytes]
  | [], _ :: _ => by simp [Lib.compareBytes]
  | _ :: _, [] => by simp [Lib.compareBytes]
  | a :: x, b :: y => by
    rw [cmp_cons]
    have := cmp_range x y
    split
    · simp
    · split
      · simp
      · exact this
theorem cmp_self : ∀ (a : List UInt8), cmp a a = 0
  | [] => rfl
  | a :: x => by
    rw [cmp_cons, if_neg (UInt8.lt_irrefl a), if_neg (UInt8.lt_irrefl a), cmp_self x]
theorem cmp_neg : ∀ (a b : List UInt8), cmp a b = - cmp b a
  | [], [] => rfl
  | [], _ :: _ => rfl
  | _ :: _, [] => rfl
  | a :: x, b :: y => by
    rw [cmp_cons, cmp_cons]
    by_cases h1 : a < b
    · have h2 : ¬ b < a := by rw [UInt8.lt_iff_toNat_lt] at h1 ⊢; omega
      rw [if_pos h1, if_neg h2, if_pos h1]
    · by_cases h2 : b < a
      · rw [if_neg h1, if_pos h2, if_pos h2]; rfl
      · rw [if_neg h1, if_neg h2, if_neg h2, if_neg h1, cmp_neg x y]
theorem cmp_eq : ∀ (a b : List UInt8), cmp a b = 0 → a = b
  | [], [], _ => rfl
  | [], _ :: _, h => by simp [Lib.compareBytes] at h
  | _ :: _, [], h => by simp [Lib.compareBytes] at h
  | a :: x, b :: y, h => by
    rw [cmp_cons] at h
    by_cases h1 : a < b
    · rw [if_pos h1] at h; omega
    · by_cases h2 : b < a
      · rw [if_neg h1, if_pos h2] at h; omega
      · rw [if_neg h1, if_neg h2] at h
        have e : a = b := by
          apply UInt8.toNat_inj.1
          rw [UInt8.lt_iff_toNat_lt] at h1 h2
          omega
        rw [e, cmp_eq x y h]
theorem cmp_trans : ∀ (a b c : List UInt8), cmp a b ≤ 0 → cmp b c ≤ 0 → cmp a c ≤ 0
  | [], _, [], _, _ => by simp [Lib.compareBytes]
  | [], _, _ :: _, _, _ => by simp [Lib.compareBytes]
  | a :: x, [], _, h, _ => by simp [Lib.compareBytes] at h
  | a :: x, b :: y, [], _, h => by simp [Lib.compareBytes] at h
  | a :: x, b :: y, c :: z, h1, h2 => by
    rw [cmp_cons] at h1 h2 ⊢
    by_cases k1 : a < b
    · by_cases k2 : b < c
      · rw [if_pos (by rw [UInt8.lt_iff_toNat_lt] at *; omega)]; omega
      · by_cases k3 : c < b
        · rw [if_neg k2, if_pos k3] at h2; omega
        · rw [if_pos (by rw [UInt8.lt_iff_toNat_lt] at *; omega)]; omega
    · by_cases k4 : b < a
      · rw [if_neg k1, if_pos k4] at h1; omega
      · by_cases k2 : b < c
        · rw [if_pos (by rw [UInt8.lt_iff_toNat_lt] at *; omega)]; omega
        · by_cases k3 : c < b
          · rw [if_neg k2, if_pos k3] at h2; omega
          · rw [if_neg k1, if_neg k4] at h1
            rw [if_neg k2, if_neg k3] at h2
            rw [if_neg (by rw [UInt8.lt_iff_toNat_lt] at *; omega), if_neg (by rw [UInt8.lt_iff_toNat_lt] at *; omega)]
            exact cmp_trans x y z h1 h2
theorem cmp_prefix : ∀ (a t : List UInt8), t ≠ [] → cmp a (a ++ t) = -1
  | [], [], h => absurd rfl h
  | [], _ :: _, _ => rfl
  | a :: x, t, h => by
    rw [List.cons_append, cmp_cons, if_neg (UInt8.lt_irrefl a), if_neg (UInt8.lt_irrefl a), cmp_prefix x t h]
theorem cov_prefix {p q : List UInt8} (h : cov p q = true) : p <+: q := by
  rw [cov_iff, prefix_iff] at h
  rcases h.2.2 with h | h | h
  · subst h; exact List.nil_prefix
  · subst h; exact List.prefix_refl _
  · exact (List.prefix_append p [47]).trans h
theorem cov_cmp {p q : List UInt8} (h : cov p q = true) : cmp p q ≤ 0 := by
  obtain ⟨t, rfl⟩ := cov_prefix h
  by_cases ht : t = []
  · subst ht; rw [List.append_nil, cmp_self]; omega
  · rw [cmp_prefix p t ht]; omega

/-! ### what the law of joining and splitting says -/
theorem okB_ext (l : List UInt8) (more : List UInt8) (h : okB l = true) (h2 : segsB (segsOf l ++ [more]) = true) :
    cov l (jn (segsOf l ++ [more])) = true ∧ cov (jn (segsOf l ++ [more])) l = false ∧ depthI (jn (segsOf l ++ [more])) = (segsOf l).length + 1 ∧ cmp l (jn (segsOf l ++ [more])) = -1 := by
  have e := segsOf_jn _ h2
  have k := okB_jn _ h2
  have c1 : cov l (jn (segsOf l ++ [more])) = true := by rw [cov_iff, e]; exact ⟨h, k, List.prefix_append _ _⟩
  have c2 : cov (jn (segsOf l ++ [more])) l = false := by
    rw [Bool.eq_false_iff, ne_eq, cov_iff, e]
    rintro ⟨_, _, hp⟩
    have := hp.length_le
    simp at this
    omega
  refine ⟨c1, c2, ?_, ?_⟩
  · rw [depth_ok k, e]; simp
  · have h3 := cov_cmp c1
    rcases cmp_range l (jn (segsOf l ++ [more])) with h4 | h4 | h4
    · exact h4
    · have := cmp_eq _ _ h4
      rw [← this, cov_self, h] at c2
      cases c2
    · omega

end Go.Proofs.YtpfljooceppcbaaDoor.PM
