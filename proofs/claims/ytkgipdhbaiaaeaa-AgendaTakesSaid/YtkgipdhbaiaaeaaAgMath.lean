/- Items, their order, a heap of them, and the list in order that it stands for. No program is named. -/
import Derived.Test.YtkgipdhbaiaaeaaMem
namespace Go.Proofs.Ytkgipdhbaiaaeaa.AM
structure It where
  due : Int
  kind : Int
  key : Int
  deriving DecidableEq
instance instIt : Inhabited It := ⟨⟨0, 0, 0⟩⟩
theorem It.eq_of {a b : It} (h0 : a.due = b.due) (h1 : a.kind = b.kind) (h2 : a.key = b.key) : a = b := by
  cases a; cases b; simp at h0 h1 h2; simp [h0, h1, h2]
def lt (a b : It) : Prop := a.due < b.due ∨ a.due = b.due ∧ (a.kind < b.kind ∨ a.kind = b.kind ∧ a.key < b.key)
instance (a b : It) : Decidable (lt a b) := by unfold lt; exact inferInstance
def before (a b : It) : Bool := decide (lt a b)
theorem lt_irrefl (a : It) : ¬ lt a a := by unfold lt; omega
theorem lt_trans {a b c : It} (h : lt a b) (k : lt b c) : lt a c := by unfold lt at *; omega
theorem lt_asymm {a b : It} (h : lt a b) : ¬ lt b a := by unfold lt at *; omega
theorem le_trans {a b c : It} (h : ¬ lt b a) (k : ¬ lt c b) : ¬ lt c a := by unfold lt at *; omega
theorem lt_of {a b : It} (h : ¬ lt b a) (hn : a ≠ b) : lt a b := by
  apply Decidable.byContradiction
  intro h2
  apply hn
  unfold lt at h h2
  exact It.eq_of (by omega) (by omega) (by omega)
theorem lt_le {a b c : It} (h : lt a b) (k : ¬ lt c b) : lt a c := by unfold lt at *; omega
def c1 (x y : Int) : Int := if x < y then -1 else if y < x then 1 else 0
def cf (a b : It) : Int := if c1 a.due b.due ≠ 0 then c1 a.due b.due else if c1 a.kind b.kind ≠ 0 then c1 a.kind b.kind else c1 a.key b.key
theorem cf_neg (a b : It) : cf a b < 0 ↔ lt a b := by
  unfold cf c1 lt
  split <;> split <;> (try split) <;> (try split) <;> (try split) <;> omega
/-! ### Cells of a heap -/
def g (h : List It) (i : Nat) : It := h.getD i default
def sw (h : List It) (i j : Nat) : List It := (h.set i (g h j)).set j (g h i)
theorem g_set {h : List It} {i : Nat} {x : It} (hi : i < h.length) (k : Nat) : g (h.set i x) k = if k = i then x else g h k := by
  unfold g
  rw [List.getD_eq_getElem?_getD, List.getD_eq_getElem?_getD, List.getElem?_set]
  by_cases e : i = k
  · subst e; simp [hi]
  · rw [if_neg e, if_neg (fun e' => e e'.symm)]
theorem sw_len (h : List It) (i j : Nat) : (sw h i j).length = h.length := by simp [sw]
theorem g_sw {h : List It} {i j : Nat} (hi : i < h.length) (hj : j < h.length) (k : Nat) : g (sw h i j) k = if k = j then g h i else if k = i then g h j else g h k := by
  unfold sw
  rw [g_set (by simpa using hj), g_set hi]
theorem g_mem {h : List It} {i : Nat} (hi : i < h.length) : g h i ∈ h := by
  unfold g
  rw [List.getD_eq_getElem?_getD, List.getElem?_eq_getElem hi]
  exact List.getElem_mem hi
theorem g_get {h : List It} {i : Nat} (hi : i < h.length) : h[i]? = some (g h i) := by
  unfold g
  rw [List.getD_eq_getElem?_getD, List.getElem?_eq_getElem hi]
  rfl
theorem g_take {h : List It} {i n : Nat} (hi : i < n) : g (h.take n) i = g h i := by
  unfold g
  rw [List.getD_eq_getElem?_getD, List.getD_eq_getElem?_getD, List.getElem?_take_of_lt hi]
theorem sw_perm {h : List It} {i j : Nat} (hi : i < h.length) (hj : j < h.length) : (sw h i j).Perm h := by
  rw [List.perm_iff_count]
  intro a
  unfold sw
  have e1 : h[i] = g h i := by have := g_get hi; rw [List.getElem?_eq_getElem hi] at this; injection this
  have e2 : (h.set i (g h j))[j]'(by simpa using hj) = g h j := by
    rw [List.getElem_set]
    by_cases e : i = j
    · rw [if_pos e]
    · rw [if_neg e]; have := g_get hj; rw [List.getElem?_eq_getElem hj] at this; injection this
  rw [List.count_set (by simpa using hj), List.count_set hi, e2, e1]
  have h1 : (g h i == a) = true → 0 < List.count a h := fun e => by
    rw [List.count_pos_iff, ← eq_of_beq e]; exact g_mem hi
  by_cases p : (g h i == a) = true
  · have := h1 p
    by_cases q : (g h j == a) = true
    · simp [p, q]; omega
    · simp [p, q]; omega
  · by_cases q : (g h j == a) = true
    · simp [p, q]
    · simp [p, q]
theorem sw_take {h : List It} {i j n : Nat} (hi : i < n) (hj : j < n) (hn : n ≤ h.length) : ((sw h i j).take n).Perm (h.take n) := by
  have e : (sw h i j).take n = sw (h.take n) i j := by
    unfold sw
    rw [List.take_set, List.take_set, g_take hj, g_take hi]
  rw [e]
  exact sw_perm (by simp; omega) (by simp; omega)
/-! ### The heap's order -/
def par (k : Nat) : Nat := (k - 1) / 2
def Heap (h : List It) (n : Nat) : Prop := ∀ k, 0 < k → k < n → ¬ lt (g h k) (g h (par k))
/-- All is in order but what stands at i: over what hangs on it, and (if s) under what it hangs on. -/
structure Down (h : List It) (n i0 i : Nat) : Prop where
  far : ∀ k, 0 < k → k < n → k ≠ i → par k ≠ i → ¬ lt (g h k) (g h (par k))
  low : ∀ c, 0 < c → c < n → par c = i → 0 < i → ¬ lt (g h c) (g h (par i))
  up : i ≠ i0 → i0 < i ∧ ¬ lt (g h i) (g h (par i))
structure Up (h : List It) (n i : Nat) : Prop where
  far : ∀ k, 0 < k → k < n → k ≠ i → ¬ lt (g h k) (g h (par k))
  low : ∀ c, 0 < c → c < n → par c = i → 0 < i → ¬ lt (g h c) (g h (par i))
theorem Down.step {h : List It} {n i0 i j : Nat} (hn : n ≤ h.length) (H : Down h n i0 i) (hj : par j = i) (h0 : 0 < j) (hjn : j < n) (hmin : ∀ c, 0 < c → c < n → par c = i → ¬ lt (g h c) (g h j)) (hlt : lt (g h j) (g h i)) : Down (sw h i j) n i0 j := by
  have hij : i < j := by unfold par at hj; omega
  have hi0 : i0 ≤ i := by
    by_cases e : i = i0
    · omega
    · have := (H.up e).1; omega
  have G := fun k => g_sw (h := h) (i := i) (j := j) (by omega) (by omega) k
  refine ⟨fun k k0 kn kj pk => ?_, fun c c0 cn pc _ => ?_, fun _ => ⟨by omega, ?_⟩⟩
  · rw [G k, G (par k), if_neg kj, if_neg pk]
    by_cases e : k = i
    · subst e
      have hp : par k ≠ k := by unfold par; omega
      rw [if_pos rfl, if_neg hp]
      exact H.low j h0 hjn hj k0
    · rw [if_neg e]
      by_cases e2 : par k = i
      · rw [if_pos e2]; exact hmin k k0 kn e2
      · rw [if_neg e2]; exact H.far k k0 kn e e2
  · have hc : j < c := by unfold par at pc; omega
    rw [G c, if_neg (by omega), if_neg (by omega), G (par j), hj, if_neg (by omega), if_pos rfl]
    have := H.far c c0 cn (by omega) (by omega)
    rwa [pc] at this
  · rw [G j, if_pos rfl, hj, G i, if_neg (by omega), if_pos rfl]
    exact lt_asymm hlt
theorem Down.done {h : List It} {n i0 i : Nat} (H : Down h n i0 i) (hd : ∀ c, 0 < c → c < n → par c = i → ¬ lt (g h c) (g h i)) : Up h n i :=
  ⟨fun k k0 kn ki => by
    by_cases e : par k = i
    · rw [e]; exact hd k k0 kn e
    · exact H.far k k0 kn ki e, H.low⟩
theorem Up.heap {h : List It} {n i : Nat} (H : Up h n i) (hd : 0 < i → i < n → ¬ lt (g h i) (g h (par i))) : Heap h n := fun k k0 kn => by
  by_cases e : k = i
  · subst e; exact hd k0 kn
  · exact H.far k k0 kn e
theorem Up.step {h : List It} {n j : Nat} (hn : n ≤ h.length) (H : Up h n j) (h0 : 0 < j) (hjn : j < n) (hlt : lt (g h j) (g h (par j))) : Up (sw h (par j) j) n (par j) := by
  have hij : par j < j := by unfold par; omega
  have G := fun k => g_sw (h := h) (i := par j) (j := j) (by omega) (by omega) k
  refine ⟨fun k k0 kn ki => ?_, fun c c0 cn pc pj0 => ?_⟩
  · rw [G k, G (par k)]
    by_cases e : k = j
    · subst e
      rw [if_pos rfl, if_neg (by omega), if_pos rfl]
      exact lt_asymm hlt
    · rw [if_neg e, if_neg ki]
      by_cases e1 : par k = j
      · rw [if_pos e1]
        exact H.low k k0 kn e1 h0
      · rw [if_neg e1]
        by_cases e2 : par k = par j
        · rw [if_pos e2]
          have := H.far k k0 kn e
          rw [e2] at this
          exact le_trans (lt_asymm hlt) this
        · rw [if_neg e2]; exact H.far k k0 kn e
  · have hpp : par (par j) < par j := by unfold par at *; omega
    rw [G (par (par j)), if_neg (by omega), if_neg (by omega), G c]
    have hi := H.far (par j) pj0 (by omega) (by omega)
    by_cases e : c = j
    · rw [if_pos e]; exact hi
    · rw [if_neg e, if_neg (by unfold par at *; omega)]
      have := H.far c c0 cn e
      rw [pc] at this
      exact le_trans hi this
theorem Heap.root {h : List It} {n : Nat} (H : Heap h n) : ∀ k, k < n → ¬ lt (g h k) (g h 0) := by
  intro k
  induction k using Nat.strongRecOn with
  | ind k ih =>
    intro hk
    by_cases e : k = 0
    · rw [e]; exact lt_irrefl _
    · have h1 := ih (par k) (by unfold par; omega) (by unfold par; omega)
      exact le_trans h1 (H k (by omega) hk)
/-- One item is put at i, over whatever stood there. -/
theorem Heap.hole {h : List It} {n i : Nat} {x : It} (H : Heap h n) (hi : i < h.length) : Down (h.set i x) n i i := by
  have G := fun k => g_set (h := h) (i := i) (x := x) hi k
  refine ⟨fun k k0 kn ki pk => ?_, fun c c0 cn pc i0 => ?_, fun e => absurd rfl e⟩
  · rw [G, G, if_neg ki, if_neg pk]; exact H k k0 kn
  · have hp : par i < i := by unfold par; omega
    have hc : i < c := by unfold par at pc; omega
    rw [G, G, if_neg (by omega), if_neg (by omega)]
    have h1 := H c c0 cn
    rw [pc] at h1
    exact le_trans (H i i0 (by omega)) h1
theorem Heap.mono {h : List It} {n m : Nat} (H : Heap h n) (hm : m ≤ n) : Heap h m := fun k k0 km => H k k0 (by omega)
theorem Heap.congr {h h' : List It} {n : Nat} (H : Heap h n) (he : ∀ k, k < n → g h' k = g h k) : Heap h' n := fun k k0 kn => by
  rw [he k kn, he (par k) (by unfold par; omega)]; exact H k k0 kn
theorem Down.congr {h h' : List It} {n i0 i : Nat} (H : Down h n i0 i) (hi : i < n) (he : ∀ k, k < n → g h' k = g h k) : Down h' n i0 i :=
  ⟨fun k k0 kn ki pk => by rw [he k kn, he (par k) (by unfold par; omega)]; exact H.far k k0 kn ki pk,
   fun c c0 cn pc i0 => by rw [he c cn, he (par i) (by unfold par; omega)]; exact H.low c c0 cn pc i0,
   fun e => by rw [he i hi, he (par i) (by unfold par; omega)]; exact H.up e⟩
/-- One item more, behind all others. -/
theorem Heap.more {h : List It} {n : Nat} {x : It} (H : Heap h n) (hn : n < h.length) : Up (h.set n x) (n + 1) n := by
  have G := fun k => g_set (h := h) (i := n) (x := x) hn k
  refine ⟨fun k k0 kn ki => ?_, fun c c0 cn pc n0 => ?_⟩
  · rw [G, G, if_neg ki, if_neg (by unfold par; omega)]; exact H k k0 (by omega)
  · unfold par at pc; omega
/-- The last one in the place of the one at i, that one behind all others. -/
theorem Heap.swapped {h : List It} {n i : Nat} (H : Heap h n) (hi : i < n - 1) (hn : n ≤ h.length) : Down (sw h i (n - 1)) (n - 1) i i := by
  have h1 : Down (h.set i (g h (n - 1))) (n - 1) i i := (H.mono (by omega)).hole (by omega)
  refine h1.congr hi fun k hk => ?_
  rw [g_sw (by omega) (by omega), g_set (by omega), if_neg (by omega)]
end Go.Proofs.Ytkgipdhbaiaaeaa.AM
