/- What layer 5's calls answer, as functions of lists of entries: the order of a set's list, what is put in and dropped, what stands over, below and against a path. -/
import Derived.Test.YtpfljooceppcbaaDoorPathsMath
namespace Go.Proofs.YtpfljooceppcbaaDoor.SE
set_option linter.unusedVariables false
structure Ent where
  id : Int
  path : ByteArray
  mode : Int
  who : Int
  deriving DecidableEq
def p (e : Ent) : List UInt8 := e.path.data.toList
def okMode (m : Int) : Bool := decide (m = 1) || decide (m = 2)
def together (a b : Int) : Bool := decide (a = 1) && decide (b = 1)
def before (a b : Ent) : Bool := decide (PM.cmp (p a) (p b) < 0) || (decide (PM.cmp (p a) (p b) = 0) && decide (a.id < b.id))
def ins (l : List Ent) (e : Ent) : List Ent := l.takeWhile (fun x => before x e) ++ e :: l.dropWhile (fun x => before x e)
def has (l : List Ent) (id : Int) : Bool := l.any (fun e => decide (e.id = id))
def put (l : List Ent) (e : Ent) : List Ent × Int :=
  if PM.okB (p e) = false then (l, 10) else if okMode e.mode = false then (l, 11) else if has l e.id = true then (l, 50) else if l.length = 64 then (l, 51) else (ins l e, 0)
def drop (l : List Ent) (id : Int) : List Ent := l.filter (fun e => decide (e.id ≠ id))
/-- A number laid into a rising list. -/
def insI (l : List Int) (x : Int) : List Int := l.takeWhile (fun y => decide (y ≤ x)) ++ x :: l.dropWhile (fun y => decide (y ≤ x))
def rise (l : List Int) : List Int := l.foldl insI []
def lap (a b : List UInt8) : Bool := PM.cov a b || PM.cov b a
def over (l : List Ent) (q : List UInt8) : List Int := rise ((l.filter (fun e => PM.cov (p e) q)).map (·.id))
def under (l : List Ent) (q : List UInt8) : List Int := rise ((l.filter (fun e => PM.cov q (p e))).map (·.id))
/-- Does an entry stand against a path, a mode and a holder? -/
def against (q : List UInt8) (m who : Int) (e : Ent) : Bool := okMode m && lap (p e) q && decide (e.who ≠ who) && !together e.mode m
def clash (l : List Ent) (q : List UInt8) (m who : Int) : List Int := rise ((l.filter (against q m who)).map (·.id))

/-- Where the entry of an Id stands; -1: there is none. -/
def find (l : List Ent) (id : Int) : Int := match l.findIdx? (fun e => decide (e.id = id)) with
  | some i => (i : Int)
  | none => -1
theorem find_some {l : List Ent} {id : Int} {k : Nat} (hk : k < l.length) (h : l[k].id = id) (hn : ∀ j (hj : j < k), l[j].id ≠ id) : find l id = (k : Int) := by
  have e : l.findIdx? (fun e => decide (e.id = id)) = some k := List.findIdx?_eq_some_iff_getElem.2 ⟨hk, by simpa using h, fun j hj => by simpa using hn j hj⟩
  unfold find
  rw [e]
theorem find_none {l : List Ent} {id : Int} (h : ∀ j (hj : j < l.length), l[j].id ≠ id) : find l id = -1 := by
  have e : l.findIdx? (fun e => decide (e.id = id)) = none := List.findIdx?_eq_none_iff.2 fun x hx => by
    obtain ⟨j, hj, rfl⟩ := List.getElem_of_mem hx
    simpa using h j hj
  unfold find
  rw [e]

/-! ### Rising lists -/
def Rises (l : List Int) : Prop := l.Pairwise (· ≤ ·)
theorem insI_mem {l : List Int} {x y : Int} : y ∈ insI l x ↔ y = x ∨ y ∈ l := by
  unfold insI
  rw [List.mem_append, List.mem_cons]
  constructor
  · rintro (h | rfl | h)
    · exact .inr (List.takeWhile_subset _ h)
    · exact .inl rfl
    · exact .inr (List.dropWhile_subset _ h)
  · rintro (rfl | h)
    · exact .inr (.inl rfl)
    · rw [← List.takeWhile_append_dropWhile (p := fun y => decide (y ≤ x)) (l := l), List.mem_append] at h
      rcases h with h | h
      · exact .inl h
      · exact .inr (.inr h)
theorem insI_perm (l : List Int) (x : Int) : (insI l x).Perm (x :: l) := by
  unfold insI
  refine List.perm_middle.trans ?_
  rw [List.takeWhile_append_dropWhile]
theorem rise_perm_aux : ∀ (l acc : List Int), (l.foldl insI acc).Perm (acc ++ l)
  | [], acc => by simp
  | x :: r, acc => by
    rw [List.foldl_cons]
    refine (rise_perm_aux r (insI acc x)).trans ?_
    refine ((insI_perm acc x).append_right r).trans ?_
    exact List.perm_middle.symm
theorem rise_perm (l : List Int) : (rise l).Perm l := rise_perm_aux l []
theorem rise_mem {l : List Int} {x : Int} : x ∈ rise l ↔ x ∈ l := (rise_perm l).mem_iff
theorem rise_len (l : List Int) : (rise l).length = l.length := (rise_perm l).length_eq
theorem drop_above {x : Int} : ∀ {l : List Int}, Rises l → ∀ y ∈ l.dropWhile (fun y => decide (y ≤ x)), x ≤ y
  | [], _, y, h => by simp at h
  | z :: r, hs, y, h => by
    rw [List.dropWhile_cons] at h
    have hp := List.pairwise_cons.1 hs
    split at h
    · exact drop_above hp.2 y h
    · rename_i hz
      have hz : ¬ z ≤ x := by simpa using hz
      rcases List.mem_cons.1 h with rfl | h
      · omega
      · have := hp.1 y h; omega
theorem take_below {x : Int} : ∀ {l : List Int}, ∀ y ∈ l.takeWhile (fun y => decide (y ≤ x)), y ≤ x
  | [], y, h => by simp at h
  | z :: r, y, h => by
    rw [List.takeWhile_cons] at h
    split at h
    · rename_i hz
      rcases List.mem_cons.1 h with rfl | h
      · exact of_decide_eq_true hz
      · exact take_below y h
    · simp at h
theorem insI_rises {l : List Int} (x : Int) (h : Rises l) : Rises (insI l x) := by
  unfold insI Rises
  rw [List.pairwise_append, List.pairwise_cons]
  refine ⟨h.sublist (List.takeWhile_sublist _), ⟨drop_above h, h.sublist (List.dropWhile_sublist _)⟩, fun a ha b hb => ?_⟩
  have h1 := take_below a ha
  rcases List.mem_cons.1 hb with rfl | hb
  · exact h1
  · have := drop_above h b hb; omega
theorem rises_aux : ∀ (l acc : List Int), Rises acc → Rises (l.foldl insI acc)
  | [], _, h => h
  | x :: r, acc, h => rises_aux r _ (insI_rises x h)
theorem rise_rises (l : List Int) : Rises (rise l) := rises_aux l [] List.Pairwise.nil
theorem rises_unique : ∀ {a b : List Int}, Rises a → Rises b → a.Perm b → a = b
  | [], b, _, _, h => (List.nil_perm.1 h).symm
  | x :: a, [], _, _, h => absurd h.length_eq (by simp)
  | x :: a, y :: b, ha, hb, h => by
    have h1 := List.pairwise_cons.1 ha
    have h2 := List.pairwise_cons.1 hb
    have e : x = y := by
      have m1 : x ∈ y :: b := h.mem_iff.1 (by simp)
      have m2 : y ∈ x :: a := h.mem_iff.2 (by simp)
      rcases List.mem_cons.1 m1 with rfl | m1
      · rfl
      · rcases List.mem_cons.1 m2 with rfl | m2
        · rfl
        · have := h1.1 y m2
          have := h2.1 x m1
          omega
    subst e
    rw [rises_unique h1.2 h2.2 (List.perm_cons x |>.1 h)]
theorem rise_eq {a l : List Int} (h : Rises a) (k : a.Perm l) : a = rise l := rises_unique h (rise_rises l) (k.trans (rise_perm l).symm)

/-! ### The order of a set's list -/
theorem before_irrefl (a : Ent) : before a a = false := by
  unfold before
  rw [PM.cmp_self]
  simp
theorem before_trans {a b c : Ent} (h : before a b = true) (k : before b c = true) : before a c = true := by
  unfold before at *
  simp only [Bool.or_eq_true, Bool.and_eq_true, decide_eq_true_eq] at *
  have t := PM.cmp_trans (p a) (p b) (p c)
  have n1 := PM.cmp_neg (p a) (p c)
  have t2 := PM.cmp_trans (p c) (p a) (p b)
  have t3 := PM.cmp_trans (p b) (p c) (p a)
  have n2 := PM.cmp_neg (p a) (p b)
  have n3 := PM.cmp_neg (p b) (p c)
  have r := PM.cmp_range (p a) (p c)
  rcases h with h | ⟨h, h'⟩ <;> rcases k with k | ⟨k, k'⟩
  · left; have := t (by omega) (by omega); by_cases h0 : PM.cmp (p a) (p c) = 0
    · have := t2 (by omega) (by omega); omega
    · omega
  · left; have := t (by omega) (by omega); by_cases h0 : PM.cmp (p a) (p c) = 0
    · have := t3 (by omega) (by omega); omega
    · omega
  · left; have := t (by omega) (by omega); by_cases h0 : PM.cmp (p a) (p c) = 0
    · have := t2 (by omega) (by omega); omega
    · omega
  · right
    have e1 := PM.cmp_eq _ _ h
    rw [e1]
    exact ⟨k, by omega⟩
theorem before_total {a b : Ent} (h : a.id ≠ b.id) : before a b = true ∨ before b a = true := by
  unfold before
  simp only [Bool.or_eq_true, Bool.and_eq_true, decide_eq_true_eq]
  have n := PM.cmp_neg (p a) (p b)
  have r := PM.cmp_range (p a) (p b)
  omega
theorem before_asymm {a b : Ent} (h : before a b = true) : before b a = false := by
  cases hb : before b a with
  | false => rfl
  | true => have := before_trans h hb; rw [before_irrefl] at this; cases this
/-- What holds of a set's list. -/
structure Inv (l : List Ent) : Prop where
  rises : l.Pairwise (fun a b => before a b = true)
  ids : (l.map (·.id)).Nodup
  paths : ∀ e ∈ l, PM.okB (p e) = true
  modes : ∀ e ∈ l, okMode e.mode = true
  len : l.length ≤ 64
theorem Inv.nil : Inv [] := ⟨List.Pairwise.nil, List.nodup_nil, by simp, by simp, by simp⟩
theorem has_iff {l : List Ent} {id : Int} : has l id = true ↔ ∃ e ∈ l, e.id = id := by unfold has; simp
theorem drop_sublist (l : List Ent) (id : Int) : (drop l id).Sublist l := List.filter_sublist
theorem Inv.drop {l : List Ent} (h : Inv l) (id : Int) : Inv (drop l id) :=
  ⟨h.rises.sublist (drop_sublist l id), h.ids.sublist ((drop_sublist l id).map _), fun e he => h.paths e ((drop_sublist l id).subset he), fun e he => h.modes e ((drop_sublist l id).subset he), Nat.le_trans (drop_sublist l id).length_le h.len⟩
theorem ins_perm (l : List Ent) (e : Ent) : (ins l e).Perm (e :: l) := by
  unfold ins
  refine List.perm_middle.trans ?_
  rw [List.takeWhile_append_dropWhile]
theorem ins_mem {l : List Ent} {e x : Ent} : x ∈ ins l e ↔ x = e ∨ x ∈ l := by rw [(ins_perm l e).mem_iff, List.mem_cons]
theorem drop_after {e : Ent} : ∀ {l : List Ent}, l.Pairwise (fun a b => before a b = true) → (∀ x ∈ l, x.id ≠ e.id) → ∀ y ∈ l.dropWhile (fun x => before x e), before e y = true
  | [], _, _, y, h => by simp at h
  | z :: r, hs, hi, y, h => by
    rw [List.dropWhile_cons] at h
    have hp := List.pairwise_cons.1 hs
    split at h
    · exact drop_after hp.2 (fun x hx => hi x (List.mem_cons_of_mem _ hx)) y h
    · rename_i hz
      have he : before e z = true := (before_total (hi z (by simp))).elim (fun h => absurd h hz) id
      rcases List.mem_cons.1 h with rfl | h
      · exact he
      · exact before_trans he (hp.1 y h)
theorem take_before {e : Ent} : ∀ {l : List Ent}, ∀ y ∈ l.takeWhile (fun x => before x e), before y e = true
  | [], y, h => by simp at h
  | z :: r, y, h => by
    rw [List.takeWhile_cons] at h
    split at h
    · rename_i hz
      rcases List.mem_cons.1 h with rfl | h
      · exact hz
      · exact take_before y h
    · simp at h
theorem ins_rises {l : List Ent} {e : Ent} (h : l.Pairwise (fun a b => before a b = true)) (hi : ∀ x ∈ l, x.id ≠ e.id) : (ins l e).Pairwise (fun a b => before a b = true) := by
  unfold ins
  rw [List.pairwise_append, List.pairwise_cons]
  refine ⟨h.sublist (List.takeWhile_sublist _), ⟨drop_after h hi, h.sublist (List.dropWhile_sublist _)⟩, fun a ha b hb => ?_⟩
  have h1 := take_before a ha
  rcases List.mem_cons.1 hb with rfl | hb
  · exact h1
  · exact before_trans h1 (drop_after h hi b hb)
theorem has_no {l : List Ent} {id : Int} (h : has l id = false) : ∀ x ∈ l, x.id ≠ id := fun x hx e => by
  have := has_iff.2 ⟨x, hx, e⟩
  rw [h] at this
  cases this
theorem put_cases (l : List Ent) (e : Ent) : ((put l e).2 ≠ 0 ∧ (put l e).1 = l) ∨ (put l e = (ins l e, 0) ∧ PM.okB (p e) = true ∧ okMode e.mode = true ∧ has l e.id = false ∧ l.length ≠ 64) := by
  unfold put
  split
  · exact .inl ⟨by simp, rfl⟩
  · split
    · exact .inl ⟨by simp, rfl⟩
    · split
      · exact .inl ⟨by simp, rfl⟩
      · split
        · exact .inl ⟨by simp, rfl⟩
        · rename_i h1 h2 h3 h4
          exact .inr ⟨rfl, by simpa using h1, by simpa using h2, by simpa using h3, h4⟩
theorem Inv.put {l : List Ent} (h : Inv l) (e : Ent) : Inv (put l e).1 := by
  rcases put_cases l e with ⟨_, h1⟩ | ⟨h1, h2, h3, h4, h5⟩
  · rw [h1]; exact h
  · rw [h1]
    have hi := has_no h4
    have hpm := ins_perm l e
    refine ⟨ins_rises h.rises hi, ?_, fun x hx => ?_, fun x hx => ?_, ?_⟩
    · rw [(hpm.map _).nodup_iff, List.map_cons, List.nodup_cons]
      refine ⟨fun hm => ?_, h.ids⟩
      obtain ⟨x, hx, e1⟩ := List.mem_map.1 hm
      exact hi x hx e1
    · rcases ins_mem.1 hx with rfl | hx
      · exact h2
      · exact h.paths x hx
    · rcases ins_mem.1 hx with rfl | hx
      · exact h3
      · exact h.modes x hx
    · have := hpm.length_eq
      rw [List.length_cons] at this
      have := h.len
      show (ins l e).length ≤ 64
      omega
/-- A set's list hangs on what is in it alone. -/
theorem same_list : ∀ {a b : List Ent}, a.Pairwise (fun x y => before x y = true) → b.Pairwise (fun x y => before x y = true) → a.Perm b → a = b
  | [], b, _, _, h => (List.nil_perm.1 h).symm
  | x :: a, [], _, _, h => absurd h.length_eq (by simp)
  | x :: a, y :: b, ha, hb, h => by
    have h1 := List.pairwise_cons.1 ha
    have h2 := List.pairwise_cons.1 hb
    have e : x = y := by
      have m1 : x ∈ y :: b := h.mem_iff.1 (by simp)
      have m2 : y ∈ x :: a := h.mem_iff.2 (by simp)
      rcases List.mem_cons.1 m1 with rfl | m1
      · rfl
      · rcases List.mem_cons.1 m2 with rfl | m2
        · rfl
        · have k := before_asymm (h1.1 y m2)
          rw [h2.1 x m1] at k
          cases k
    subst e
    rw [same_list h1.2 h2.2 (List.perm_cons x |>.1 h)]
end Go.Proofs.YtpfljooceppcbaaDoor.SE
