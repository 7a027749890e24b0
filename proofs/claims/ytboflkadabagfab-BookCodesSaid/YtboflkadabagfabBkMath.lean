/- Books and records of layer 11 as plain data: which ones may be, what a record does to a book, a record's bytes and what is taken up out of bytes; there and back is the same. -/
import Derived.Test.YtboflkadabagfabMathA
namespace Go.Proofs.Ytboflkadabagfab.BM
open WM (St tnum tnums tstamp nums stampB okMode node)
set_option linter.unusedVariables false
set_option linter.unusedSimpArgs false
structure Gr where
  id : Int
  holder : Int
  path : ByteArray
  mode : Int
  stamp : List Int
  term : Int
  deriving DecidableEq
def g0 : Gr := ⟨0, 0, ⟨#[]⟩, 0, [], 0⟩
instance instGr : Inhabited Gr := ⟨g0⟩
structure Rc where
  kind : Int
  g : Gr
  id : Int
  stamp : List Int
  next : Int
  boots : Int
  longest : Int
  deriving DecidableEq
def r0 : Rc := ⟨0, g0, 0, [], 0, 0, 0⟩
instance instRc : Inhabited Rc := ⟨r0⟩
structure Bk where
  next : Int
  boots : Int
  longest : Int
  gs : List Gr
  deriving DecidableEq
def b0 : Bk := ⟨0, 0, 0, []⟩
def new : Bk := ⟨1, 0, 0, []⟩
def last (s : List Int) : Int := s.getLastD 0
def isStamp (s : List Int) : Bool := decide (s ≠ []) && SM.valid s
def okGr (g : Gr) : Bool :=
  SM.count g.id && (node g.holder && (PM.okB g.path.data.toList && (okMode g.mode && (isStamp g.stamp && (decide (g.id ≤ last g.stamp) && TM.legal g.term)))))
/-- May these be a book's grants, behind Ids up to 'ahead', below 'next'? -/
def stand (ahead next : Int) : List Gr → Bool
  | [] => true
  | g :: r => okGr g && (decide (ahead < g.id) && (decide (last g.stamp < next) && stand g.id next r))
def isNext (n : Int) : Bool := decide (1 ≤ n) && decide (n ≤ 1099511627777)
def isBoots (n : Int) : Bool := decide (0 ≤ n) && decide (n ≤ 1099511627776)
def isLongest (n : Int) : Bool := decide (n = 0) || TM.legal n
def okBk (b : Bk) : Bool := isNext b.next && (isBoots b.boots && (isLongest b.longest && (decide (b.gs.length ≤ 6) && stand 0 b.next b.gs)))
/-- What a record's kind uses of it. -/
def used (r : Rc) : Rc :=
  if r.kind = 1 then { r0 with kind := 1, next := r.next, boots := r.boots }
  else if r.kind = 2 then { r0 with kind := 2, longest := r.longest }
  else if r.kind = 3 then { r0 with kind := 3, g := r.g }
  else if r.kind = 4 then { r0 with kind := 4, g := r.g }
  else if r.kind = 5 then { r0 with kind := 5, id := r.id, stamp := r.stamp }
  else if r.kind = 6 then { r0 with kind := 6, id := r.id }
  else { r0 with kind := r.kind }
def mayUse (r : Rc) : Bool :=
  if r.kind = 1 then isNext r.next && isBoots r.boots
  else if r.kind = 2 then TM.legal r.longest
  else if r.kind = 3 then okGr r.g
  else if r.kind = 4 then okGr r.g && decide (last r.g.stamp = r.g.id)
  else if r.kind = 5 then SM.count r.id && isStamp r.stamp
  else if r.kind = 6 then SM.count r.id
  else decide (r.kind = 7)
def okRc (r : Rc) : Bool := mayUse r && decide (used r = r)
/-- A record's bytes. -/
def grantB (g : Gr) : List UInt8 := nums [g.id, g.holder] ++ (OM.encT g.path.data.toList ++ (nums [g.mode, g.term] ++ stampB g.stamp))
def partB (r : Rc) : List UInt8 :=
  if r.kind = 1 then nums [r.next, r.boots]
  else if r.kind = 2 then nums [r.longest]
  else if r.kind = 3 then grantB r.g
  else if r.kind = 4 then grantB r.g
  else if r.kind = 5 then nums [r.id] ++ stampB r.stamp
  else if r.kind = 6 then nums [r.id]
  else []
def laid (r : Rc) : List UInt8 := nums [r.kind] ++ partB r
/-- What is taken up. -/
def ttext (s : St) : ByteArray × St := (⟨(OM.rtext s.1 s.2 188).1.toArray⟩, (OM.rtext s.1 s.2 188).2)
def grantT (most : Nat) (s : St) : Gr × St :=
  (⟨(tnum s).1, (tnum (tnum s).2).1, (ttext (tnum (tnum s).2).2).1, (tnum (ttext (tnum (tnum s).2).2).2).1,
    (tstamp most (tnum (tnum (ttext (tnum (tnum s).2).2).2).2).2).1, (tnum (tnum (ttext (tnum (tnum s).2).2).2).2).1⟩,
   (tstamp most (tnum (tnum (ttext (tnum (tnum s).2).2).2).2).2).2)
def partT (most : Nat) (k : Int) (s : St) : Rc :=
  if k = 1 then { r0 with kind := k, next := (tnum s).1, boots := (tnum (tnum s).2).1 }
  else if k = 2 then { r0 with kind := k, longest := (tnum s).1 }
  else if k = 3 then { r0 with kind := k, g := (grantT most s).1 }
  else if k = 4 then { r0 with kind := k, g := (grantT most s).1 }
  else if k = 5 then { r0 with kind := k, id := (tnum s).1, stamp := (tstamp most (tnum s).2).1 }
  else if k = 6 then { r0 with kind := k, id := (tnum s).1 }
  else { r0 with kind := k }
def taken (most : Nat) (b : List UInt8) : Rc := partT most (tnum (b, 0)).1 (tnum (b, 0)).2
def decode (b : List UInt8) : Rc × Int :=
  if b.length ≤ 188 ∧ okRc (taken 4 b) = true ∧ laid (taken 4 b) = b then (taken 4 b, 0) else (r0, 43)
def encode (r : Rc) : List UInt8 × Int := if okRc r = true then (laid r, 0) else ([], 43)
/-- What a record does. -/
def less (id : Int) (g : Gr) : Bool := decide (g.id < id)
def ins (g : Gr) (l : List Gr) : List Gr := l.takeWhile (less g.id) ++ g :: l.dropWhile (less g.id)
def fresh (id : Int) (s : List Int) (l : List Gr) : List Gr := l.map fun g => if g.id = id then { g with stamp := s } else g
def without (id : Int) (l : List Gr) : List Gr := l.filter fun g => decide (g.id ≠ id)
def there (id : Int) (l : List Gr) : Bool := l.any fun g => decide (g.id = id)
def spent (b : Bk) (k : Int) : Bool := if k = 4 then decide (1099511627776 < b.next) else if k = 5 then decide (1099511627776 < b.next) else if k = 7 then decide (b.boots = 1099511627776) else false
def full (b : Bk) (k : Int) : Bool := (decide (k = 3) || decide (k = 4)) && decide (b.gs.length = 6)
def fits (b : Bk) (r : Rc) : Bool :=
  if r.kind = 1 then decide (b = new)
  else if r.kind = 2 then decide (b.longest < r.longest)
  else if r.kind = 3 then !there r.g.id b.gs && decide (last r.g.stamp < b.next)
  else if r.kind = 4 then decide (r.g.id = b.next)
  else if r.kind = 5 then there r.id b.gs && decide (last r.stamp = b.next)
  else if r.kind = 6 then there r.id b.gs
  else true
def refusal (b : Bk) (r : Rc) : Int := if spent b r.kind then 66 else if full b r.kind then 51 else if fits b r then 0 else 43
def behind (b : Bk) (r : Rc) : Bk :=
  if r.kind = 1 then { b with next := r.next, boots := r.boots }
  else if r.kind = 2 then { b with longest := r.longest }
  else if r.kind = 3 then { b with gs := ins r.g b.gs }
  else if r.kind = 4 then { b with gs := ins r.g b.gs, next := b.next + 1 }
  else if r.kind = 5 then { b with gs := fresh r.id r.stamp b.gs, next := b.next + 1 }
  else if r.kind = 6 then { b with gs := without r.id b.gs }
  else if r.kind = 7 then { b with boots := b.boots + 1 }
  else b
def fault (b : Bk) (r : Rc) : Int := if okBk b && okRc r then refusal b r else 43
def apply (b : Bk) (r : Rc) : Bk × Int := if fault b r = 0 then (behind b r, 0) else (b0, fault b r)
def dump (b : Bk) : List Rc :=
  if okBk b then { r0 with kind := 1, next := b.next, boots := b.boots } :: ((if b.longest = 0 then [] else [{ r0 with kind := 2, longest := b.longest }]) ++ b.gs.map fun g => { r0 with kind := 3, g := g })
  else []

/- There and back. -/
theorem ttext_enc (s : ByteArray) (r : List UInt8) (h : s.size ≤ 188) : ttext (OM.encT s.data.toList ++ r, 0) = (s, (r, 0)) := by
  unfold ttext
  have e : s.data.toList.length = s.size := rfl
  rw [OM.rtext_enc _ _ 188 (by rw [e]; omega) (by rw [e]; omega)]
theorem okGr_parts {g : Gr} (h : okGr g = true) : SM.count g.id = true ∧ node g.holder = true ∧ PM.okB g.path.data.toList = true ∧ okMode g.mode = true ∧ isStamp g.stamp = true ∧ g.id ≤ last g.stamp ∧ TM.legal g.term = true := by
  unfold okGr at h
  simp only [Bool.and_eq_true, decide_eq_true_eq] at h
  exact h
theorem stamp_parts {s : List Int} (h : isStamp s = true) : s ≠ [] ∧ s.length ≤ 4 ∧ ∀ x ∈ s, WM.Small x := by
  unfold isStamp at h
  simp only [Bool.and_eq_true, decide_eq_true_eq] at h
  obtain ⟨h1, h2⟩ := WM.valid_rng h.2
  exact ⟨h.1, h1, fun x hx => by have := h2 x hx; unfold WM.Small; omega⟩
theorem grantT_enc {g : Gr} (most : Nat) (r : List UInt8) (h : okGr g = true) (h4 : 4 ≤ most) : grantT most (grantB g ++ r, 0) = (g, (r, 0)) := by
  obtain ⟨h1, h2, h3, h5, h6, h7, h8⟩ := okGr_parts h
  obtain ⟨_, s1, s2⟩ := stamp_parts h6
  have hp := WM.path_size h3
  unfold grantT grantB
  simp only [nums, List.append_assoc, List.nil_append, WM.tnum_enc _ _ (WM.small_in (WM.small_count h1)), WM.tnum_enc _ _ (WM.small_in (WM.small_node h2)), ttext_enc _ _ (show g.path.size ≤ 188 by omega),
    WM.tnum_enc _ _ (WM.small_in (WM.small_mode h5)), WM.tnum_enc _ _ (WM.small_in (WM.small_legal h8)), WM.tstamp_enc g.stamp most _ (by omega) (by omega) (fun x hx => WM.small_in (s2 x hx))]
theorem small_next {n : Int} (h : isNext n = true) : 0 ≤ n ∧ n ≤ 9223372036854775807 := by
  unfold isNext at h
  simp only [Bool.and_eq_true, decide_eq_true_eq] at h
  omega
theorem small_boots {n : Int} (h : isBoots n = true) : 0 ≤ n ∧ n ≤ 9223372036854775807 := by
  unfold isBoots at h
  simp only [Bool.and_eq_true, decide_eq_true_eq] at h
  omega
theorem may_kind {r : Rc} (h : mayUse r = true) : r.kind = 1 ∨ r.kind = 2 ∨ r.kind = 3 ∨ r.kind = 4 ∨ r.kind = 5 ∨ r.kind = 6 ∨ r.kind = 7 := by
  unfold mayUse at h
  by_cases h1 : r.kind = 1
  · exact .inl h1
  by_cases h2 : r.kind = 2
  · exact .inr (.inl h2)
  by_cases h3 : r.kind = 3
  · exact .inr (.inr (.inl h3))
  by_cases h4 : r.kind = 4
  · exact .inr (.inr (.inr (.inl h4)))
  by_cases h5 : r.kind = 5
  · exact .inr (.inr (.inr (.inr (.inl h5))))
  by_cases h6 : r.kind = 6
  · exact .inr (.inr (.inr (.inr (.inr (.inl h6)))))
  rw [if_neg h1, if_neg h2, if_neg h3, if_neg h4, if_neg h5, if_neg h6] at h
  exact .inr (.inr (.inr (.inr (.inr (.inr (by simpa using h))))))
theorem taken_laid {r : Rc} (most : Nat) (h : mayUse r = true) (h4 : 4 ≤ most) : taken most (laid r) = used r := by
  have hk := may_kind h
  have e : laid r = OM.enc r.kind.toNat ++ partB r := by unfold laid; rw [WM.nums_one]
  have ek : tnum (laid r, 0) = (r.kind, (partB r, 0)) := by rw [e]; exact WM.tnum_enc _ _ (by omega)
  unfold taken
  rw [ek]
  unfold mayUse at h
  rcases hk with hk | hk | hk | hk | hk | hk | hk
  · simp only [hk, if_true, Bool.and_eq_true] at h
    have e1 := WM.tnum_enc r.next (OM.enc r.boots.toNat) (small_next h.1)
    have e2 := WM.tnum_enc r.boots [] (small_boots h.2)
    rw [List.append_nil] at e2
    simp [partT, used, partB, hk, nums, e1, e2]
  · simp only [hk, if_true] at h
    have e2 := WM.tnum_enc r.longest [] (WM.small_in (WM.small_legal (by simpa using h)))
    rw [List.append_nil] at e2
    simp [partT, used, partB, hk, nums, e2]
  · have hg : okGr r.g = true := by simpa [hk] using h
    have e2 := grantT_enc most [] hg h4
    rw [List.append_nil] at e2
    simp [partT, used, partB, hk, e2]
  · have hg : okGr r.g = true := by
      simp [hk] at h
      exact h.1
    have e2 := grantT_enc most [] hg h4
    rw [List.append_nil] at e2
    simp [partT, used, partB, hk, e2]
  · have hg : SM.count r.id = true ∧ isStamp r.stamp = true := by simpa [hk] using h
    obtain ⟨_, s1, s2⟩ := stamp_parts hg.2
    have e1 := WM.tnum_enc r.id (stampB r.stamp) (WM.small_in (WM.small_count hg.1))
    have e2 := WM.tstamp_enc r.stamp most [] (by omega) (by omega) (fun x hx => WM.small_in (s2 x hx))
    rw [List.append_nil] at e2
    simp [partT, used, partB, hk, nums, e1, e2]
  · have hg : SM.count r.id = true := by simpa [hk] using h
    have e2 := WM.tnum_enc r.id [] (WM.small_in (WM.small_count hg))
    rw [List.append_nil] at e2
    simp [partT, used, partB, hk, nums, e2]
  · simp [partT, used, partB, hk]
theorem grantB_len {g : Gr} (h : okGr g = true) : (grantB g).length ≤ 80 := by
  obtain ⟨h1, h2, h3, h5, h6, h7, h8⟩ := okGr_parts h
  obtain ⟨_, s1, s2⟩ := stamp_parts h6
  have k1 : (nums [g.id, g.holder]).length ≤ 12 := WM.nums_len [g.id, g.holder] (by simp [WM.small_count h1, WM.small_node h2])
  have k2 := WM.encT_len g.path (WM.path_size h3)
  have k3 : (nums [g.mode, g.term]).length ≤ 12 := WM.nums_len [g.mode, g.term] (by simp [WM.small_mode h5, WM.small_legal h8])
  have k4 := WM.stampB_len s1 s2
  unfold grantB
  rw [List.length_append, List.length_append, List.length_append]
  omega
theorem nums9 : ∀ (l : List Int), (∀ x ∈ l, x ≤ 9223372036854775807) → (nums l).length ≤ 9 * l.length
  | [], _ => Nat.zero_le _
  | n :: l, h => by
    have h1 : (OM.enc n.toNat).length ≤ 9 := OM.enc_nine (by have := h n (by simp); omega)
    have h2 := nums9 l (fun x hx => h x (by simp [hx]))
    rw [nums, List.length_append, List.length_cons]
    omega
theorem laid_len {r : Rc} (h : mayUse r = true) : 1 ≤ (laid r).length ∧ (laid r).length ≤ 100 := by
  have hk := may_kind h
  have e : laid r = OM.enc r.kind.toNat ++ partB r := by unfold laid; rw [WM.nums_one]
  have k0 := OM.enc_pos r.kind.toNat
  have k1 : (OM.enc r.kind.toNat).length ≤ 9 := OM.enc_nine (by omega)
  suffices hp : (partB r).length ≤ 90 by rw [e, List.length_append]; omega
  unfold mayUse at h
  unfold partB
  rcases hk with hk | hk | hk | hk | hk | hk | hk
  · have hg : isNext r.next = true ∧ isBoots r.boots = true := by simpa [hk] using h
    have := nums9 [r.next, r.boots] (by simp [(small_next hg.1).2, (small_boots hg.2).2])
    simp [hk]; simp at this; omega
  · have hg : TM.legal r.longest = true := by simpa [hk] using h
    have := nums9 [r.longest] (by simp [(WM.small_in (WM.small_legal hg)).2])
    simp [hk]; simp at this; omega
  · have hg : okGr r.g = true := by simpa [hk] using h
    have := grantB_len hg
    simp [hk]; omega
  · have hg : okGr r.g = true := by
      simp [hk] at h
      exact h.1
    have := grantB_len hg
    simp [hk]; omega
  · have hg : SM.count r.id = true ∧ isStamp r.stamp = true := by simpa [hk] using h
    obtain ⟨_, s1, s2⟩ := stamp_parts hg.2
    have h1 := nums9 [r.id] (by simp [(WM.small_in (WM.small_count hg.1)).2])
    have h2 := WM.stampB_len s1 s2
    simp [hk]; simp at h1; omega
  · have hg : SM.count r.id = true := by simpa [hk] using h
    have := nums9 [r.id] (by simp [(WM.small_in (WM.small_count hg)).2])
    simp [hk]; simp at this; omega
  · simp [hk]
theorem ok_may {r : Rc} (h : okRc r = true) : mayUse r = true ∧ used r = r := by
  unfold okRc at h
  simpa using h
theorem taken_ok {r : Rc} (most : Nat) (h : okRc r = true) (h4 : 4 ≤ most) : taken most (laid r) = r := by
  obtain ⟨h1, h2⟩ := ok_may h
  rw [taken_laid most h1 h4, h2]
/-- It does not matter how many counters are taken up, if there are four or more. -/
theorem decode_most (most : Nat) (h4 : 4 ≤ most) (b : List UInt8) : decode b = if b.length ≤ 188 ∧ okRc (taken most b) = true ∧ laid (taken most b) = b then (taken most b, 0) else (r0, 43) := by
  unfold decode
  by_cases h : b.length ≤ 188 ∧ okRc (taken most b) = true ∧ laid (taken most b) = b
  · have e : taken 4 b = taken most b := by
      have := taken_ok 4 h.2.1 (Nat.le_refl _)
      rw [h.2.2] at this
      exact this
    rw [e]
  · rw [if_neg h]
    by_cases k : b.length ≤ 188 ∧ okRc (taken 4 b) = true ∧ laid (taken 4 b) = b
    · exfalso
      have e : taken most b = taken 4 b := by
        have := taken_ok most k.2.1 h4
        rw [k.2.2] at this
        exact this
      exact h (by rw [e]; exact k)
    · rw [if_neg k]
theorem decode_laid {r : Rc} (h : okRc r = true) : decode (laid r) = (r, 0) := by
  have hl := (laid_len (ok_may h).1).2
  unfold decode
  rw [taken_ok 4 h (Nat.le_refl _), if_pos ⟨by omega, h, rfl⟩]
theorem decode_ok {b : List UInt8} {r : Rc} (h : decode b = (r, 0)) : okRc r = true ∧ laid r = b := by
  unfold decode at h
  split at h
  · rename_i k
    injection h with h1 h2
    rw [← h1]
    exact k.2
  · injection h with h1 h2
    cases h2
end Go.Proofs.Ytboflkadabagfab.BM
