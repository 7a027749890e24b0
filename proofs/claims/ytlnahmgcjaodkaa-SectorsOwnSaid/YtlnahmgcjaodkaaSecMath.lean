/- Records as sectors, as bytes and numbers: a part's sector and that it tells the part; a record's parts; which records stand in sectors, one behind the other; a record whose last part is missing is not there; a sector in which one byte is turned is no part's. -/
import Derived.Test.YtlnahmgcjaodkaaOctetsMath
import Derived.Test.YtlnahmgcjaodkaaOctetsSumMath
namespace Go.Proofs.Ytlnahmgcjaodkaa.SC
open OM (by8 by8_nat)
set_option linter.unusedVariables false
/-- The four bytes of a number; the number of the first four bytes. -/
def f4 (x : Nat) : List UInt8 := [by8 (x % 256), by8 (x / 256 % 256), by8 (x / 65536 % 256), by8 (x / 16777216 % 256)]
def of4 : List UInt8 → Nat
  | a :: b :: c :: d :: _ => a.toNat + 256 * b.toNat + 65536 * c.toNat + 16777216 * d.toNat
  | _ => 0
theorem f4_len (x : Nat) : (f4 x).length = 4 := rfl
theorem of4_f4 {x : Nat} (h : x < 4294967296) (r : List UInt8) : of4 (f4 x ++ r) = x := by
  show (by8 (x % 256)).toNat + 256 * (by8 (x / 256 % 256)).toNat + 65536 * (by8 (x / 65536 % 256)).toNat + 16777216 * (by8 (x / 16777216 % 256)).toNat = x
  rw [by8_nat (by omega), by8_nat (by omega), by8_nat (by omega), by8_nat (by omega)]
  omega
theorem f4_inj {x y : Nat} (hx : x < 4294967296) (hy : y < 4294967296) (h : f4 x = f4 y) : x = y := by
  have h1 := of4_f4 hx []
  rw [h, of4_f4 hy []] at h1
  exact h1.symm
/-- A part of a record. -/
structure Pt where
  gen : Nat
  seq : Nat
  idx : Nat
  parts : Nat
  data : List UInt8
structure Good (p : Pt) : Prop where
  gen : 1 ≤ p.gen ∧ p.gen ≤ 1073741824
  seq : p.seq ≤ 1073741824
  parts : 1 ≤ p.parts ∧ p.parts ≤ 4
  idx : p.idx < p.parts
  len : p.data.length ≤ 47
  full : p.idx + 1 < p.parts → p.data.length = 47
  some : 1 < p.parts → 0 < p.data.length
/-- The sixty bytes ahead of the checksum; the sector. -/
def head (p : Pt) : List UInt8 := f4 p.gen ++ (f4 p.seq ++ (by8 p.idx :: by8 p.parts :: by8 p.data.length :: (p.data ++ List.replicate (49 - p.data.length) 0)))
def lay (p : Pt) : List UInt8 := head p ++ f4 (OM.sum (head p))
theorem head_len {p : Pt} (h : p.data.length ≤ 49) : (head p).length = 60 := by
  unfold head
  simp only [List.length_append, f4_len, List.length_cons, List.length_replicate]
  omega
theorem lay_len {p : Pt} (h : p.data.length ≤ 49) : (lay p).length = 64 := by
  unfold lay
  rw [List.length_append, head_len h, f4_len]
/-- What a sector says that it is. -/
def fields (b : List UInt8) : Pt := ⟨of4 b, of4 (b.drop 4), (b.getD 8 0).toNat, (b.getD 9 0).toNat, (b.drop 11).take (b.getD 10 0).toNat⟩
theorem fields_lay {p : Pt} (h : Good p) : fields (lay p) = p := by
  obtain ⟨g, s, i, n, d⟩ := p
  obtain ⟨⟨_, h1⟩, h2, ⟨_, h3⟩, h4, h5, _, _⟩ := h
  simp only at h1 h2 h3 h4 h5
  unfold fields lay head
  simp only [List.append_assoc]
  congr 1
  · exact of4_f4 (by omega) _
  · exact of4_f4 (by omega) _
  · show (by8 i).toNat = i
    exact by8_nat (by omega)
  · show (by8 n).toNat = n
    exact by8_nat (by omega)
  · show List.take (by8 d.length).toNat ((d ++ List.replicate (49 - d.length) 0) ++ f4 _) = d
    rw [by8_nat (by omega), List.append_assoc, List.take_left]
/-- Sector b is part p's. -/
def Is (b : List UInt8) (p : Pt) : Prop := Good p ∧ lay p = b
theorem Is.uniq {b : List UInt8} {p q : Pt} (h : Is b p) (k : Is b q) : p = q := by
  rw [← fields_lay h.1, ← fields_lay k.1, h.2, k.2]
theorem Is.len {b : List UInt8} {p : Pt} (h : Is b p) : b.length = 64 := by
  rw [← h.2]
  exact lay_len (by have := h.1.len; omega)
theorem Is.fields {b : List UInt8} {p : Pt} (h : Is b p) : fields b = p := by
  rw [← h.2]
  exact fields_lay h.1
theorem is_iff (b : List UInt8) : (∃ p, Is b p) ↔ Good (fields b) ∧ lay (fields b) = b :=
  ⟨fun ⟨p, h⟩ => by rw [h.fields]; exact h, fun h => ⟨_, h⟩⟩
/-- The last four bytes are the checksum of those ahead. -/
theorem Is.sum {b : List UInt8} {p : Pt} (h : Is b p) : b.drop 60 = f4 (OM.sum (b.take 60)) := by
  obtain ⟨hg, rfl⟩ := h
  have hl := head_len (p := p) (by have := hg.len; omega)
  unfold lay
  rw [List.drop_left' hl, List.take_left' hl]
theorem set_split {l : List UInt8} {i : Nat} (x : UInt8) (h : i < l.length) : l = l.take i ++ l[i] :: l.drop (i + 1) ∧ l.set i x = l.take i ++ x :: l.drop (i + 1) := by
  refine ⟨?_, List.set_eq_take_append_cons_drop .. |>.trans (if_pos h)⟩
  rw [List.getElem_cons_drop, List.take_append_drop]
/-- A sector in which one byte is turned is no part's. -/
theorem Is.turned {b : List UInt8} {p : Pt} (h : Is b p) {i : Nat} {x : UInt8} (hi : i < 64) (hx : b[i]? ≠ some x) (q : Pt) : ¬ Is (b.set i x) q := by
  intro k
  have hl := h.len
  have e1 := h.sum
  have e2 := k.sum
  by_cases h60 : i < 60
  · rw [List.drop_set, if_pos h60, List.take_set] at e2
    rw [e1] at e2
    have hsum := f4_inj (OM.sum_lt _) (OM.sum_lt _) e2
    have hi' : i < (b.take 60).length := by rw [List.length_take]; omega
    obtain ⟨s1, s2⟩ := set_split x hi'
    have ht := OM.sum_turned ((b.take 60).take i) ((b.take 60).drop (i + 1)) (b.take 60)[i] x (fun e => hx (by
      rw [List.getElem_take] at e
      rw [List.getElem?_eq_getElem (by omega), e]))
    rw [← s1, ← s2] at ht
    exact ht hsum
  · have hz : (b.take 60).set i x = b.take 60 := List.set_eq_of_length_le (by rw [List.length_take]; omega)
    rw [List.take_set, hz, ← e1, List.drop_set, if_neg h60] at e2
    have hi2 : i - 60 < (b.drop 60).length := by rw [List.length_drop]; omega
    have h3 : (b.drop 60)[i - 60]? = some x := by rw [← e2, List.getElem?_set_self (by simpa using hi2)]
    rw [List.getElem?_drop, show 60 + (i - 60) = i by omega] at h3
    exact hx h3
/-- How many parts a record has; its parts; its sectors. -/
def np (d : List UInt8) : Nat := max 1 ((d.length + 46) / 47)
def part (g s : Nat) (d : List UInt8) (i : Nat) : Pt := ⟨g, s, i, np d, (d.drop (47 * i)).take 47⟩
def pack (g s : Nat) (d : List UInt8) : List (List UInt8) := (List.range (np d)).map fun i => lay (part g s d i)
theorem np_pos (d : List UInt8) : 1 ≤ np d := by unfold np; omega
theorem pack_len (g s : Nat) (d : List UInt8) : (pack g s d).length = np d := by simp [pack]
theorem pack_at {g s : Nat} {d : List UInt8} {i : Nat} (h : i < np d) : (pack g s d)[i]? = some (lay (part g s d i)) := by
  unfold pack
  rw [List.getElem?_map, List.getElem?_range h]
  rfl
theorem part_good {g s : Nat} {d : List UInt8} {i : Nat} (hg : 1 ≤ g ∧ g ≤ 1073741824) (hs : s ≤ 1073741824) (hd : d.length ≤ 188) (hi : i < np d) : Good (part g s d i) := by
  have hl : (part g s d i).data.length = min 47 (d.length - 47 * i) := by show ((d.drop (47 * i)).take 47).length = _; rw [List.length_take, List.length_drop]
  have hn : (part g s d i).parts = np d := rfl
  have hx : (part g s d i).idx = i := rfl
  refine ⟨hg, hs, ?_, hi, by omega, ?_, ?_⟩
  · rw [hn]; unfold np at *; omega
  · rw [hn, hx, hl]; intro h; unfold np at *; omega
  · rw [hn, hl]; intro h; unfold np at *; omega
theorem take_parts (d : List UInt8) : ∀ n : Nat, (List.range n).flatMap (fun i => (d.drop (47 * i)).take 47) = d.take (47 * n)
  | 0 => by simp
  | n + 1 => by
    rw [List.range_succ, List.flatMap_append, take_parts d n]
    simp only [List.flatMap_cons, List.flatMap_nil, List.append_nil]
    rw [show 47 * (n + 1) = 47 * n + 47 by omega, List.take_add]
theorem join_parts (g s : Nat) (d : List UInt8) : (List.range (np d)).flatMap (fun i => (part g s d i).data) = d := by
  show (List.range (np d)).flatMap (fun i => (d.drop (47 * i)).take 47) = d
  rw [take_parts, List.take_of_length_le (by unfold np; omega)]
/-- In the sectors l a record with this number stands ahead of all: its bytes, its sectors. -/
def Rec (l : List (List UInt8)) (g s : Nat) (d : List UInt8) (n : Nat) : Prop :=
  ∃ ps : List Pt, ps.length = n ∧ 1 ≤ n ∧ (∀ (i : Nat) (p : Pt), ps[i]? = some p → ∃ b, l[i]? = some b ∧ Is b p ∧ p.gen = g ∧ p.seq = s ∧ p.idx = i ∧ p.parts = n) ∧ d = ps.flatMap Pt.data
theorem Rec.uniq {l : List (List UInt8)} {g s : Nat} {d d' : List UInt8} {n n' : Nat} (h : Rec l g s d n) (k : Rec l g s d' n') : d = d' ∧ n = n' := by
  obtain ⟨ps, h1, h2, h3, rfl⟩ := h
  obtain ⟨qs, k1, k2, k3, rfl⟩ := k
  have hn : n = n' := by
    obtain ⟨b, hb, hp, _, _, _, e⟩ := h3 0 (ps[0]'(by omega)) (List.getElem?_eq_getElem _)
    obtain ⟨c, hc, hq, _, _, _, e'⟩ := k3 0 (qs[0]'(by omega)) (List.getElem?_eq_getElem _)
    rw [hb] at hc
    cases hc
    rw [← e, ← e', hp.uniq hq]
  subst hn
  have e : ps = qs := by
    apply List.ext_getElem (by omega)
    intro i hi hj
    obtain ⟨b, hb, hp, _⟩ := h3 i _ (List.getElem?_eq_getElem hi)
    obtain ⟨c, hc, hq, _⟩ := k3 i _ (List.getElem?_eq_getElem hj)
    rw [hb] at hc
    cases hc
    exact hp.uniq hq
  rw [e]
  exact ⟨rfl, rfl⟩
theorem Rec.le {l : List (List UInt8)} {g s : Nat} {d : List UInt8} {n : Nat} (h : Rec l g s d n) : 1 ≤ n ∧ n ≤ l.length ∧ n ≤ 4 := by
  obtain ⟨ps, h1, h2, h3, _⟩ := h
  obtain ⟨b, hb, hp, _, _, _, e⟩ := h3 (n - 1) (ps[n - 1]'(by omega)) (List.getElem?_eq_getElem _)
  have := (List.getElem?_eq_some_iff.1 hb).1
  have := hp.1.parts.2
  exact ⟨h2, by omega, by omega⟩
theorem rec_pack {g s : Nat} {d : List UInt8} (hg : 1 ≤ g ∧ g ≤ 1073741824) (hs : s ≤ 1073741824) (hd : d.length ≤ 188) (rest : List (List UInt8)) : Rec (pack g s d ++ rest) g s d (np d) := by
  refine ⟨(List.range (np d)).map (part g s d), by simp, np_pos d, fun i p hp => ?_, ?_⟩
  · rw [List.getElem?_map] at hp
    obtain ⟨j, hj, rfl⟩ := Option.map_eq_some_iff.1 hp
    obtain ⟨hlt, e⟩ := List.getElem?_eq_some_iff.1 hj
    have hji : i = j := by simpa using e
    subst hji
    have hlt : i < np d := by simpa using hlt
    exact ⟨lay (part g s d i), by rw [List.getElem?_append_left (by rw [pack_len]; exact hlt)]; exact pack_at hlt, ⟨part_good hg hs hd hlt, rfl⟩, rfl, rfl, rfl, rfl⟩
  · rw [List.flatMap_map]
    exact (join_parts g s d).symm
/-- A record whose last part is nowhere is not there. -/
theorem no_last {l : List (List UInt8)} {g s : Nat} (h : ∀ (i : Nat) (b : List UInt8) (p : Pt), l[i]? = some b → Is b p → p.gen = g → p.seq = s → p.idx + 1 ≠ p.parts) (d : List UInt8) (n : Nat) : ¬ Rec l g s d n := by
  rintro ⟨ps, h1, h2, h3, _⟩
  obtain ⟨b, hb, hp, e1, e2, e3, e4⟩ := h3 (n - 1) (ps[n - 1]'(by omega)) (List.getElem?_eq_getElem _)
  exact h _ b _ hb hp e1 e2 (by omega)
/-- The records from number s on that stand in the sectors l, and how many sectors they take. -/
inductive Scans (g : Nat) : Nat → List (List UInt8) → List (List UInt8) → Nat → Prop
  | stop {s : Nat} {l : List (List UInt8)} : (∀ d n, ¬ Rec l g s d n) → Scans g s l [] 0
  | more {s : Nat} {l rs : List (List UInt8)} {d : List UInt8} {n u : Nat} : Rec l g s d n → Scans g (s + 1) (l.drop n) rs u → Scans g s l (d :: rs) (n + u)
theorem Scans.uniq {g : Nat} : ∀ {s : Nat} {l rs : List (List UInt8)} {u : Nat}, Scans g s l rs u → ∀ {qs : List (List UInt8)} {v : Nat}, Scans g s l qs v → rs = qs ∧ u = v := by
  intro s l rs u h
  induction h with
  | stop h =>
    intro qs v k
    cases k with
    | stop _ => exact ⟨rfl, rfl⟩
    | more k _ => exact absurd k (h _ _)
  | more h _ ih =>
    intro qs v k
    cases k with
    | stop k => exact absurd h (k _ _)
    | more k k2 =>
      obtain ⟨e1, e2⟩ := h.uniq k
      subst e1 e2
      obtain ⟨e3, e4⟩ := ih k2
      rw [e3, e4]
      exact ⟨rfl, rfl⟩
/-- Records with the numbers s, s + 1, .. as sectors. -/
def packs (g : Nat) : Nat → List (List UInt8) → List (List UInt8)
  | _, [] => []
  | s, d :: rs => pack g s d ++ packs g (s + 1) rs
theorem packs_snoc (g : Nat) : ∀ (s : Nat) (rs : List (List UInt8)) (d : List UInt8), packs g s (rs ++ [d]) = packs g s rs ++ pack g (s + rs.length) d
  | s, [], d => by simp [packs]
  | s, r :: rs, d => by
    show pack g s r ++ packs g (s + 1) (rs ++ [d]) = (pack g s r ++ packs g (s + 1) rs) ++ _
    rw [packs_snoc g (s + 1) rs d, List.append_assoc, List.length_cons, show s + 1 + rs.length = s + (rs.length + 1) by omega]
theorem scans_packs {g : Nat} (hg : 1 ≤ g ∧ g ≤ 1073741824) : ∀ (rs : List (List UInt8)) (s : Nat) (rest tail : List (List UInt8)) (u : Nat), s + rs.length ≤ 1073741824 → (∀ d ∈ rs, d.length ≤ 188) → Scans g (s + rs.length) rest tail u →
    Scans g s (packs g s rs ++ rest) (rs ++ tail) ((packs g s rs).length + u)
  | [], s, rest, tail, u, _, _, h => by simpa [packs] using h
  | d :: rs, s, rest, tail, u, hs, hd, h => by
    have hs' : s + (rs.length + 1) ≤ 1073741824 := hs
    have hr := rec_pack hg (show s ≤ 1073741824 by omega) (hd d List.mem_cons_self) (packs g (s + 1) rs ++ rest)
    have ih := scans_packs hg rs (s + 1) rest tail u (by omega) (fun x hx => hd x (List.mem_cons_of_mem _ hx)) (by rw [List.length_cons] at h; rwa [show s + 1 + rs.length = s + (rs.length + 1) by omega])
    show Scans g s ((pack g s d ++ packs g (s + 1) rs) ++ rest) (d :: (rs ++ tail)) ((pack g s d ++ packs g (s + 1) rs).length + u)
    rw [List.length_append, pack_len, Nat.add_assoc, List.append_assoc]
    refine Scans.more hr ?_
    rw [List.drop_left' (pack_len g s d)]
    exact ih
/-- Sixty-four zeros are no part's. -/
theorem zeros_no (p : Pt) : ¬ Is (List.replicate 64 0) p := fun h => by
  have e := h.fields
  have hg := h.1.gen.1
  rw [← e] at hg
  exact absurd hg (by decide)
end Go.Proofs.Ytlnahmgcjaodkaa.SC
