/- What BagOnce keeps: who was sent, by number, and who is out; the names tell the numbers apart. -/
import Derived.Test.YtnjgefpgpbodpaaBagW13
namespace Go.Proofs.Ytnjgefpgpbodpaa
open Go.RowKit
open By (BytesAt u8s)
set_option linter.unusedVariables false
set_option linter.unusedSimpArgs false
/-- A packet's name: the four lowest bytes of its number. -/
def nm (i : Nat) : List UInt8 := [OM.by8 (i % 256), OM.by8 (i / 256 % 256), OM.by8 (i / 65536 % 256), OM.by8 (i / 16777216 % 256)]
theorem nm_len (i : Nat) : (nm i).length = 4 := rfl
theorem by8_inj {a b : Nat} (ha : a < 256) (hb : b < 256) (h : OM.by8 a = OM.by8 b) : a = b := by
  have := congrArg UInt8.toNat h
  rwa [OM.by8_nat ha, OM.by8_nat hb] at this
theorem nm_inj {i j : Nat} (hi : i < 4294967296) (hj : j < 4294967296) (h : nm i = nm j) : i = j := by
  unfold nm at h
  injection h with h1 h
  injection h with h2 h
  injection h with h3 h
  injection h with h4 _
  have e1 := by8_inj (by omega) (by omega) h1
  have e2 := by8_inj (by omega) (by omega) h2
  have e3 := by8_inj (by omega) (by omega) h3
  have e4 := by8_inj (by omega) (by omega) h4
  omega
def pkOf (i : Nat) : Pk := ⟨i, 0, nm i⟩
/-- Who is still in. -/
def live (L : List (Nat × Bool)) : List Pk := (L.filter fun x => !x.2).map fun x => pkOf x.1
def outs (L : List (Nat × Bool)) : Nat := (L.filter fun x => x.2).length
theorem live_nil : live [] = [] := rfl
theorem live_in (i : Nat) (L : List (Nat × Bool)) : live ((i, false) :: L) = pkOf i :: live L := rfl
theorem live_out (i : Nat) (L : List (Nat × Bool)) : live ((i, true) :: L) = live L := rfl
theorem live_snoc (L : List (Nat × Bool)) (i : Nat) : live (L ++ [(i, false)]) = live L ++ [pkOf i] := by simp [live]
theorem outs_snoc (L : List (Nat × Bool)) (i : Nat) : outs (L ++ [(i, false)]) = outs L := by simp [outs]
theorem live_outs (L : List (Nat × Bool)) : (live L).length + outs L = L.length := by
  induction L with
  | nil => rfl
  | cons x L ih =>
    obtain ⟨i, o⟩ := x
    cases o with
    | true => simp [live, outs] at ih ⊢; omega
    | false => simp [live, outs] at ih ⊢; omega
theorem live_take : ∀ (L : List (Nat × Bool)) (k : Nat) (p : Pk), (live L)[k]? = some p → ∃ q i, L[q]? = some (i, false) ∧ p = pkOf i ∧ live (L.set q (i, true)) = (live L).eraseIdx k ∧ outs (L.set q (i, true)) = outs L + 1
  | [], k, p, h => by simp [live] at h
  | (i, true) :: L, k, p, h => by
    rw [live_out] at h
    obtain ⟨q, j, h1, h2, h3, h4⟩ := live_take L k p h
    refine ⟨q + 1, j, by simpa using h1, h2, ?_, ?_⟩
    · rw [List.set_cons_succ, live_out, live_out, h3]
    · rw [List.set_cons_succ]
      simp only [outs, List.filter_cons, if_true, List.length_cons] at h4 ⊢
      omega
  | (i, false) :: L, 0, p, h => by
    rw [live_in] at h
    refine ⟨0, i, rfl, by simpa using h.symm, ?_, ?_⟩
    · rw [List.set_cons_zero, live_out, live_in]; rfl
    · simp [outs]
  | (i, false) :: L, k + 1, p, h => by
    rw [live_in] at h
    obtain ⟨q, j, h1, h2, h3, h4⟩ := live_take L k p (by simpa using h)
    refine ⟨q + 1, j, by simpa using h1, h2, ?_, ?_⟩
    · rw [List.set_cons_succ, live_in, live_in, h3]; rfl
    · rw [List.set_cons_succ]
      simp [outs] at h4 ⊢
      omega
/-- The numbers rise, all below n. -/
def Rises (L : List (Nat × Bool)) (n : Nat) : Prop := (L.map Prod.fst).Pairwise (· < ·) ∧ ∀ x ∈ L, x.1 < n
theorem Rises.nil (n : Nat) : Rises [] n := ⟨List.Pairwise.nil, fun x hx => by cases hx⟩
theorem Rises.snoc {L : List (Nat × Bool)} {n : Nat} (h : Rises L n) : Rises (L ++ [(n, false)]) (n + 1) := by
  refine ⟨?_, fun x hx => ?_⟩
  · rw [List.map_append, List.pairwise_append]
    refine ⟨h.1, List.pairwise_singleton _ _, fun a ha b hb => ?_⟩
    obtain ⟨x, hx, rfl⟩ := List.mem_map.1 ha
    rw [show b = n by simpa using hb]
    exact h.2 x hx
  · rcases List.mem_append.1 hx with hx | hx
    · have := h.2 x hx; omega
    · rw [List.mem_singleton.1 hx]; exact Nat.lt_succ_self n
theorem Rises.mono {L : List (Nat × Bool)} {n m : Nat} (h : Rises L n) (hm : n ≤ m) : Rises L m := ⟨h.1, fun x hx => Nat.lt_of_lt_of_le (h.2 x hx) hm⟩
theorem set_fst {L : List (Nat × Bool)} {q i : Nat} {o : Bool} (h : L[q]? = some (i, o)) (o' : Bool) : (L.set q (i, o')).map Prod.fst = L.map Prod.fst := by
  rw [List.map_set]
  refine List.ext_getElem? fun k => ?_
  by_cases e : q = k
  · subst e
    have hl : q < (L.map Prod.fst).length := by rw [List.length_map]; exact (List.getElem?_eq_some_iff.1 h).1
    rw [List.getElem?_set_self hl, List.getElem?_map, h]
    rfl
  · rw [List.getElem?_set_ne e]
theorem Rises.set {L : List (Nat × Bool)} {n q i : Nat} {o : Bool} (h : Rises L n) (hq : L[q]? = some (i, o)) (o' : Bool) : Rises (L.set q (i, o')) n := by
  refine ⟨by rw [set_fst hq]; exact h.1, fun x hx => ?_⟩
  rcases List.mem_or_eq_of_mem_set hx with hx | hx
  · exact h.2 x hx
  · subst hx; exact h.2 (i, o) (List.mem_of_getElem? hq)
/-- One name stands at one place. -/
theorem Rises.one {L : List (Nat × Bool)} {n q k : Nat} (h : Rises L n) (hn : n ≤ 4294967296) (hq : q < L.length) (hk : k < L.length) : nm L[k].1 = nm L[q].1 ↔ k = q := by
  constructor
  · intro e
    have e2 := nm_inj (by have := h.2 _ (List.getElem_mem hk); omega) (by have := h.2 _ (List.getElem_mem hq); omega) e
    have hp := List.pairwise_iff_getElem.1 h.1
    rcases Nat.lt_trichotomy k q with hlt | he | hgt
    · have := hp k q (by rw [List.length_map]; exact hk) (by rw [List.length_map]; exact hq) hlt
      simp only [List.getElem_map] at this
      omega
    · exact he
    · have := hp q k (by rw [List.length_map]; exact hq) (by rw [List.length_map]; exact hk) hgt
      simp only [List.getElem_map] at this
      omega
  · intro e; subst e; rfl
theorem live_drop {L : List (Nat × Bool)} {k : Nat} (h : k < L.length) : live (L.drop k) = if L[k].2 = true then live (L.drop (k + 1)) else pkOf L[k].1 :: live (L.drop (k + 1)) := by
  rw [List.drop_eq_getElem_cons h]
  obtain ⟨i, o⟩ := L[k]
  cases o <;> rfl
/-! ### In memory -/
def nmV (i : Nat) : Value := .string ⟨(nm i).toArray⟩
structure Rows2 (w v : World) (V U : Value) (L : List (Nat × Bool)) : Prop where
  nms : v.ownsRow w.heap.size 9 1 V L.length (L.map fun x => nmV x.1)
  out : v.ownsRow w.heap.size 4 1 U L.length (L.map fun x => .bool x.2)
def SO (g : Nat) (V U : Value) (x : Nat) : Prop := x ≠ g ∧ V.ownBlock ≠ some x ∧ U.ownBlock ≠ some x
/-- How all stands behind j calls: the bag holds who was sent and is not out. -/
structure On (w v : World) (g : Nat) (V U : Value) (L : List (Nat × Bool)) (q : Int) (j : Nat) : Prop where
  bag : BagAt (SO g V U) v g (live L) (L.length : Int) q
  sound : Sound ⟨live L, (L.length : Int), q⟩ j
  rows : Rows2 w v V U L
  rise : Rises L j
  vg : V.ownBlock ≠ some g ∧ U.ownBlock ≠ some g
  gl : w.heap.size ≤ g
  bel : Below w.heap.size w v
section
variable {w v v' : World} {g j j' : Nat} {V U V' U' : Value} {L : List (Nat × Bool)} {q q' : Int}
theorem On.keep (h : On w v g V U L q j) (hb : Below v.heap.size v v') : On w v' g V U L q j :=
  ⟨h.bag.below hb, h.sound, ⟨(Mod.of_below hb []).own h.rows.nms (by simp), (Mod.of_below hb []).own h.rows.out (by simp)⟩, h.rise, h.vg, h.gl, below_on h.bel hb⟩
theorem On.more (h : On w v g V U L q j) (hj : j ≤ j') : On w v g V U L q j' := ⟨h.bag, h.sound.mono hj, h.rows, h.rise.mono hj, h.vg, h.gl, h.bel⟩
theorem start_on {w w1 w2 : World} (hX : Below w.heap.size w w1) (hw : w2 = w1.alloc (.cells bag0 59)) : On w w2 w1.heap.size (.slice none 0 0) (.slice none 0 0) [] 0 0 := by
  subst hw
  refine ⟨bag0_at w1 (S := SO w1.heap.size (.slice none 0 0) (.slice none 0 0)) (fun h => h.1 rfl), sound0 0, ⟨World.ownsRow_nil _ _ _ _, World.ownsRow_nil _ _ _ _⟩, Rises.nil 0, ⟨by simp [Value.ownBlock], by simp [Value.ownBlock]⟩, hX.size, hX.alloc hX.size _⟩
theorem On.lt (h : On w v g V U L q j) : g < v.heap.size := h.bag.lt
theorem On.hS (h : On w v g V U L q j) (x : Nat) (hx : v.heap.size ≤ x) : SO g V U x := by
  have h1 := h.bag.lt
  refine ⟨by omega, fun e => ?_, fun e => ?_⟩
  · have := (h.rows.nms.lt x e).2; omega
  · have := (h.rows.out.lt x e).2; omega
end
theorem rows_apart {w : World} {b1 b2 : Nat} {e t : TypeId} {s1 s2 n m : Nat} {v u : Value} {xs ys : List Value} (h : w.ownsRow b1 e s1 v n xs) (k : w.ownsRow b2 t s2 u m ys) (hne : e ≠ t) {j : Nat} (hv : v.ownBlock = some j) : u.ownBlock ≠ some j := by
  rcases h.2 with ⟨rfl, _⟩ | ⟨g, cap, cur, rfl, _, hh, _⟩
  · cases hv
  · have e1 : g = j := by simpa [Value.ownBlock] using hv
    subst e1
    rcases k.2 with ⟨rfl, _⟩ | ⟨g', cap', cur', rfl, _, hh', _⟩
    · intro hx; cases hx
    · intro hx
      have e2 : g' = g := by simpa [Value.ownBlock] using hx
      subst e2
      rw [hh] at hh'
      injection hh' with hh'
      injection hh' with _ h2
      exact hne h2
theorem new_ne {v v2 : Value} {g N : Nat} (h : v2.ownBlock = v.ownBlock ∨ ∃ k, v2.ownBlock = some k ∧ N ≤ k) (h1 : v.ownBlock ≠ some g) (h2 : g < N) : v2.ownBlock ≠ some g := by
  rcases h with e | ⟨y, e, hy⟩
  · rw [e]; exact h1
  · rw [e]; intro e2; injection e2 with e2; omega
section
variable {B g n n' : Nat} {v v2 : World} {V U V2 U2 : Value} {ps : List Pk} {s q : Int} {e t : TypeId} {xs ys : List Value}
theorem grow_V (hb : BagAt (SO g V U) v g ps s q) (hV : v.ownsRow B e 1 V n xs) (hU : v.ownsRow B t 1 U n' ys) (hne : e ≠ t) (vg : V.ownBlock ≠ some g) (hm : Mod V.ownBlock.toList v v2) (hv : V2.ownBlock = V.ownBlock ∨ ∃ k, V2.ownBlock = some k ∧ v.heap.size ≤ k) :
    BagAt (SO g V2 U) v2 g ps s q ∧ v2.ownsRow B t 1 U n' ys ∧ V2.ownBlock ≠ some g := by
  have h1 : BagAt (fun x => SO g V U x ∧ SO g V2 U x) v g ps s q := hb.mono (fun x hx hs => ⟨hs, hs.1, new_ne hv hs.2.1 hx, hs.2.2⟩) (fun h => h.1.1 rfl)
  have h2 : BagAt (fun x => SO g V U x ∧ SO g V2 U x) v2 g ps s q := h1.mod (fun hx => vg (by simpa using hx)) hm (fun x hx hs => hs.1.2.1 (by simpa using hx))
  exact ⟨h2.mono (fun x _ hs => hs.2) (fun h => h.1 rfl), hm.own hU (fun k hk hx => rows_apart hV hU hne (by simpa using hx) hk), new_ne hv vg hb.lt⟩
theorem grow_U (hb : BagAt (SO g V U) v g ps s q) (hV : v.ownsRow B e 1 V n xs) (hU : v.ownsRow B t 1 U n' ys) (hne : e ≠ t) (ug : U.ownBlock ≠ some g) (hm : Mod U.ownBlock.toList v v2) (hv : U2.ownBlock = U.ownBlock ∨ ∃ k, U2.ownBlock = some k ∧ v.heap.size ≤ k) :
    BagAt (SO g V U2) v2 g ps s q ∧ v2.ownsRow B e 1 V n xs ∧ U2.ownBlock ≠ some g := by
  have h1 : BagAt (fun x => SO g V U x ∧ SO g V U2 x) v g ps s q := hb.mono (fun x hx hs => ⟨hs, hs.1, hs.2.1, new_ne hv hs.2.2 hx⟩) (fun h => h.1.1 rfl)
  have h2 : BagAt (fun x => SO g V U x ∧ SO g V U2 x) v2 g ps s q := h1.mod (fun hx => ug (by simpa using hx)) hm (fun x hx hs => hs.1.2.2 (by simpa using hx))
  exact ⟨h2.mono (fun x _ hs => hs.2) (fun h => h.1 rfl), hm.own hV (fun k hk hx => rows_apart hV hU hne hk (by simpa using hx)), new_ne hv ug hb.lt⟩
end
theorem info_str : (Try.prog.info? 9).map (fun i => (i.zero, i.size, i.bytes)) = some (some (.string ⟨#[]⟩), 1, 16) := by kernel_rfl
theorem info_bool : (Try.prog.info? 4).map (fun i => (i.zero, i.size, i.bytes)) = some (some (.bool false), 1, 1) := by kernel_rfl
theorem own_new {v' : Value} {x : Option Nat} {N M : Nat} (h : v'.ownBlock = x ∨ v'.ownBlock = some N) (hM : M ≤ N) : v'.ownBlock = x ∨ ∃ k, v'.ownBlock = some k ∧ M ≤ k := h.elim .inl (fun e => .inr ⟨N, e, hM⟩)
/-- One element put behind a row of the call's own, of strings or bools. -/
theorem app_row {w1 : World} {ops : Array Oper} {rest : List Oper} {o : Oper} {a : Act} {Q : Exit → Act → World → Prop} (hgd : o.guard = none) (s x : Operand) (T E : TypeId) (z : Value) (bytes : Nat)
    (ht : Try.prog.underlying T = some (.slice E)) (hinfo : (Try.prog.info? E).map (fun i => (i.zero, i.size, i.bytes)) = some (some z, 1, bytes)) (hz : z.cells.size = 1)
    (ho : o.op = .call { callee := .builtin .append, args := #[s, x], argTypes := #[T, T] })
    (base : Nat) (v : Value) (n : Nat) (xs : List Value) (hown : w1.ownsRow base E 1 v n xs) (hb : base ≤ w1.heap.size) (hs : a.eval s = v) (y : Value) (hy : y.oneCell' = true) (hx : a.eval x = .slice (some ⟨w1.heap.size, 0, none⟩) 1 1) (hl : (n + 1) * bytes ≤ 140737488355328) (hn : n ≤ 1048576)
    (h : ∀ v' w2, w2.ownsRow base E 1 v' (n + 1) (xs ++ [y]) → Mod v.ownBlock.toList w1 w2 → (v'.ownBlock = v.ownBlock ∨ ∃ k, v'.ownBlock = some k ∧ w1.heap.size ≤ k) → wpList Try.prog ops Q rest (a.put o.dst v') w2) : wpList Try.prog ops Q (o :: rest) a (w1.alloc (.cells #[y] E)) := by
  obtain ⟨i0, hi, hz0, hz1, hz2⟩ := info_parts hinfo
  refine wpList_append_own_at _ hgd s x T ho base E i0 z 1 bytes ht hi hz0 hz1 hz2 hz (by decide) v n xs hs (hown.alloc _) ⟨w1.heap.size, 0, none⟩ 1 1 [y] hx rfl
    (World.news_of_block (cs := #[y]) (t := E) (fr := (0, 0)) (heap_alloc_new w1 _)) (by intro u hu; rw [List.mem_singleton.1 hu]; exact hy) (by unfold maxLen; omega) hl (by rw [World.size_alloc]; omega) ?_
  intro v' w2 hown' hgrow _ hnew
  exact h v' w2 hown' (((Mod.refl _ w1).alloc _).grown hgrow (fun k hk => .inl (by rw [hk]; simp))) (own_new hnew (by rw [World.size_alloc]; omega))
theorem nm_cells {j : Nat} (hj : j ≤ 1048576) : (#[.int .u8 ((j : Int) % 256), .int .u8 ((j : Int) / 256 % 256), .int .u8 ((j : Int) / 65536), .int .u8 ((j : Int) / 16777216)] : Array Value) = (u8s (nm j)).toArray := by
  unfold nm u8s By.u8
  simp only [List.map_cons, List.map_nil]
  rw [OM.by8_nat (by omega), OM.by8_nat (by omega), OM.by8_nat (by omega), OM.by8_nat (by omega)]
  have e3 : ((j / 65536 % 256 : Nat) : Int) = (j : Int) / 65536 := by omega
  have e4 : ((j / 16777216 % 256 : Nat) : Int) = (j : Int) / 16777216 := by omega
  have e1 : ((j % 256 : Nat) : Int) = (j : Int) % 256 := by omega
  have e2 : ((j / 256 % 256 : Nat) : Int) = (j : Int) / 256 % 256 := by omega
  rw [e1, e2, e3, e4]
theorem nm_at (w : World) (j : Nat) : BytesAt (w.alloc (.cells (u8s (nm j)).toArray 5)) (some ⟨w.heap.size, 0, none⟩) (nm j) := fun h0 => by
  have hw := Whole.new w 5 (u8s (nm j)).toArray
  refine ⟨w.heap.size, 0, rfl, hw.lt, fun i x hi => ?_⟩
  rw [Nat.zero_add, hw.cell, List.getElem?_toArray]
  unfold u8s
  rw [List.getElem?_map, hi]
  rfl
theorem sent_full {L : List (Nat × Bool)} {s q : Int} {j : Nat} (h : (live L).length = 48) : sentErr ⟨live L, s, q⟩ (pkOf j) = 51 ∧ sent ⟨live L, s, q⟩ (pkOf j) = ⟨live L, s, q + 1⟩ := by
  simp [sentErr, sent, pkOf, nm_len, h]
theorem sent_room {L : List (Nat × Bool)} {s q : Int} {j : Nat} (h : (live L).length ≠ 48) : sentErr ⟨live L, s, q⟩ (pkOf j) = 0 ∧ sent ⟨live L, s, q⟩ (pkOf j) = ⟨live L ++ [pkOf j], s + 1, q⟩ := by
  simp [sentErr, sent, pkOf, nm_len, h]
section
variable {w v v' : World} {g j : Nat} {V U V2 U2 : Value} {L : List (Nat × Bool)} {q : Int}
/-- A packet more that was lost. -/
theorem On.lose (h : On w v g V U L q j) (hf : (live L).length = 48) (hb : BagAt (SO g V U) v' g (live L) (L.length : Int) (q + 1)) (hm : Mod [g] v v') : On w v' g V U L (q + 1) (j + 1) := by
  have hs := h.sound.sent (pkOf j)
  rw [(sent_full hf).2] at hs
  refine ⟨hb, hs, ⟨hm.own h.rows.nms (fun k hk hx => h.vg.1 (by rw [List.mem_singleton.1 hx] at hk; exact hk)), hm.own h.rows.out (fun k hk hx => h.vg.2 (by rw [List.mem_singleton.1 hx] at hk; exact hk))⟩, h.rise.mono (Nat.le_succ j), h.vg, h.gl, h.bel.trans (hm.below h.bel.size (by intro x hx; rw [List.mem_singleton.1 hx]; exact h.gl))⟩
/-- A packet more that is in. -/
theorem On.push (h : On w v g V U L q j) (hr : (live L).length ≠ 48) (hb : BagAt (SO g V2 U2) v' g (live L ++ [pkOf j]) ((L.length : Int) + 1) q) (hV : v'.ownsRow w.heap.size 9 1 V2 (L.length + 1) (L.map (fun x => nmV x.1) ++ [nmV j])) (hU : v'.ownsRow w.heap.size 4 1 U2 (L.length + 1) (L.map (fun x => .bool x.2) ++ [.bool false])) (hg : V2.ownBlock ≠ some g ∧ U2.ownBlock ≠ some g) (hx : Below w.heap.size w v') :
    On w v' g V2 U2 (L ++ [(j, false)]) q (j + 1) := by
  have hs := h.sound.sent (pkOf j)
  rw [(sent_room hr).2] at hs
  have e : (L ++ [(j, false)]).length = L.length + 1 := by simp
  have e2 : (((L ++ [(j, false)]).length : Nat) : Int) = (L.length : Int) + 1 := by rw [e]; rfl
  refine ⟨by rw [live_snoc, e2]; exact hb, by rw [live_snoc, e2]; exact hs, ⟨by rw [e, List.map_append]; exact hV, by rw [e, List.map_append]; exact hU⟩, h.rise.snoc, hg, h.gl, hx⟩
end
theorem own_addr1 {w : World} {B n : Nat} {e : TypeId} {v : Value} {xs : List Value} (h : w.ownsRow B e 1 v n xs) (hn : 0 < n) : ∃ g c, v = .slice (some ⟨g, 0, none⟩) n c ∧ B ≤ g ∧ g < w.heap.size ∧ n ≤ c ∧ c ≤ 9223372036854775807 := by
  have hl := h.1
  rw [Nat.mul_one] at hl
  obtain ⟨g, cap, hv, hb, hlt⟩ := h.form (by omega)
  obtain ⟨A, c, e, h1, h2⟩ := By.own_shape h
  rw [hv] at e
  injection e with _ _ e3
  subst e3
  exact ⟨g, cap, hv, hb, hlt, h1, h2⟩
theorem row_cell {w : World} {B n c g : Nat} {e : TypeId} {xs : List Value} (h : w.ownsRow B e 1 (.slice (some ⟨g, 0, none⟩) n c) n xs) {q : Nat} {x : Value} (hq : xs[q]? = some x) : w.cell? ⟨g, q, none⟩ = some x := by
  have := h.cells (g := g) rfl q x hq
  rw [Addr.add_lit, Nat.zero_add] at this
  exact this
theorem row_frozen {B n c g : Nat} {e : TypeId} {w : World} {xs : List Value} (h : w.ownsRow B e 1 (.slice (some ⟨g, 0, none⟩) n c) n xs) (i : Nat) : w.frozen? ⟨g, i, none⟩ = false := by
  rcases h.2 with ⟨e, _⟩ | ⟨g', cap, cur, e, _, hh, _⟩
  · cases e
  · injection e with e1 _ _
    injection e1 with e1
    injection e1 with e1
    subst e1
    simp [World.frozen?, hh]
/-- The marks behind k places: the one that was taken is marked once it is passed. -/
def marks (L : List (Nat × Bool)) (q i k : Nat) : List (Nat × Bool) := if q < k then L.set q (i, true) else L
theorem marks_len {L : List (Nat × Bool)} {q i k : Nat} : (marks L q i k).length = L.length := by unfold marks; split <;> simp
theorem marks_next {L : List (Nat × Bool)} {q i k : Nat} (h : k ≠ q) : marks L q i (k + 1) = marks L q i k := by
  unfold marks
  by_cases e : q < k
  · rw [if_pos e, if_pos (by omega)]
  · rw [if_neg e, if_neg (by omega)]
theorem marks_end {L : List (Nat × Bool)} {q i k : Nat} (h : q < k) : marks L q i k = L.set q (i, true) := if_pos h
section
variable {w v v' : World} {g j : Nat} {V U : Value} {L : List (Nat × Bool)} {q : Int}
theorem On.mark {qx i k : Nat} (h : On w v g V U L q j) (hq : L[qx]? = some (i, false)) (hl : live (L.set qx (i, true)) = (live L).eraseIdx k) (hb : BagAt (SO g V U) v' g ((live L).eraseIdx k) (L.length : Int) q) (hV : v'.ownsRow w.heap.size 9 1 V L.length (L.map fun x => nmV x.1)) (hU : v'.ownsRow w.heap.size 4 1 U L.length ((L.set qx (i, true)).map fun x => .bool x.2)) (hx : Below w.heap.size w v') :
    On w v' g V U (L.set qx (i, true)) q (j + 1) := by
  have hs := h.sound.erase k
  have e : (L.set qx (i, true)).length = L.length := List.length_set
  have e1 : ((L.set qx (i, true)).map fun x => nmV x.1) = L.map fun x => nmV x.1 := by
    have := set_fst hq true
    have h2 := congrArg (List.map nmV) this
    rwa [List.map_map, List.map_map] at h2
  refine ⟨by rw [hl, e]; exact hb, by rw [hl, e]; exact hs.mono (Nat.le_succ j), ⟨by rw [e, e1]; exact hV, by rw [e]; exact hU⟩, (h.rise.set hq true).mono (Nat.le_succ j), h.vg, h.gl, hx⟩
end
end Go.Proofs.Ytnjgefpgpbodpaa
