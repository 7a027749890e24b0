/- The library's calls on lists of numbers, as the package uses them: laid in order, one of each run, those that a function tells struck. -/
import Derived.Test.YtpfljooceppcbaaDoorPtTree
import Derived.Test.YtpfljooceppcbaaDoorShelf
import Derived.Sort.OwnSortedInts
import Derived.Lib.OwnBridge
import Derived.Lib.SliceRun
import Derived.Shelf.Abstract
namespace Go.Proofs.YtpfljooceppcbaaDoor
open Go.RowKit Go.Sort Go.Shelf
open SE (Ent)
set_option linter.unusedVariables false
set_option maxRecDepth 100000
/-- A row that starts its block, of numbers. -/
def RowI (B : Nat) (w : World) (xs : List Int) (v : Value) : Prop := w.ownsRow B 3 1 v xs.length (i64s xs)
theorem RowI.from {B C : Nat} {w : World} {xs : List Int} {v : Value} (h : RowI B w xs v) (hb : C ≤ B) : RowI C w xs v := by
  refine ⟨h.1, ?_⟩
  rcases h.2 with h0 | ⟨g, cap, cur, e1, h1, hr⟩
  · exact .inl h0
  · exact .inr ⟨g, cap, cur, e1, Nat.le_trans hb h1, hr⟩
theorem RowI.shape {B : Nat} {w : World} {xs : List Int} {v : Value} (h : RowI B w xs v) : (v = .slice none 0 0 ∧ xs = []) ∨ ∃ g c, v = .slice (some ⟨g, 0, none⟩) xs.length c ∧ B ≤ g ∧ g < w.heap.size ∧ xs.length ≤ c ∧ c ≤ 9223372036854775807 := by
  rcases h.2 with ⟨e, h0⟩ | ⟨g, cap, cur, e, hb, hh, h1, h2, _⟩
  · exact .inl ⟨e, List.eq_nil_of_length_eq_zero h0⟩
  · exact .inr ⟨g, cap, e, hb, (Array.getElem?_eq_some_iff.1 hh).1, h1, by unfold maxLen at h2; omega⟩
theorem rise_merge (xs : List Int) : (xs.mergeSort fun x y => decide (x ≤ y)) = SE.rise xs := by
  refine SE.rise_eq ?_ (List.mergeSort_perm _ _)
  have h := List.pairwise_mergeSort (le := fun x y : Int => decide (x ≤ y)) (fun a b c h1 h2 => by simp only [decide_eq_true_eq] at *; omega) (fun a b => by simp only [Bool.or_eq_true, decide_eq_true_eq]; omega) xs
  exact h.imp (fun h => by simpa using h)
theorem i64s_map (xs : List Int) : xs.map (Value.int .i64) = i64s xs := rfl
/-- slices.Sort. -/
theorem Sort_row {B : Nat} {w : World} {xs : List Int} {v : Value} (h : RowI B w xs v) (hl : xs.length ≤ 1048576) :
    Calls Tryd.prog 29 #[v] w fun e w' => e = .returned (.tuple #[]) ∧ RowI B w' (SE.rise xs) v ∧ w.grownBy w' v.ownBlock := by
  rcases h.shape with ⟨rfl, rfl⟩ | ⟨g, c, rfl, hb, hg, hc, hc2⟩
  · refine (Tryd.slices_Sort_int_none none 0 w).mono ?_
    rintro e w' ⟨rfl, rfl⟩
    exact ⟨rfl, h, ⟨rfl, rfl, rfl, Nat.le_refl _, fun _ _ _ => rfl⟩⟩
  · have hH : Holds (Value.int .i64) w g 0 xs.toArray := by
      obtain ⟨g', cap', e, _, _, _, _, _, hh⟩ := Lib.holds_of_ownsRow (enc := Value.int .i64) (zs := xs) h (by simp)
      injection e with e1 _ _
      injection e1 with e1
      injection e1 with e1
      subst e1
      exact hh
    refine (Tryd.slices_Sort_int g 0 c xs w hH hg (by omega)).mono ?_
    rintro e w' ⟨rfl, n, os, rfl⟩
    rw [rise_merge]
    refine ⟨rfl, ?_, grownBy_sortedI _⟩
    obtain ⟨_, cap, cur, e, h1, h2, h3, h4, h5, h6⟩ := (h.2.resolve_left (by simp))
    injection e with e1 _ e3
    injection e1 with e1
    injection e1 with e1
    subst e1
    subst e3
    have := ownsRow_sortedI (n := n) (os := os) (ss := xs) (ts := SE.rise xs) (SE.rise_len xs) h1 h2 h3 h4 (by simpa using h5)
    unfold RowI
    rw [SE.rise_len]
    exact this
/-! ### Of a rising list one of each -/
def climbs (l : List Int) : Prop := l.Pairwise (· < ·)
theorem compactUpTo_rises {l : List Int} (h : SE.Rises l) : ∀ m, m ≤ l.length → climbs (Lib.compactUpTo l.toArray m) ∧ (∀ x, x ∈ Lib.compactUpTo l.toArray m ↔ ∃ j, j < m ∧ l[j]? = some x)
  | 0, _ => ⟨List.Pairwise.nil, fun x => by simp [Lib.compactUpTo]⟩
  | m + 1, hm => by
    obtain ⟨h1, h2⟩ := compactUpTo_rises h m (by omega)
    have hget : ∀ j (hj : j < l.length), l.toArray[j]! = l[j] := fun j hj => by simp [hj]
    have hle : ∀ i j (hi : i < l.length) (hj : j < l.length), i ≤ j → l[i] ≤ l[j] := fun i j hi hj hij => by
      by_cases e : i = j
      · subst e; exact Int.le_refl _
      · exact List.pairwise_iff_getElem.1 h i j hi hj (by omega)
    rw [Lib.compactUpTo_succ]
    cases hk : Lib.keeps l.toArray m with
    | true =>
      rw [if_pos rfl, hget m (by omega)]
      have hk' : m = 0 ∨ l.toArray[m]! ≠ l.toArray[m - 1]! := by simpa [Lib.keeps] using hk
      refine ⟨List.pairwise_append.2 ⟨h1, List.pairwise_singleton _ _, fun a ha b hb => ?_⟩, fun x => ?_⟩
      · rw [List.mem_singleton] at hb
        subst hb
        obtain ⟨j, hj, e⟩ := (h2 a).1 ha
        have hj2 : l[j]'(by omega) = a := by rw [List.getElem?_eq_getElem (by omega)] at e; exact Option.some.inj e
        rcases hk' with h0 | h0
        · omega
        · rw [hget m (by omega), hget (m - 1) (by omega)] at h0
          have a1 := hle j (m - 1) (by omega) (by omega) (by omega)
          have a2 := hle (m - 1) m (by omega) (by omega) (by omega)
          omega
      · rw [List.mem_append, h2 x, List.mem_singleton]
        constructor
        · rintro (⟨j, hj, e⟩ | e)
          · exact ⟨j, by omega, e⟩
          · exact ⟨m, by omega, by rw [List.getElem?_eq_getElem (by omega), e]⟩
        · rintro ⟨j, hj, e⟩
          by_cases hjm : j = m
          · right
            subst hjm
            rw [List.getElem?_eq_getElem (by omega)] at e
            exact (Option.some.inj e).symm
          · exact .inl ⟨j, by omega, e⟩
    | false =>
      rw [if_neg (by decide), List.append_nil]
      have hk' : ¬ (m = 0 ∨ l.toArray[m]! ≠ l.toArray[m - 1]!) := by simpa [Lib.keeps] using hk
      have h0 : m ≠ 0 := fun e => hk' (.inl e)
      have h3 : l[m]'(by omega) = l[m - 1]'(by omega) := by
        have : l.toArray[m]! = l.toArray[m - 1]! := by
          refine Classical.byContradiction fun e => hk' (.inr e)
        rwa [hget m (by omega), hget (m - 1) (by omega)] at this
      refine ⟨h1, fun x => ?_⟩
      rw [h2 x]
      constructor
      · rintro ⟨j, hj, e⟩
        exact ⟨j, by omega, e⟩
      · rintro ⟨j, hj, e⟩
        by_cases hjm : j = m
        · subst hjm
          refine ⟨j - 1, by omega, ?_⟩
          rw [List.getElem?_eq_getElem (by omega)] at e ⊢
          rw [← e, h3]
        · exact ⟨j, by omega, e⟩
theorem compact_climbs {l : List Int} (h : SE.Rises l) : climbs (Lib.compact l) := (compactUpTo_rises h l.length (Nat.le_refl _)).1
theorem compact_mem {l : List Int} (h : SE.Rises l) {x : Int} : x ∈ Lib.compact l ↔ x ∈ l := by
  have := (compactUpTo_rises h l.length (Nat.le_refl _)).2 x
  unfold Lib.compact
  rw [this]
  constructor
  · rintro ⟨j, hj, e⟩
    exact List.mem_of_getElem? e
  · intro hx
    obtain ⟨j, hj⟩ := List.getElem?_of_mem hx
    exact ⟨j, (List.getElem?_eq_some_iff.1 hj).1, hj⟩
/-- slices.Compact. -/
theorem Compact_row {B : Nat} {w : World} {xs : List Int} {A : Option Addr} {c : Nat} (h : RowI B w xs (.slice A xs.length c)) (hl : xs.length ≤ 1048576) :
    Calls Tryd.prog 30 #[.slice A xs.length c] w fun e w' => e = .returned (.slice A (Lib.compact xs).length c) ∧ RowI B w' (Lib.compact xs) (.slice A (Lib.compact xs).length c) ∧ w.grownBy w' (Value.slice A xs.length c).ownBlock := by
  rcases h.shape with ⟨e, e2⟩ | ⟨g, c', e, hb, hg, hc, hc2⟩
  · subst e2
    injection e with e1 _ e3
    subst e1
    subst e3
    refine (Tryd.slices_Compact_int_empty none 0 w).mono ?_
    rintro e w' ⟨rfl, rfl⟩
    exact ⟨rfl, h, ⟨rfl, rfl, rfl, Nat.le_refl _, fun _ _ _ => rfl⟩⟩
  · injection e with e1 _ e3
    subst e1
    subst e3
    have hH : Holds (Value.int .i64) w g 0 xs.toArray := by
      obtain ⟨g', cap', e, _, _, _, _, _, hh⟩ := Lib.holds_of_ownsRow (enc := Value.int .i64) (zs := xs) h (by simp)
      injection e with e1 _ _
      injection e1 with e1
      injection e1 with e1
      subst e1
      exact hh
    have hcl := Lib.compact_length_le xs
    refine (Tryd.slices_Compact_int g 0 c xs w hH (by omega) hc).mono ?_
    rintro e w' ⟨rfl, q, rfl⟩
    refine ⟨rfl, ?_, ?_⟩
    · have := Lib.ownsRow_putRow (q := q) (k := (Lib.compact xs).length) (zs := xs) (ys := Lib.compact xs ++ List.replicate (xs.length - (Lib.compact xs).length) 0) h (by simp; omega) hcl
      rw [List.take_left] at this
      exact this
    · have := grownBy_sortedI (w := w) (g := g) (n := q) (os := #[]) (Lib.compact xs ++ List.replicate (xs.length - (Lib.compact xs).length) 0).toArray
      rwa [grow_empty] at this
/-! ### Those that a function tells -/
/-- What a function value tells of these numbers, in these worlds: it may lay new blocks. -/
def Tells (g : Nat) (lb : Array Value) (f : Int → Bool) (xs : List Int) (K : World → Prop) : Prop :=
  ∀ x ∈ xs, ∀ W, K W → Calls Tryd.prog g (#[.int .i64 x] ++ lb) W fun e W' => e = .returned (.bool (f x)) ∧ Below W.heap.size W W'
theorem Tells.mono {g : Nat} {lb : Array Value} {f : Int → Bool} {xs : List Int} {K K' : World → Prop} (h : Tells g lb f xs K) (hk : ∀ W, K' W → K W) : Tells g lb f xs K' := fun x hx W hW => h x hx W (hk W hW)
/-- Where the first stands that is told; -1 if there is none. -/
def hit (f : Int → Bool) (xs : List Int) : Int := match xs.findIdx? f with
  | some i => (i : Int)
  | none => -1
theorem hit_some {f : Int → Bool} {xs : List Int} {k : Nat} (hk : k < xs.length) (h : f xs[k] = true) (hn : ∀ j (hj : j < k), f (xs[j]'(by omega)) = false) : hit f xs = (k : Int) := by
  have e : xs.findIdx? f = some k := List.findIdx?_eq_some_iff_getElem.2 ⟨hk, h, fun j hj => by rw [hn j hj]; decide⟩
  unfold hit
  rw [e]
theorem hit_none {f : Int → Bool} {xs : List Int} (h : ∀ j (hj : j < xs.length), f xs[j] = false) : hit f xs = -1 := by
  have e : xs.findIdx? f = none := List.findIdx?_eq_none_iff.2 fun x hx => by
    obtain ⟨j, hj, rfl⟩ := List.getElem_of_mem hx
    exact h j hj
  unfold hit
  rw [e]
theorem hit_cases (f : Int → Bool) (xs : List Int) : (hit f xs = -1 ∧ ∀ x ∈ xs, f x = false) ∨ ∃ k, ∃ hk : k < xs.length, hit f xs = (k : Int) ∧ f xs[k] = true ∧ ∀ j (hj : j < k), f (xs[j]'(by omega)) = false := by
  unfold hit
  cases e : xs.findIdx? f with
  | none => exact .inl ⟨rfl, fun x hx => by simpa using List.findIdx?_eq_none_iff.1 e x hx⟩
  | some k =>
    obtain ⟨hk, h1, h2⟩ := List.findIdx?_eq_some_iff_getElem.1 e
    exact .inr ⟨k, hk, rfl, h1, fun j hj => by simpa using h2 j hj⟩
set_option maxHeartbeats 2000000 in
theorem IndexFunc_row (g : Nat) (lb : Array Value) (f : Int → Bool) (eg : ∀ args w, (callFunc g args).run Tryd.prog w = .ok (.enter g args) w) (xs : List Int) (A : Option Addr) (c : Nat) (w : World) (hA : IntsAt w A xs) (hl : xs.length ≤ c) (hc : c ≤ 9223372036854775807) (hp : Tells g lb f xs (fun W => Below w.heap.size w W)) :
    Calls Tryd.prog 48 #[.slice A xs.length c, .func (.func g) #[] lb] w fun e w' => e = .returned (.int .i64 (hit f xs)) ∧ Below w.heap.size w w' := by
  have HA := Lib.hid hA; have HP := Lib.hid hp
  clear hA hp
  go_enter Tryd.func48, Tryd.ntmps48
  go_wp2_with fail
  go_loopw [5, 8] (fun _ i wr => ∃ k : Nat, i = .int .i64 (k : Int) ∧ k ≤ xs.length ∧ Hid (Below w.heap.size w wr) ∧ Hid (∀ j (hj : j < xs.length), j < k → f xs[j] = false)) (fun _ i _ => xs.length - (intOf i).toNat)
  case atStart => exact ⟨0, rfl, Nat.zero_le _, Lib.hid (Below.refl _ _), Lib.hid (fun j _ hj => absurd hj (Nat.not_lt_zero _))⟩
  case round =>
    obtain ⟨k, rfl, hk, HB, HN⟩ := hrel
    by_cases hlt : k < xs.length
    · obtain ⟨b, o, eA, hb, hca⟩ := HA.out (by omega)
      subst eA
      have hcell : wr.cell? ⟨b, o + k, none⟩ = some (.int .i64 xs[k]) := (HB.out.cell (p := ⟨b, o + k, none⟩) hb).trans (hca k xs[k] (List.getElem?_eq_getElem hlt))
      have hcall := HP.out xs[k] (List.getElem_mem hlt) wr HB.out
      have HS := Lib.hid (fun h => hit_some (f := f) hlt h (fun j hj => HN.out j (by omega) hj))
      have HX := Lib.hid (fun (h : f xs[k] = false) j (hj : j < xs.length) (hjk : j < k + 1) => (show f xs[j] = false from if e : j = k then by subst e; exact h else HN.out j hj (by omega)))
      clear hca
      generalize xs[k] = x at hcell hcall HS HX
      cases hq : f x with
      | true =>
        rw [hq] at hcall
        have HH := Lib.hid (HS.out hq)
        have HC := Lib.hid hcall
        clear hcall hq HX HS
        go_wp2_with (go_at_fn g; refine HC.out.mono ?_; rintro e w' ⟨rfl, hb'⟩; have HB' := Lib.hid hb'; clear hb')
        go_ret
        exact ⟨ret_int HH.out.symm, below_on HB.out HB'.out⟩
      | false =>
        rw [hq] at hcall
        have HX' := Lib.hid (HX.out hq)
        have HC := Lib.hid hcall
        clear hcall hq HX HS
        go_wp2_with (go_at_fn g; refine HC.out.mono ?_; rintro e w' ⟨rfl, hb'⟩; have HB' := Lib.hid hb'; clear hb')
        go_roundw
        case rel => exact ⟨k + 1, rfl, by omega, Lib.hid (below_on HB.out HB'.out), HX'⟩
        case measure => simp only [intOf]; omega
    · have HE := Lib.hid (hit_none (f := f) (xs := xs) (fun j hj => HN.out j hj (by omega)))
      go_wp2_with fail
      go_ret
      exact ⟨ret_int HE.out.symm, HB.out⟩
theorem row_frozen {B n c g : Nat} {w : World} {xs : List Value} (h : w.ownsRow B 3 1 (.slice (some ⟨g, 0, none⟩) n c) n xs) (i : Nat) : w.frozen? ⟨g, i, none⟩ = false := by
  rcases h.2 with ⟨e, _⟩ | ⟨g', cap, cur, e, _, hh, _⟩
  · cases e
  · injection e with e1 _ _
    injection e1 with e1
    injection e1 with e1
    subst e1
    simp [World.frozen?, hh]
theorem row_cut {B n c g k : Nat} {w : World} {xs : List Value} (h : w.ownsRow B 3 1 (.slice (some ⟨g, 0, none⟩) n c) n xs) (hk : k ≤ n) : w.ownsRow B 3 1 (.slice (some ⟨g, 0, none⟩) k c) k (xs.take k) := by
  have hl := h.1
  refine ⟨by rw [List.length_take]; omega, ?_⟩
  rcases h.2 with ⟨e, _⟩ | ⟨g', cap, cur, e, hb, hh, h1, h2, h3, h4⟩
  · cases e
  · injection e with e1 _ e3
    subst e3
    injection e1 with e1
    injection e1 with e1
    subst e1
    exact .inr ⟨g, c, cur, rfl, hb, hh, by omega, h2, h3, by rw [← h4, List.take_take]; congr 1; omega⟩
theorem row_beyond {B n c g i : Nat} {w : World} {xs : List Value} (h : w.ownsRow B 3 1 (.slice (some ⟨g, 0, none⟩) n c) n xs) (hi : n ≤ i) (u : Value) : (w.setCell ⟨g, i, none⟩ u).ownsRow B 3 1 (.slice (some ⟨g, 0, none⟩) n c) n xs := by
  have := (h.stored i u).1
  rwa [List.set_eq_of_length_le (by have := h.1; omega)] at this
theorem row_beyonds {B n c g : Nat} {xs : List Value} : ∀ (vs : List Value) (i : Nat) (w : World), w.ownsRow B 3 1 (.slice (some ⟨g, 0, none⟩) n c) n xs → n ≤ i → (w.setCells g i vs).ownsRow B 3 1 (.slice (some ⟨g, 0, none⟩) n c) n xs
  | [], _, _, h, _ => h
  | v :: r, i, w, h, hi => row_beyonds r (i + 1) _ (row_beyond h hi v) (by omega)
theorem mod_cells {F : List Nat} {g : Nat} (hg : g ∈ F) : ∀ (vs : List Value) (i : Nat) (a w : World), Mod F a w → Mod F a (w.setCells g i vs)
  | [], _, _, _, h => h
  | v :: r, i, a, w, h => mod_cells hg r (i + 1) a _ (h.store (.inl hg) v)
set_option maxHeartbeats 4000000 in
theorem DeleteFunc_row (g : Nat) (lb : Array Value) (f : Int → Bool) (eg : ∀ args w, (callFunc g args).run Tryd.prog w = .ok (.enter g args) w) {B : Nat} {w : World} {xs : List Int} {A : Option Addr} {c : Nat} (h : RowI B w xs (.slice A xs.length c)) (hp : Tells g lb f xs (fun W => Mod (Value.slice A xs.length c).ownBlock.toList w W)) :
    Calls Tryd.prog 31 #[.slice A xs.length c, .func (.func g) #[] lb] w fun e w' => e = .returned (.slice A (xs.filter fun x => !f x).length c) ∧ RowI B w' (xs.filter fun x => !f x) (.slice A (xs.filter fun x => !f x).length c) ∧ Mod (Value.slice A xs.length c).ownBlock.toList w w' := by
  have hcap : xs.length ≤ c ∧ c ≤ 9223372036854775807 := by
    obtain ⟨_, _, e, h1, h2⟩ := own_shape h
    injection e with _ _ e3
    subst e3
    exact ⟨h1, h2⟩
  have HIF := Lib.hid (IndexFunc_row g lb f eg xs A c w (IntsAt.own h) hcap.1 hcap.2 (hp.mono fun W hW => Mod.of_below hW _))
  rcases hit_cases f xs with ⟨e1, hall⟩ | ⟨k0, hk0, e1, ht, hno⟩
  · rw [e1] at HIF
    have HE := Lib.hid (show (xs.filter fun x => !f x) = xs from List.filter_eq_self.2 fun x hx => by rw [hall x hx]; rfl)
    rw [HE.out]
    have HR := Lib.hid h
    clear e1 hall hp h
    go_enter Tryd.func31, Tryd.ntmps31
    go_wp2_with fail
    refine HIF.out.mono ?_
    rintro e w' ⟨rfl, hb⟩
    have HB := Lib.hid hb; clear hb
    go_wp2_with fail
    go_ret
    exact ⟨rfl, (Mod.of_below HB.out []).own HR.out (by simp), Mod.of_below HB.out _⟩
  · rw [e1] at HIF
    rcases h.shape with ⟨_, e2⟩ | ⟨blk, c', e, hb, hg, _, _⟩
    · subst e2; simp at hk0
    injection e with e2 _ e3
    subst e2
    subst e3
    have HP := Lib.hid hp
    have HR := Lib.hid h
    have hneg : ((k0 : Int) == -1) = false := beq_eq_false_iff_ne.2 (by omega)
    have HS0 := Lib.hid (show (xs.take k0) = (xs.take (k0 + 1)).filter fun x => !f x by
      rw [List.take_add_one, List.getElem?_eq_getElem hk0, Option.toList_some, List.filter_append, List.filter_cons_of_neg (by rw [ht]; decide), List.filter_nil, List.append_nil]
      refine (List.filter_eq_self.2 fun x hx => ?_).symm
      obtain ⟨j, hj, rfl⟩ := List.getElem_of_mem hx
      rw [List.length_take] at hj
      rw [List.getElem_take, hno j (by omega)]
      rfl)
    obtain ⟨hc1, hc2⟩ := hcap
    clear hp h ht hno e1
    go_enter Tryd.func31, Tryd.ntmps31
    go_wp2_with fail
    refine HIF.out.mono ?_
    rintro e w' ⟨rfl, hb⟩
    have HB := Lib.hid hb; clear hb
    go_wp2_with fail
    go_loopw [5, 6, 7] (fun s5 s6 _ wr => ∃ (i j : Nat) (dk : List Int), s5 = .int .i64 (i : Int) ∧ s6 = .int .i64 (j : Int) ∧ i < j ∧ j ≤ xs.length ∧ Hid (dk.length = xs.length) ∧ Hid (dk.take i = (xs.take j).filter fun x => !f x) ∧ Hid (dk.drop j = xs.drop j) ∧
        Hid (wr.ownsRow B 3 1 (.slice (some ⟨blk, 0, none⟩) xs.length c) xs.length (i64s dk)) ∧ Hid (Mod [blk] w wr)) (fun _ s6 _ _ => xs.length - (intOf s6).toNat)
    case atStart => exact ⟨k0, k0 + 1, xs, rfl, by go_num, by omega, by omega, Lib.hid rfl, HS0, Lib.hid rfl, Lib.hid ((Mod.of_below HB.out []).own HR.out (by simp)), Lib.hid (Mod.of_below HB.out _)⟩
    case round =>
      obtain ⟨i, j, dk, rfl, rfl, hij, hjn, HL, HT, HD, HW, HM⟩ := hrel
      by_cases hlt : j < xs.length
      · have hjd : dk[j]? = some xs[j] := by
          have := congrArg (fun l : List Int => l[0]?) HD.out
          simpa [List.getElem?_drop, List.getElem?_eq_getElem hlt] using this
        obtain ⟨b', o', eA, _, hca⟩ := (IntsAt.own HW.out) (by rw [HL.out]; omega)
        injection eA with eA
        injection eA with eA eB
        subst eA
        subst eB
        have hcell := hca j _ hjd
        obtain ⟨y, hy⟩ : ∃ y, dk[i]? = some y := ⟨dk[i]'(by rw [HL.out]; omega), List.getElem?_eq_getElem _⟩
        have hcelli := hca i _ hy
        rw [Nat.zero_add] at hcell hcelli
        have HFR := Lib.hid (fun (W : World) (h : W.ownsRow B 3 1 (.slice (some ⟨blk, 0, none⟩) xs.length c) xs.length (i64s dk)) => row_frozen h i)
        have hcall := HP.out xs[j] (List.getElem_mem hlt) wr HM.out
        have HKEEP := Lib.hid (show f xs[j] = false → (dk.set i xs[j]).take (i + 1) = (xs.take (j + 1)).filter fun x => !f x from fun hq => by
          rw [List.take_add_one (l := xs), List.getElem?_eq_getElem hlt, Option.toList_some, List.filter_append, List.filter_cons_of_pos (by rw [hq]; rfl), List.filter_nil, ← HT.out]
          have hil : i < dk.length := by rw [HL.out]; omega
          rw [List.take_add_one, List.take_set_of_le (Nat.le_refl _), List.getElem?_set_self hil]
          rfl)
        have HSKIP := Lib.hid (show f xs[j] = true → dk.take i = (xs.take (j + 1)).filter fun x => !f x from fun hq => by
          rw [List.take_add_one (l := xs), List.getElem?_eq_getElem hlt, Option.toList_some, List.filter_append, List.filter_cons_of_neg (by rw [hq]; decide), List.filter_nil, List.append_nil]
          exact HT.out)
        have HD1 := Lib.hid (show dk.drop (j + 1) = xs.drop (j + 1) from by rw [← List.drop_drop, ← List.drop_drop, HD.out])
        have HD2 := Lib.hid (show ∀ x, (dk.set i x).drop (j + 1) = xs.drop (j + 1) from fun x => by rw [List.drop_set_of_lt (by omega)]; exact HD1.out)
        clear hca hjd hy
        generalize xs[j] = x at hcell hcall HKEEP HSKIP
        cases hq : f x with
        | true =>
          rw [hq] at hcall
          have HT1 := Lib.hid (HSKIP.out hq)
          have HC := Lib.hid hcall
          clear hcall hq HKEEP HSKIP
          go_wp2_with (go_at_fn g; refine HC.out.mono ?_; rintro e w' ⟨rfl, hb'⟩; have HB' := Lib.hid hb'; clear hb')
          go_roundw
          case rel => exact ⟨i, j + 1, dk, rfl, by go_num, by omega, by omega, HL, HT1, HD1, Lib.hid ((Mod.of_below HB'.out []).own HW.out (by simp)), Lib.hid (HM.out.trans (Mod.of_below HB'.out []) (by simp))⟩
          case measure => simp only [intOf]; omega
        | false =>
          rw [hq] at hcall
          have HT1 := Lib.hid (HKEEP.out hq)
          have HC := Lib.hid hcall
          clear hcall hq HKEEP HSKIP
          have HCI := Lib.hid hcelli; clear hcelli
          have HGB := Lib.hid (show blk < wr.heap.size from Nat.lt_of_lt_of_le hg HM.out.size)
          go_wp2_with (go_at_fn g; refine HC.out.mono ?_; rintro e w' ⟨rfl, hb'⟩; have HB' := Lib.hid hb'; clear hb'; have HW' := Lib.hid ((Mod.of_below HB'.out []).own HW.out (by simp)); have hci := (HB'.out.cell (p := ⟨blk, i, none⟩) HGB.out).trans HCI.out; have hfi := HFR.out w' HW'.out)
          go_roundw
          case rel =>
            refine ⟨i + 1, j + 1, dk.set i x, by go_num, by go_num, by omega, by omega, Lib.hid (by rw [List.length_set]; exact HL.out), HT1, Lib.hid (HD2.out x), Lib.hid ?_, Lib.hid ?_⟩
            · have := (HW'.out.stored i (.int .i64 x)).1
              have e2 : (i64s dk).set i (.int .i64 x) = i64s (dk.set i x) := by
                unfold i64s
                rw [List.map_set]
                rfl
              rw [e2] at this
              exact this
            · exact (HM.out.trans (Mod.of_below HB'.out []) (by simp)).store (.inl (by simp)) _
          case measure => simp only [intOf]; omega
      · have hjx : j = xs.length := by omega
        subst hjx
        have hil : i < xs.length := hij
        have HF := Lib.hid (show (xs.filter fun x => !f x) = dk.take i by rw [HT.out, List.take_length])
        have HLI := Lib.hid (show (dk.take i).length = i by rw [List.length_take, HL.out]; omega)
        have HCL := Lib.hid (show ∀ ty, (Builtin.clear_ #[36] ty #[.slice (some ⟨blk, i, none⟩) (xs.length - i) (c - i)]).run Tryd.prog wr = .ok (.tuple #[]) (wr.setCells blk i (List.replicate (xs.length - i) (.int .i64 0))) from fun ty =>
          Lib.run_clear_slice wr _ _ ty _ Tryd.underlying36 Tryd.zeroValue3 rfl rfl blk i _ _ (by omega)
            (fun t ht => by
              obtain ⟨b', o', eA, _, hca⟩ := (IntsAt.own HW.out) (by rw [HL.out]; omega)
              injection eA with eA
              injection eA with eA eB
              subst eA
              subst eB
              have h1 := hca (i + t) _ (List.getElem?_eq_getElem (by rw [HL.out]; omega))
              rw [Nat.zero_add] at h1
              rw [h1]; rfl)
            (fun t ht => row_frozen HW.out _))
        have hcl := HCL.out
        go_wp2_with fail
        go_ret
        rw [HF.out, HLI.out]
        have hr := row_beyonds (List.replicate (xs.length - i) (.int .i64 0)) i wr (row_cut (k := i) HW.out (by omega)) (Nat.le_refl _)
        refine ⟨rfl, ?_, mod_cells (by simp [Value.ownBlock]) _ _ _ _ HM.out⟩
        unfold RowI
        rw [HLI.out]
        have e3 : (i64s dk).take i = i64s (dk.take i) := by unfold i64s; rw [List.map_take]
        rw [e3] at hr
        exact hr
end Go.Proofs.YtpfljooceppcbaaDoor
