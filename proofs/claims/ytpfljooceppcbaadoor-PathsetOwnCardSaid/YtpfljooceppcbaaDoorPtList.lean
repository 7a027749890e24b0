/- The package's List: all entries of a set, by path and then by number, as a list of the call's own. -/
import Derived.Test.YtpfljooceppcbaaDoorPtLess
import Derived.Sort.OwnSorted
namespace Go.Proofs.YtpfljooceppcbaaDoor
open Go.RowKit
open SE (Ent)
open Go.Sort Go.Shelf
set_option linter.unusedVariables false
set_option maxRecDepth 100000
instance entIn : Inhabited Ent := ⟨noEnt⟩
/-! ### The order -/
theorem lt_before (a b : Ent) : ltOf cfE a b = SE.before a b := by
  unfold ltOf cfE SE.before
  by_cases h : PM.cmp (SE.p a) (SE.p b) = 0
  · rw [if_neg (by simp [h])]
    rw [h]
    unfold Lib.compareInt
    by_cases h1 : a.id < b.id
    · simp [h1]
    · by_cases h2 : b.id < a.id <;> simp [h1, h2]
  · rw [if_pos h]
    simp [h]
theorem before_no_iff {a b : Ent} : SE.before a b = false ↔ 0 ≤ PM.cmp (SE.p a) (SE.p b) ∧ (PM.cmp (SE.p a) (SE.p b) = 0 → b.id ≤ a.id) := by
  unfold SE.before
  simp only [Bool.or_eq_false_iff, Bool.and_eq_false_iff, decide_eq_false_iff_not]
  constructor
  · rintro ⟨h1, h2⟩
    exact ⟨by omega, fun h => by rcases h2 with h2 | h2; exact absurd h h2; omega⟩
  · rintro ⟨h1, h2⟩
    refine ⟨by omega, ?_⟩
    by_cases h : PM.cmp (SE.p a) (SE.p b) = 0
    · right; have := h2 h; omega
    · exact .inl h
theorem swo_before : SWO (ltOf cfE) where
  irrefl a := by rw [lt_before]; exact SE.before_irrefl a
  trans a b c h k := by rw [lt_before] at *; exact SE.before_trans h k
  ntrans a b c h k := by
    rw [lt_before, before_no_iff] at *
    have n1 := PM.cmp_neg (SE.p a) (SE.p b)
    have n2 := PM.cmp_neg (SE.p b) (SE.p c)
    have n3 := PM.cmp_neg (SE.p a) (SE.p c)
    have t1 := PM.cmp_trans (SE.p c) (SE.p b) (SE.p a) (by omega) (by omega)
    refine ⟨by omega, fun h0 => ?_⟩
    have t2 := PM.cmp_trans (SE.p a) (SE.p c) (SE.p b) (by omega) (by omega)
    have t3 := PM.cmp_trans (SE.p b) (SE.p a) (SE.p c) (by omega) (by omega)
    have h1 := h.2 (by omega)
    have h2 := k.2 (by omega)
    omega
theorem rises_of {d' : Array Ent} (hi : (d'.toList.map (·.id)).Nodup) (hs : SortedIn (ltOf cfE) 0 d'.size d') : d'.toList.Pairwise (fun a b => SE.before a b = true) := by
  rw [List.pairwise_iff_getElem]
  intro i j hi' hj hij
  have hi2 : i < d'.size := by simpa using hi'
  have hj2 : j < d'.size := by simpa using hj
  have h := hs i j (Nat.zero_le _) hij hj2
  rw [lt_before, getElem!_pos d' j hj2, getElem!_pos d' i hi2] at h
  have hne : d'[i].id ≠ d'[j].id := fun e => by
    have h1 : (d'.toList.map (·.id))[i]'(by simpa using hi2) = (d'.toList.map (·.id))[j]'(by simpa using hj2) := by
      rw [List.getElem_map, List.getElem_map]
      simpa using e
    have := (List.getElem_inj hi).1 h1
    omega
  rw [Array.getElem_toList, Array.getElem_toList]
  rcases SE.before_total hne with h1 | h1
  · exact h1
  · rw [h] at h1; cases h1
/-! ### Entries as a row -/
theorem flat_ents (xs : List Ent) : (flatK four 4 xs.toArray).toList = ents xs := by
  apply List.ext_getElem?
  intro t
  by_cases ht : t < xs.length * 4
  · have hj : t / 4 < xs.length := by omega
    obtain ⟨h0, h1, h2, h3⟩ := ents_at (List.getElem?_eq_getElem hj)
    have e1 : (flatK four 4 xs.toArray).toList[t]? = some ((four xs[t / 4])[t % 4]!) := by
      have hs : t < (flatK four 4 xs.toArray).size := by rw [size_flatK]; simpa using ht
      have := get_flatK four 4 xs.toArray t (by simpa using ht)
      rw [getElem!_pos _ t hs] at this
      rw [Array.getElem?_toList, Array.getElem?_eq_getElem hs, this]
      rw [getElem!_pos xs.toArray (t / 4) (by simpa using hj)]
      simp
    rw [e1]
    have hm : t % 4 = 0 ∨ t % 4 = 1 ∨ t % 4 = 2 ∨ t % 4 = 3 := by omega
    rcases hm with h | h | h | h
    · rw [h]; rw [show t / 4 * 4 = t by omega] at h0; rw [h0]; rfl
    · rw [h]; rw [show t / 4 * 4 + 1 = t by omega] at h1; rw [h1]; rfl
    · rw [h]; rw [show t / 4 * 4 + 2 = t by omega] at h2; rw [h2]; rfl
    · rw [h]; rw [show t / 4 * 4 + 3 = t by omega] at h3; rw [h3]; rfl
  · rw [List.getElem?_eq_none (by rw [Array.length_toList, size_flatK]; simpa using ht), List.getElem?_eq_none (by rw [ents_len]; omega)]
theorem holds_ents {w : World} {g : Nat} {cur : Array Value} {e : TypeId} {xs : List Ent} (hb : w.heap[g]? = some (.cells cur e (0, 0))) (ht : cur.toList.take (xs.length * 4) = ents xs) : HoldsK four 4 w g 0 xs.toArray := by
  intro j hj
  have hj' : j < xs.length * 4 := by simpa using hj
  have hjs : j < (flatK four 4 xs.toArray).size := hj
  refine ⟨?_, by simp [World.frozen?, hb]⟩
  have h1 : (cur.toList.take (xs.length * 4))[j]? = (flatK four 4 xs.toArray).toList[j]? := by rw [ht, flat_ents]
  rw [List.getElem?_take_of_lt hj', Array.getElem?_toList, Array.getElem?_toList, Array.getElem?_eq_getElem hjs] at h1
  rw [cell_of_row w g (0 + j) cur _ (0, 0) hb, Nat.zero_add, h1, getElem!_pos _ j hjs]
  rfl
theorem row_sorted {w : World} {g n : Nat} {os : Array Obj} (F : Array Value) : w.grownBy (grow (putRow id (Sort.ahead w n) g 0 F) os) (some g) := by
  refine ⟨rfl, rfl, rfl, by simp, fun k hk hne => ?_⟩
  rw [heap_grow_old _ _ (by simpa using hk)]
  have : g ≠ k := fun e => hne (by rw [e])
  simp [putRow, mapBlock, Sort.ahead, Array.getElem?_modify, this]
theorem own_sorted {w : World} {base g cap n : Nat} {e : TypeId} {os : Array Obj} {cur : Array Value} {xs ys : List Ent} (hl : ys.length = xs.length) (hbase : base ≤ g) (hb : w.heap[g]? = some (.cells cur e (0, 0)))
    (h1 : xs.length ≤ cap) (h2 : cap ≤ maxLen) (h3 : cur.size = cap * 4) :
    (sortWorldK four 4 w g 0 n ys.toArray os).ownsRow base e 4 (.slice (some ⟨g, 0, none⟩) xs.length cap) xs.length (ents ys) := by
  have hg : g < w.heap.size := (Array.getElem?_eq_some_iff.1 hb).1
  refine ⟨by rw [ents_len, hl], .inr ⟨g, cap, putCells id 0 (flatK four 4 ys.toArray) cur, rfl, hbase, ?_, h1, h2, by simp [putCells, h3], ?_⟩⟩
  · unfold sortWorldK putRowK
    rw [heap_grow_old _ _ (by simpa using hg)]
    simp [putRow, mapBlock, Sort.ahead, Array.getElem?_modify, hb, onCells]
  · rw [← hl, ← flat_ents ys]
    apply List.ext_getElem?
    intro j
    have hsz : (flatK four 4 ys.toArray).size = ys.length * 4 := by rw [size_flatK]; simp
    by_cases hj : j < ys.length * 4
    · rw [List.getElem?_take_of_lt hj, Array.getElem?_toList, Array.getElem?_toList]
      have hc : j < cur.size := by rw [h3]; omega
      simp [putCells, hsz, hj, hc]
    · rw [List.getElem?_take_eq_none (by omega), List.getElem?_eq_none (by rw [Array.length_toList, hsz]; omega)]
/-! ### The calls -/
theorem less_lays (g off n : Nat) (w : World) : CmpLays Tryd.prog 24 #[] four 4 cfE g off n w := fun m os dk _ x y => less_any x y _
theorem perm_in {d d' : Array Ent} (h : PermIn 0 d.size d d') : d'.toList.Perm d.toList := by
  obtain ⟨h1, _, h3⟩ := h
  have e1 : d'.extract 0 d.size = d' := by rw [← h1]; simp
  have e2 : d.extract 0 d.size = d := by simp
  rw [e1, e2] at h3
  exact h3
theorem SortFunc_row {B cap g : Nat} {w : World} {xs L : List Ent} (hL : SE.Inv L) (hp : xs.Perm L) (hv : w.ownsRow B 25 4 (.slice (some ⟨g, 0, none⟩) xs.length cap) xs.length (ents xs)) :
    Calls Tryd.prog 41 #[.slice (some ⟨g, 0, none⟩) xs.length cap, .func (.func 24) #[] #[]] w fun e w' => e = .returned (.tuple #[]) ∧
      w'.ownsRow B 25 4 (.slice (some ⟨g, 0, none⟩) xs.length cap) xs.length (ents L) ∧ w.grownBy w' (some g) := by
  obtain ⟨_, cap', cur, e, h1, h2, h3, h4, h5, h6⟩ := (hv.2.resolve_left (by simp))
  injection e with e1 _ e3
  injection e1 with e1
  injection e1 with e1
  subst e1
  subst e3
  have hlen : xs.length ≤ 64 := by rw [hp.length_eq]; exact hL.len
  have hH : HoldsK four 4 w g 0 xs.toArray := holds_ents h2 h6
  have hg : g < w.heap.size := (Array.getElem?_eq_some_iff.1 h2).1
  have hcon := AnyQ.slices_SortFunc Tryd.sortfunc 4 Tryd.isAgg25 Tryd.sizeOf25 four (fun _ => rfl) (fun x v hv => one_ent (l := [x]) v (by unfold ents; simpa using hv)) cfE swo_before 24 #[] g 0 cap xs.toArray w (enters_of Tryd.func24 (by kernel_rfl) rfl) (less_lays g 0 _ w) hH hg (by simp; omega)
  change Calls Tryd.prog 41 _ _ _ at hcon
  refine hcon.mono ?_
  rintro e w' ⟨rfl, d', n, os, hpm, hso, rfl⟩
  have hp2 : d'.toList.Perm L := (perm_in hpm).trans hp
  have hs2 : d'.size = xs.length := by have := (perm_in hpm).length_eq; simpa using this
  have hids : (d'.toList.map (·.id)).Nodup := ((hp2.map (·.id)).nodup_iff).2 hL.ids
  have hsz : xs.toArray.size = d'.size := by simp [hs2]
  rw [hsz] at hso
  have hd : d'.toList = L := SE.same_list (rises_of hids hso) hL.rises hp2
  refine ⟨rfl, ?_, row_sorted _⟩
  have := own_sorted (n := n) (os := os) (ys := d'.toList) (xs := xs) (by simpa using hs2) h1 h2 h3 h4 h5
  rw [hd] at this
  rw [show d' = L.toArray by rw [← hd]]
  exact this
def seqOf (b : Nat) : Value := .func (.func 42) #[] #[.pointer (some ⟨b, 0, none⟩)]
def Gathered (w : World) (D : List Ent) (e : Ending) (w' : World) : Prop := ∃ v xs, e = .returned v ∧ Hid (xs.Perm D) ∧ Hid (w'.ownsRow w.heap.size 25 4 v xs.length (ents xs)) ∧ Hid (Below w.heap.size w w')
set_option maxHeartbeats 1000000 in
theorem Collect_any (Bm b : Nat) (D : List Ent) (hD : D.length ≤ 64) (w : World) (hBm : Bm < w.heap.size) (hm : w.cell? ⟨Bm, 0, none⟩ = some (.map (some b))) (hown : MapAt w b (.int .i64) (entPairs D)) :
    Calls Tryd.prog 40 #[seqOf Bm] w (Gathered w D) := by
  have HC := Lib.hid (callsIn_wide.1 (seq_in 4 (Nat.le_refl _) Bm b D hD w hBm hm hown))
  clear hm hown
  unfold seqOf
  go_enter Tryd.func40, Tryd.ntmps40
  go_wp2_with fail
  refine HC.out.mono ?_
  rintro e w' ⟨v, xs, rfl, hp, hown, hb⟩
  have HP := Lib.hid hp; have HO := Lib.hid hown; have HB := Lib.hid hb
  clear hp hown hb
  go_wp2_with fail
  go_ret
  exact ⟨v, xs, rfl, HP, HO, HB⟩
set_option maxHeartbeats 1000000 in
theorem SortedFunc_any (Bm b : Nat) (D L : List Ent) (hL : SE.Inv L) (hp : D.Perm L) (w : World) (hBm : Bm < w.heap.size) (hm : w.cell? ⟨Bm, 0, none⟩ = some (.map (some b))) (hown : MapAt w b (.int .i64) (entPairs D)) :
    Calls Tryd.prog 22 #[seqOf Bm, .func (.func 24) #[] #[]] w (OneE w L) := by
  have HC := Lib.hid (Collect_any Bm b D (by rw [hp.length_eq]; exact hL.len) w hBm hm hown)
  have HL := Lib.hid hL
  have HPm := Lib.hid hp
  clear hm hown hL hp
  unfold seqOf at *
  go_enter Tryd.func22, Tryd.ntmps22
  go_wp2_with fail
  refine HC.out.mono ?_
  rintro e w1 ⟨v, xs, rfl, HP, HO, HB⟩
  have HXL := Lib.hid (HP.out.trans HPm.out)
  have h0 := HO.out.2
  rcases h0 with ⟨rfl, h1⟩ | ⟨g, cap, cur, rfl, hg, _, hc, hc2, _⟩
  · have hx : xs = [] := List.eq_nil_of_length_eq_zero h1
    have hl : L = [] := by
      have := HXL.out.length_eq
      rw [hx] at this
      exact List.eq_nil_of_length_eq_zero this.symm
    subst hx
    subst hl
    clear h1
    have HN := Lib.hid (AnyF.slices_SortFunc_none (P := Tryd.prog) (ρ := Tryd.sortfunc_ren) Tryd.sortfunc none 0 (.func (.func 24) #[] #[]) w1)
    go_wp2_with fail
    refine HN.out.mono ?_
    rintro e w2 ⟨rfl, rfl⟩
    go_wp2_with fail
    go_ret
    exact ⟨none, 0, 0, rfl, Lib.hid rfl, Lib.hid (EntsAt.nil _ _), HO, HB, Nat.le_refl _, by omega⟩
  · have HR := Lib.hid (SortFunc_row HL.out HXL.out HO.out)
    have hlen : xs.length = L.length := HXL.out.length_eq
    have HG := Lib.hid hg
    have hc3 : cap ≤ 9223372036854775807 := by unfold maxLen at hc2; omega
    clear hc2 hg
    rw [hlen] at hc HR ⊢
    clear hlen
    go_wp2_with fail
    refine HR.out.mono ?_
    rintro e w2 ⟨rfl, hown2, hgr⟩
    have HO2 := Lib.hid hown2
    have HB2 := Lib.hid (HB.out.grown hgr HB.out.size (fun k hk => by cases hk; exact HG.out))
    clear hown2 hgr
    go_wp2_with fail
    go_ret
    exact ⟨some ⟨g, 0, none⟩, L.length, cap, rfl, Lib.hid rfl, Lib.hid (EntsAt.own HO2.out), HO2, HB2, hc, hc3⟩
section
variable {g M : Nat} {L D : List Ent} {T : Tr} {own : Owner}
set_option maxHeartbeats 1000000 in
theorem List_set (w : World) (hS : SetAt w g L T own M D) : Calls Tryd.prog 11 #[.pointer (some ⟨g, 0, none⟩)] w (OneE w L) := by
  have c0 := hS.cell0
  have HB := Lib.hid (show Below w.heap.size w (w.alloc (.cells #[.map (some M)] 45)) from (Below.refl _ w).alloc (Nat.le_refl _) _)
  have HM := Lib.hid (hS.map.below HB.out)
  have HI := Lib.hid hS.inv
  have HP := Lib.hid hS.perm
  clear hS
  go_enter Tryd.func11, Tryd.ntmps11
  go_wp2_with fail
  refine (Values_any (some M) w).mono ?_
  rintro e w1 ⟨rfl, rfl⟩
  have HS := Lib.hid (SortedFunc_any w.heap.size M D L HI.out HP.out (w.alloc (.cells #[.map (some M)] 45)) (by simp) (by go_simp) HM.out)
  unfold seqOf at HS
  clear HM
  go_wp2_with fail
  refine HS.out.mono ?_
  rintro e w2 ⟨A, n, c, rfl, h1, h2, h3, h4, h5, h6⟩
  have HB4 := Lib.hid (below_on HB.out h4.out)
  have HO := Lib.hid (show w2.ownsRow w.heap.size 25 4 (.slice A n c) n (ents L) by
    refine ⟨h3.out.1, ?_⟩
    rcases h3.out.2 with h0 | ⟨g, cap, cur, e1, k1, hr⟩
    · exact .inl h0
    · exact .inr ⟨g, cap, cur, e1, Nat.le_trans HB.out.size k1, hr⟩)
  go_wp2_with fail
  go_ret
  exact ⟨A, n, c, rfl, h1, h2, HO, HB4, h5, h6⟩
theorem List_nil (w : World) : Calls Tryd.prog 11 #[.pointer none] w (OneE w []) := by
  go_enter Tryd.func11, Tryd.ntmps11
  go_wp2_with fail
  go_ret
  exact ⟨none, 0, 0, rfl, Lib.hid rfl, Lib.hid (EntsAt.nil _ _), Lib.hid (World.ownsRow_nil _ _ _ _), Lib.hid (Below.refl _ _), Nat.le_refl _, by omega⟩
end
end Go.Proofs.YtpfljooceppcbaaDoor
