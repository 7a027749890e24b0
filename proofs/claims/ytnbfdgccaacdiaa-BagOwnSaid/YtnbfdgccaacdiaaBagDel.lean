/- slices.Delete of one packet out of a bag's array. -/
import Derived.Test.YtnbfdgccaacdiaaBagMem
import Derived.Deep.RegionLaw
import Derived.Laws.IdiomCopy
import Derived.ArgAppend
import Derived.Lib.SliceRun
namespace Go.Proofs.Ytnbfdgccaacdiaa
open Go.RowKit
open By (BytesAt u8s own_shape)
set_option linter.unusedVariables false
set_option linter.unusedSimpArgs false
set_option maxRecDepth 100000
theorem whole_cells {g : Nat} {t : TypeId} : ∀ (vs : List Value) (o : Nat) (w : World) (cs : Array Value), Whole w g t cs →
    ∃ cs', Whole (w.setCells g o vs) g t cs' ∧ cs'.size = cs.size ∧ Mod [g] w (w.setCells g o vs) ∧ ∀ i, cs'[i]? = if o ≤ i ∧ i < o + vs.length ∧ i < cs.size then vs[i - o]? else cs[i]?
  | [], o, w, cs, h => ⟨cs, h, rfl, Mod.refl _ _, fun i => by rw [if_neg (by simp; omega)]⟩
  | v :: r, o, w, cs, h => by
    obtain ⟨cs', h1, h2, h3, h4⟩ := whole_cells r (o + 1) _ _ (h.store o v)
    refine ⟨cs', h1, by rw [h2]; simp, ((Mod.refl [g] w).store (p := ⟨g, o, none⟩) (.inl (by simp)) v).trans h3 (by simp), fun i => ?_⟩
    rw [h4 i]
    simp only [Array.size_setIfInBounds, List.length_cons]
    by_cases h0 : o ≤ i ∧ i < o + (r.length + 1) ∧ i < cs.size
    · rw [if_pos h0]
      by_cases he : i = o
      · subst he
        rw [if_neg (by omega), Array.getElem?_setIfInBounds, if_pos rfl, if_pos h0.2.2, Nat.sub_self]
        rfl
      · rw [if_pos (by omega), show i - o = (i - (o + 1)) + 1 by omega]
        rfl
    · rw [if_neg h0, if_neg (by omega), Array.getElem?_setIfInBounds]
      by_cases he : o = i
      · subst he
        have hs : cs.size ≤ o := by omega
        rw [if_pos rfl, if_neg (by omega), Array.getElem?_eq_none hs]
      · rw [if_neg he]
theorem run_clear_one (ty : TypeId) (w : World) (g o c : Nat) (cs : Array Value) (t : TypeId) (h : Whole w g t cs) (ho : o + 3 ≤ cs.size) :
    (Builtin.clear_ #[26] ty #[.slice (some ⟨g, o, none⟩) 1 c]).run Try.prog w = .ok (.tuple #[]) (w.setCells g o zero3.toList) := by
  have hv : ∀ w, (zeroValue 31).run Try.prog w = .ok (.agg zero3) w := fun w => by kernel_rfl
  have hzc : (Builtin.zeroCells zero3 1) = zero3 := by
    apply Array.ext
    · simp [Builtin.zeroCells, zero3]
    · intro i h1 h2
      have h3 : i < 3 := h2
      simp only [Builtin.zeroCells, Array.getElem_ofFn]
      simp only [Array.getElem_map, Array.getElem_range]
      have e3 : i % zero3.size = i := Nat.mod_eq_of_lt h3
      rw [e3]
      exact getElem!_pos zero3 i h2
  have hst := run_storeCells_cells (P := Try.prog) g o zero3.toList 0 w (fun j hj => by
      have hj' : j < 3 := hj
      rw [Nat.add_zero, h.cell, Array.getElem?_eq_getElem (by omega)]
      rfl) (fun j hj => h.frozen _) (by intro v hv'; have : v = .int .i64 0 ∨ v = .int .i64 0 ∨ v = .slice none 0 0 := by simpa [zero3] using hv'
                                        rcases this with rfl | rfl | rfl <;> rfl)
  simp only [Nat.add_zero] at hst
  simp [Builtin.clear_, run_underlying Try.underlying26, hv, Value.cells, hzc, hst]
theorem info_pk : (Try.prog.info? 31).map (fun i => (i.zero, i.size, i.bytes)) = some (some (.agg zero3), 3, 40) := by kernel_rfl
section
variable {w : World} {g n k : Nat} {cs : Array Value}
/-- What is left when packet k is taken out. -/
def cut (cs : Array Value) (n k : Nat) (i : Nat) : Option Value :=
  if i < k * 3 then cs[i]? else if i < (n - 1) * 3 then cs[i + 3]? else if i < n * 3 then zero3[i - (n - 1) * 3]? else cs[i]?
def news (cs : Array Value) (n k : Nat) : List Value := (cs.toList.drop ((k + 1) * 3)).take ((n - (k + 1)) * 3)
theorem news_len (h : n * 3 ≤ cs.size) (hk : k < n) : (news cs n k).length = (n - (k + 1)) * 3 := by
  unfold news
  rw [List.length_take, List.length_drop, Array.length_toList]
  omega
theorem news_get (h : n * 3 ≤ cs.size) (hk : k < n) (j : Nat) (hj : j < (n - (k + 1)) * 3) : (news cs n k)[j]? = cs[(k + 1) * 3 + j]? := by
  unfold news
  rw [List.getElem?_take, if_pos hj, List.getElem?_drop, Array.getElem?_toList]
theorem cut_after {W : World} (h : Whole W g 56 cs) (hs : n * 3 ≤ cs.size) (hk : k < n) :
    ∃ cs', Whole ((W.setCells g (k * 3) (news cs n k)).setCells g ((n - 1) * 3) zero3.toList) g 56 cs' ∧ cs'.size = cs.size ∧ Mod [g] W ((W.setCells g (k * 3) (news cs n k)).setCells g ((n - 1) * 3) zero3.toList) ∧ ∀ i, cs'[i]? = cut cs n k i := by
  obtain ⟨c1, a1, a2, a3, a4⟩ := whole_cells (news cs n k) (k * 3) W cs h
  obtain ⟨c2, b1, b2, b3, b4⟩ := whole_cells zero3.toList ((n - 1) * 3) _ c1 a1
  refine ⟨c2, b1, b2.trans a2, a3.trans b3 (by simp), fun i => ?_⟩
  have hn := news_len hs hk
  rw [b4, a2]
  have hz : zero3.toList.length = 3 := rfl
  rw [hz]
  unfold cut
  by_cases h1 : (n - 1) * 3 ≤ i ∧ i < (n - 1) * 3 + 3
  · have e1 : (n - 1) * 3 ≤ i ∧ i < (n - 1) * 3 + 3 ∧ i < cs.size := ⟨h1.1, h1.2, by omega⟩
    have e2 : ¬ i < k * 3 := by omega
    have e3 : ¬ i < (n - 1) * 3 := by omega
    have e4 : i < n * 3 := by omega
    rw [if_pos e1, if_neg e2, if_neg e3, if_pos e4, Array.getElem?_toList]
  · have e1 : ¬ ((n - 1) * 3 ≤ i ∧ i < (n - 1) * 3 + 3 ∧ i < cs.size) := fun e => h1 ⟨e.1, e.2.1⟩
    rw [if_neg e1, a4, hn]
    by_cases h2 : k * 3 ≤ i ∧ i < (n - 1) * 3
    · have e2 : k * 3 ≤ i ∧ i < k * 3 + (n - (k + 1)) * 3 ∧ i < cs.size := ⟨by omega, by omega, by omega⟩
      have e3 : ¬ i < k * 3 := by omega
      have e4 : (k + 1) * 3 + (i - (k * 3)) = i + 3 := by omega
      rw [if_pos e2, if_neg e3, if_pos h2.2, news_get hs hk (i - (k * 3)) (by omega), e4]
    · have e2 : ¬ (k * 3 ≤ i ∧ i < k * 3 + (n - (k + 1)) * 3 ∧ i < cs.size) := by omega
      rw [if_neg e2]
      by_cases h3 : i < k * 3
      · rw [if_pos h3]
      · have e3 : ¬ i < (n - 1) * 3 := by omega
        have e4 : ¬ i < n * 3 := by omega
        rw [if_neg h3, if_neg e3, if_neg e4]
set_option maxHeartbeats 6000000 in
theorem Delete_in {r : Nat} (h : Whole w g 56 cs) (hs : cs.size = 147) (hn : k + 1 + r ≤ 48) (h48 : k + 1 < 48) (h1 : ∀ v ∈ cs.toList, v.oneCell' = true) :
    Calls Try.prog 26 #[.slice (some ⟨g, 0, none⟩) (k + 1 + r) 48, .int .i64 (k : Int), .int .i64 ((k : Int) + 1)] w fun e w' => e = .returned (.slice (some ⟨g, 0, none⟩) (k + r) 48) ∧
      w' = (w.drew.setCells g (k * 3) (news cs (k + 1 + r) k)).setCells g ((k + r) * 3) zero3.toList := by
  obtain ⟨i0, hi, hz0, hz1, hz2⟩ := info_parts info_pk
  have hk : k < k + 1 + r := by omega
  have HW := Lib.hid h
  have HS := Lib.hid hs
  have er : k + 1 + r - (k + 1) = r := by omega
  have HN := Lib.hid (show (news cs (k + 1 + r) k).length = r * 3 by rw [news_len (by omega) hk, er])
  have HNS : Hid (∀ j u, (news cs (k + 1 + r) k)[j]? = some u → w.drew.cell? ((⟨g, (k + 1) * 3, none⟩ : Addr).add j) = some u) := Lib.hid (fun j u hu => by
    have hj : j < (k + 1 + r - (k + 1)) * 3 := by
      have := (List.getElem?_eq_some_iff.1 hu).1
      rw [HN.out] at this
      omega
    rw [news_get (by omega) hk j hj] at hu
    rw [Addr.add_lit]
    exact (show Whole w.drew g 56 cs from HW.out).cell _ |>.trans hu)
  have HN1 : Hid (∀ u ∈ news cs (k + 1 + r) k, u.oneCell' = true) := Lib.hid (fun u hu => h1 u (List.mem_of_mem_drop (List.mem_of_mem_take hu)))
  have HSP : Hid (∀ j, j < (news cs (k + 1 + r) k).length → (w.drew.cell? ⟨g, 0 + k * 3 + j, none⟩).isSome = true ∧ w.drew.frozen? ⟨g, 0 + k * 3 + j, none⟩ = false) := Lib.hid (fun j hj => by
    have hc := (show Whole w.drew g 56 cs from HW.out)
    rw [HN.out] at hj
    refine ⟨?_, hc.frozen _⟩
    rw [hc.cell, Array.getElem?_eq_getElem (by omega)]
    rfl)
  have HC := Lib.hid (fun ty c => by
    obtain ⟨c1, a1, a2, _⟩ := whole_cells (news cs (k + 1 + r) k) (k * 3) w.drew cs (show Whole w.drew g 56 cs from HW.out)
    exact run_clear_one ty _ g ((k + r) * 3) c c1 _ a1 (by omega))
  clear h hs h1
  have j0 : (k : Int) ≤ 48 := by omega
  have j1 : (k : Int) + 1 ≤ (k : Int) + 1 + (r : Int) := by omega
  have j2 : (k : Int) + 1 + (r : Int) ≤ 48 := by omega
  have j3 : (0 : Int) ≤ (k : Int) + 1 := by omega
  have j4 : ((k : Int) + 1).toNat = k + 1 := by omega
  have j5 : ¬ (48 : Nat) = k + 1 := by omega
  have j6 : ¬ (48 : Int) = (k : Int) + 1 := by omega
  go_enter Try.func26, Try.ntmps26
  go_wp2_with fail
  go_region_law (refine step_append_room rfl (.tmp 22) (.tmp 25) 26 rfl 31 i0 3 Try.underlying26 hi hz1 g 0 k 48 rfl ⟨g, (k + 1) * 3, none⟩ r (47 - k) (news cs (k + 1 + r) k) rfl HN.out HNS.out HN1.out (by omega) HSP.out ?_)
  have hc := HC.out
  have j7 : k + 1 + r - (k + r) = 1 := by omega
  have j8 : (k : Int) + (r : Int) ≤ (k : Int) + 1 + (r : Int) := by omega
  have j9 : ¬ (48 : Nat) = k + r := by omega
  clear HNS HN1 HSP HC HN HW HS
  generalize heq : w.drew.setCells g (k * 3) (news cs (k + 1 + r) k) = w1 at hc ⊢
  have HEQ := Lib.hid heq
  clear heq
  go_wp2_with fail
  go_ret
  exact ⟨rfl, by rw [HEQ.out]⟩
set_option maxHeartbeats 6000000 in
theorem Delete_last (h : Whole w g 56 cs) (hs : cs.size = 147) :
    Calls Try.prog 26 #[.slice (some ⟨g, 0, none⟩) 48 48, .int .i64 47, .int .i64 48] w fun e w' => e = .returned (.slice (some ⟨g, 0, none⟩) 47 48) ∧
      w' = w.drew.setCells g 141 zero3.toList := by
  obtain ⟨i0, hi, hz0, hz1, hz2⟩ := info_parts info_pk
  have HC := Lib.hid (fun ty c => run_clear_one ty w.drew g 141 c cs _ (show Whole w.drew g 56 cs from h) (by omega))
  clear h hs
  go_enter Try.func26, Try.ntmps26
  go_wp2_with fail
  go_region_law (refine step_append_room rfl (.tmp 22) (.tmp 25) 26 rfl 31 i0 3 Try.underlying26 hi hz1 g 0 47 48 rfl ⟨g, 0, none⟩ 0 0 [] rfl rfl (fun j u hu => by simp at hu) (by simp) (by omega) (fun j hj => absurd hj (Nat.not_lt_zero j)) ?_)
  rw [show w.drew.setCells g 141 [] = w.drew from rfl]
  have hc := HC.out
  go_wp2_with fail
  go_ret
  exact ⟨rfl, rfl⟩
end
end Go.Proofs.Ytnbfdgccaacdiaa
