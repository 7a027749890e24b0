/- slices.Delete of one grant out of a list of the call's own. -/
import Derived.Test.YtboflkadabagfabBkW19
import Derived.Deep.RegionLaw
namespace Go.Proofs.Ytboflkadabagfab
open Go.RowKit
open BM (Gr Rc Bk g0 r0 b0)
set_option linter.unusedVariables false
set_option linter.unusedSimpArgs false
set_option maxRecDepth 100000
theorem run_clear_gr (ty : TypeId) (w : World) (g o c : Nat) (cs : Array Value) (t : TypeId) (h : Whole w g t cs) (ho : o + 6 ≤ cs.size) :
    (Builtin.clear_ #[43] ty #[.slice (some ⟨g, o, none⟩) 1 c]).run Try.prog w = .ok (.tuple #[]) (w.setCells g o z6.toList) := by
  have hv : ∀ w, (zeroValue 26).run Try.prog w = .ok (.agg z6) w := fun w => by kernel_rfl
  have hzc : (Builtin.zeroCells z6 1) = z6 := by
    apply Array.ext
    · simp [Builtin.zeroCells, z6]
    · intro i h1 h2
      have h3 : i < 6 := h2
      simp only [Builtin.zeroCells, Array.getElem_ofFn]
      simp only [Array.getElem_map, Array.getElem_range]
      have e3 : i % z6.size = i := Nat.mod_eq_of_lt h3
      rw [e3]
      exact getElem!_pos z6 i h2
  have hst := run_storeCells_cells (P := Try.prog) g o z6.toList 0 w (fun j hj => by
      have hj' : j < 6 := hj
      rw [Nat.add_zero, h.cell, Array.getElem?_eq_getElem (by omega)]
      rfl) (fun j hj => h.frozen _) (by intro v hv'; have : v = .int .i64 0 ∨ v = .int .i64 0 ∨ v = .string ⟨#[]⟩ ∨ v = .int .i64 0 ∨ v = .slice none 0 0 ∨ v = .int .i64 0 := by simpa [z6] using hv'
                                        rcases this with rfl | rfl | rfl | rfl | rfl | rfl <;> rfl)
  simp only [Nat.add_zero] at hst
  simp [Builtin.clear_, run_underlying Try.underlying43, hv, Value.cells, hzc, hst]
/-- What is left when one is taken out. -/
def rem (ps : List (Gr × Value)) (k : Nat) : List (Gr × Value) := ps.take k ++ ps.drop (k + 1)
section
variable {w : World} {g n k : Nat} {cs : Array Value} {ps : List (Gr × Value)}
theorem rem_after {W : World} {t : TypeId} (h : Whole W g t cs) (hn : ps.length = n) (hs : cs.size = n * 6) (htk : cs.toList.take (n * 6) = flat ps) (hk : k < n) :
    ∃ cs', Whole ((W.setCells g (k * 6) (flat (ps.drop (k + 1)))).setCells g ((n - 1) * 6) z6.toList) g t cs' ∧ cs'.size = n * 6 ∧ Mod [g] W ((W.setCells g (k * 6) (flat (ps.drop (k + 1)))).setCells g ((n - 1) * 6) z6.toList) ∧ cs'.toList.take ((rem ps k).length * 6) = flat (rem ps k) := by
  have hld : (flat (ps.drop (k + 1))).length = (n - (k + 1)) * 6 := by rw [flat_len, List.length_drop, hn]
  have hlt : (flat (ps.take k)).length = k * 6 := by rw [flat_len, List.length_take]; congr 1; omega
  have hlp : (rem ps k).length = n - 1 := by unfold rem; simp; omega
  have hfp : flat ps = flat (ps.take k) ++ flat (ps.drop k) := by rw [← flat_append, List.take_append_drop]
  have hz : z6.toList.length = 6 := rfl
  obtain ⟨c1, a1, a2, a3, a4⟩ := whole_cells (flat (ps.drop (k + 1))) (k * 6) W cs h
  obtain ⟨c2, b1, b2, b3, b4⟩ := whole_cells z6.toList ((n - 1) * 6) _ c1 a1
  refine ⟨c2, b1, (b2.trans a2).trans hs, a3.trans b3 (by simp), ?_⟩
  rw [hlp]
  unfold rem
  rw [flat_append]
  refine List.ext_getElem? fun i => ?_
  rw [List.getElem?_take]
  by_cases hi : i < (n - 1) * 6
  · rw [if_pos hi, Array.getElem?_toList, b4, hz, if_neg (by omega), a4, hld]
    by_cases ha : k * 6 ≤ i
    · rw [if_pos ⟨ha, by omega, by omega⟩, List.getElem?_append_right (by omega), hlt]
    · rw [if_neg (by omega), List.getElem?_append_left (by omega)]
      have e : cs.toList[i]? = (flat ps)[i]? := by rw [← htk, List.getElem?_take, if_pos (by omega)]
      rw [← Array.getElem?_toList, e, hfp, List.getElem?_append_left (by omega)]
  · rw [if_neg hi, List.getElem?_eq_none]
    rw [List.length_append, hlt, hld]
    omega
set_option maxHeartbeats 6000000 in
theorem Delete_in {r : Nat} (h : Whole w g 26 cs) (hn : ps.length = k + 1 + r) (hs : cs.size = (k + 1 + r) * 6) (htk : cs.toList.take ((k + 1 + r) * 6) = flat ps) (hr : 0 < r) (hl : k + 1 + r ≤ 1000) (h1 : ∀ p ∈ ps, p.2.oneCell' = true) :
    Calls Try.prog 67 #[.slice (some ⟨g, 0, none⟩) (k + 1 + r) (k + 1 + r), .int .i64 (k : Int), .int .i64 ((k : Int) + 1)] w fun e w' => e = .returned (.slice (some ⟨g, 0, none⟩) (k + r) (k + 1 + r)) ∧
      w' = (w.drew.setCells g (k * 6) (flat (ps.drop (k + 1)))).setCells g ((k + r) * 6) z6.toList := by
  obtain ⟨i0, hi, hz0, hz1, hz2⟩ := info_parts info_gr
  have HW := Lib.hid h
  have HS := Lib.hid hs
  have er : k + 1 + r - (k + 1) = r := by omega
  have HN := Lib.hid (show (flat (ps.drop (k + 1))).length = r * 6 by rw [flat_len, List.length_drop, hn, er])
  have HNS : Hid (∀ j u, (flat (ps.drop (k + 1)))[j]? = some u → w.drew.cell? ((⟨g, (k + 1) * 6, none⟩ : Addr).add j) = some u) := Lib.hid (fun j u hu => by
    have hjl := (List.getElem?_eq_some_iff.1 hu).1
    rw [HN.out] at hjl
    have hfp : flat ps = flat (ps.take (k + 1)) ++ flat (ps.drop (k + 1)) := by rw [← flat_append, List.take_append_drop]
    have hlt : (flat (ps.take (k + 1))).length = (k + 1) * 6 := by rw [flat_len, List.length_take]; congr 1; omega
    rw [Addr.add_lit, (show Whole w.drew g 26 cs from HW.out).cell, ← Array.getElem?_toList]
    have e : (flat ps)[(k + 1) * 6 + j]? = some u := by rw [hfp, List.getElem?_append_right (by omega), hlt, Nat.add_sub_cancel_left]; exact hu
    rw [← htk, List.getElem?_take] at e
    split at e
    · exact e
    · cases e)
  have HN1 : Hid (∀ u ∈ flat (ps.drop (k + 1)), u.oneCell' = true) := Lib.hid (flat_one (fun q hq => h1 q (List.mem_of_mem_drop hq)))
  have HSP : Hid (∀ j, j < (flat (ps.drop (k + 1))).length → (w.drew.cell? ⟨g, 0 + k * 6 + j, none⟩).isSome = true ∧ w.drew.frozen? ⟨g, 0 + k * 6 + j, none⟩ = false) := Lib.hid (fun j hj => by
    have hc := (show Whole w.drew g 26 cs from HW.out)
    rw [HN.out] at hj
    refine ⟨?_, hc.frozen _⟩
    rw [hc.cell, Array.getElem?_eq_getElem (by omega)]
    rfl)
  have HC := Lib.hid (fun ty c => by
    obtain ⟨c1, a1, a2, _⟩ := whole_cells (flat (ps.drop (k + 1))) (k * 6) w.drew cs (show Whole w.drew g 26 cs from HW.out)
    exact run_clear_gr ty _ g ((k + r) * 6) c c1 _ a1 (by omega))
  clear h hs h1 hn htk
  have j0 : (k : Int) ≤ (k : Int) + 1 + (r : Int) := by omega
  have j1 : (k : Int) + 1 ≤ (k : Int) + 1 + (r : Int) := by omega
  have j3 : (0 : Int) ≤ (k : Int) + 1 := by omega
  have j4 : ((k : Int) + 1).toNat = k + 1 := by omega
  have j5 : ¬ r = 0 := by omega
  have j6 : ¬ (k : Int) + 1 = (k : Int) := by omega
  have j7 : ¬ k + 1 + r = k + 1 := by omega
  go_enter Try.func67, Try.ntmps67
  go_wp2_with fail
  go_region_law (refine step_append_room rfl (.tmp 22) (.tmp 25) 43 rfl 26 i0 6 Try.underlying43 hi hz1 g 0 k (k + 1 + r) rfl ⟨g, (k + 1) * 6, none⟩ r r (flat (ps.drop (k + 1))) rfl HN.out HNS.out HN1.out (by omega) HSP.out ?_)
  have hc := HC.out
  have j8 : k + 1 + r - (k + r) = 1 := by omega
  have j9 : ¬ k + 1 + r = k + r := by omega
  have j10 : (k : Int) + (r : Int) ≤ (k : Int) + 1 + (r : Int) := by omega
  clear HNS HN1 HSP HC HN HW HS
  generalize heq : w.drew.setCells g (k * 6) (flat (ps.drop (k + 1))) = w1 at hc ⊢
  have HEQ := Lib.hid heq
  clear heq
  go_wp2_with fail
  go_ret
  exact ⟨rfl, by rw [HEQ.out]⟩
set_option maxHeartbeats 6000000 in
theorem Delete_last (h : Whole w g 26 cs) (hs : cs.size = (k + 1) * 6) (hl : k + 1 ≤ 1000) :
    Calls Try.prog 67 #[.slice (some ⟨g, 0, none⟩) (k + 1) (k + 1), .int .i64 (k : Int), .int .i64 ((k : Int) + 1)] w fun e w' => e = .returned (.slice (some ⟨g, 0, none⟩) k (k + 1)) ∧
      w' = w.drew.setCells g (k * 6) z6.toList := by
  obtain ⟨i0, hi, hz0, hz1, hz2⟩ := info_parts info_gr
  have HC := Lib.hid (fun ty c => run_clear_gr ty w.drew g (k * 6) c cs _ (show Whole w.drew g 26 cs from h) (by omega))
  clear h hs
  have j0 : (k : Int) ≤ (k : Int) + 1 := by omega
  have j3 : (0 : Int) ≤ (k : Int) + 1 := by omega
  have j4 : ((k : Int) + 1).toNat = k + 1 := by omega
  have j6 : ¬ (k : Int) + 1 = (k : Int) := by omega
  have j7 : ¬ k + 1 = k := by omega
  have j8 : k + 1 - k = 1 := by omega
  go_enter Try.func67, Try.ntmps67
  go_wp2_with fail
  go_region_law (refine step_append_room rfl (.tmp 22) (.tmp 25) 43 rfl 26 i0 6 Try.underlying43 hi hz1 g 0 k (k + 1) rfl ⟨g, 0, none⟩ 0 0 [] rfl rfl (fun j u hu => by simp at hu) (by simp) (by omega) (fun j hj => absurd hj (Nat.not_lt_zero j)) ?_)
  rw [show w.drew.setCells g (k * 6) [] = w.drew from rfl]
  have hc := HC.out
  go_wp2_with fail
  go_ret
  exact ⟨rfl, rfl⟩
end
/-- What Delete leaves. -/
def DelPost (w : World) (base : Nat) (ps : List (Gr × Value)) (k : Nat) (e : Ending) (w' : World) : Prop := ∃ v, e = .returned v ∧ OwnG w' base v (rem ps k) ∧ Below base w w'
theorem rem_mem {ps : List (Gr × Value)} {k : Nat} {q : Gr × Value} (h : q ∈ rem ps k) : q ∈ ps := by
  unfold rem at h
  rcases List.mem_append.1 h with h | h
  · exact List.mem_of_mem_take h
  · exact List.mem_of_mem_drop h
theorem rem_own {w w' : World} {base g n k : Nat} {cs' : Array Value} {ps : List (Gr × Value)} (hw : base ≤ w.heap.size) (hown : OwnG w base (.slice (some ⟨g, 0, none⟩) n n) ps) (hn : ps.length = n) (hbg : base ≤ g) (hk : k < n) (hl : n ≤ 1000) {cs : Array Value} (hc : Whole w g 26 cs)
    (h1 : Whole w' g 26 cs') (h2 : cs'.size = n * 6) (h3 : Mod [g] w.drew w') (h4 : cs'.toList.take ((rem ps k).length * 6) = flat (rem ps k)) : OwnG w' base (.slice (some ⟨g, 0, none⟩) (n - 1) n) (rem ps k) ∧ Below base w w' := by
  have hlp : (rem ps k).length = n - 1 := by unfold rem; simp; omega
  have hfp := flat_len (rem ps k)
  have hM : Mod [g] w w' := (Mod.refl [g] w).drew.trans h3 (fun x hx => .inl hx)
  refine ⟨⟨?_, ?_, ?_, ?_⟩, hM.below hw (by simp; exact hbg)⟩
  · rw [hlp]
    refine ⟨by rw [hfp, hlp], .inr ⟨g, n, cs', rfl, hbg, h1, by omega, by unfold maxLen; omega, h2, ?_⟩⟩
    rwa [hlp] at h4
  · intro q hq
    have ho := hown.st q (rem_mem hq)
    exact hM.own ho (fun e he hf => by
      have : e = g := by simpa using hf
      subst this
      exact own_ne ho hc (by decide) he)
  · exact fun q hq => hown.wide q (rem_mem hq)
  · rw [hlp]; omega
theorem Delete_any {base n k : Nat} {A : Option Addr} {ps : List (Gr × Value)} (w : World) (hn : ps.length = n) (hown : OwnG w base (.slice A n n) ps) (hk : k < n) (hl : n ≤ 1000) (hb : base ≤ w.heap.size) :
    Calls Try.prog 67 #[.slice A n n, .int .i64 (k : Int), .int .i64 ((k : Int) + 1)] w (DelPost w base ps k) := by
  obtain ⟨g, cur, rfl, hbg, hcur, hsz, htk, _⟩ := hown.whole (by omega)
  rw [hn] at htk
  obtain ⟨c2, k1, k2, k3, k4⟩ := rem_after (W := w.drew) hcur hn hsz htk hk
  have hfin := rem_own hb hown hn hbg hk hl hcur k1 k2 k3 k4
  by_cases hr : k + 1 = n
  · have hd : flat (ps.drop (k + 1)) = [] := by rw [List.drop_eq_nil_of_le (by omega)]; rfl
    rw [hd] at hfin
    subst hr
    refine (Delete_last hcur hsz hl).mono ?_
    rintro e w' ⟨rfl, rfl⟩
    exact ⟨_, rfl, hfin⟩
  · obtain ⟨r, rfl⟩ : ∃ r, n = k + 1 + r := ⟨n - (k + 1), by omega⟩
    refine (Delete_in (r := r) hcur hn hsz htk (by omega) hl hown.ones).mono ?_
    rintro e w' ⟨rfl, rfl⟩
    have e1 : k + 1 + r - 1 = k + r := by omega
    rw [e1] at hfin
    exact ⟨_, rfl, hfin⟩
end Go.Proofs.Ytboflkadabagfab
