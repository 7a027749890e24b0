/- The bag's calls: a packet goes out. -/
import Derived.Test.YtnbfdgccaacdiaaBagW1
import Derived.Test.YtnbfdgccaacdiaaBagDel
import Derived.Deep.RegionWith
namespace Go.Proofs.Ytnbfdgccaacdiaa
open Go.RowKit
open By (BytesAt u8s own_shape)
set_option linter.unusedVariables false
set_option linter.unusedSimpArgs false
set_option maxRecDepth 100000
section
variable {S : Nat → Prop} {w w' : World} {g : Nat} {ps : List Pk} {s q : Int}
theorem zero3_one : ∀ v : Value, v ∈ zero3.toList → v.oneCell' = true := by
  intro v hv
  have h : v = .int .i64 0 ∨ v = .int .i64 0 ∨ v = .slice none 0 0 := by simpa [zero3] using hv
  rcases h with rfl | rfl | rfl <;> rfl
theorem cut_one {cs cs' : Array Value} {n k : Nat} (hc : ∀ i, cs'[i]? = cut cs n k i) (h6 : ∀ v ∈ cs.toList, v.oneCell' = true) : ∀ v ∈ cs'.toList, v.oneCell' = true := by
  have get : ∀ {i : Nat} {v : Value}, cs[i]? = some v → v.oneCell' = true := fun {i v} h => h6 v (by rw [← Array.getElem?_toList] at h; exact List.mem_of_getElem? h)
  intro v hv
  obtain ⟨i, hi, e⟩ := List.getElem_of_mem hv
  have e1 : cs'[i]? = some v := by rw [← Array.getElem?_toList, List.getElem?_eq_getElem hi, e]
  rw [hc i] at e1
  unfold cut at e1
  split at e1
  · exact get e1
  · split at e1
    · exact get e1
    · split at e1
      · rw [← Array.getElem?_toList] at e1
        exact zero3_one v (List.mem_of_getElem? e1)
      · exact get e1
theorem erase_in {cs cs' : Array Value} {k : Nat} (hC : Whole w' g 56 cs') (h2 : cs.size = 147) (e2 : cs'.size = cs.size) (hc : ∀ i, cs'[i]? = cut cs ps.length k i)
    (h4 : cs[145]? = some (.int .i64 s)) (h5 : cs[146]? = some (.int .i64 q)) (h6 : ∀ v ∈ cs.toList, v.oneCell' = true)
    (h7 : ∀ j p, ps[j]? = some p → ∃ A c, cs[j * 3]? = some (.int .i64 p.frm) ∧ cs[j * 3 + 1]? = some (.int .i64 p.dst) ∧ cs[j * 3 + 2]? = some (.slice A p.d.length c) ∧ Data S w A p.d)
    (hk : k < ps.length) (h48 : ps.length ≤ 48) (hS : ¬ S g) (hM : Mod [g] w w') :
    BagAt S (w'.setCell ⟨g, 144, none⟩ (.int .i64 ((ps.length - 1 : Nat) : Int))) g (ps.eraseIdx k) s q := by
  have hl : (ps.eraseIdx k).length = ps.length - 1 := by rw [List.length_eraseIdx, if_pos hk]
  have hM2 : Mod [g] w (w'.setCell ⟨g, 144, none⟩ (.int .i64 ((ps.length - 1 : Nat) : Int))) := hM.store (.inl (by simp)) _
  have get : ∀ i, (cs'.setIfInBounds 144 (.int .i64 ((ps.length - 1 : Nat) : Int)))[i]? = if i = 144 then some (.int .i64 ((ps.length - 1 : Nat) : Int)) else cut cs ps.length k i := by
    intro i
    rw [Array.getElem?_setIfInBounds]
    by_cases e : 144 = i
    · subst e
      rw [if_pos rfl, if_pos rfl, if_pos (by omega)]
    · rw [if_neg e, if_neg (fun x => e x.symm), hc]
  have hn : ∀ x ∈ [g], ¬ S x := by intro x hx; rw [List.mem_singleton.1 hx]; exact hS
  refine ⟨⟨_, hC.store 144 _, by rw [Array.size_setIfInBounds]; omega, ?_, ?_, ?_, ?_, ?_⟩, by omega, hS⟩
  · rw [get, if_pos rfl, hl]
  · rw [get, if_neg (by decide)]
    unfold cut
    rw [if_neg (by omega), if_neg (by omega), if_neg (by omega)]
    exact h4
  · rw [get, if_neg (by decide)]
    unfold cut
    rw [if_neg (by omega), if_neg (by omega), if_neg (by omega)]
    exact h5
  · intro v hv
    have h1 := cut_one hc h6
    rw [Array.toList_setIfInBounds] at hv
    rcases List.mem_or_eq_of_mem_set hv with hv | hv
    · exact h1 v hv
    · subst hv; rfl
  · intro j p hj
    rw [List.getElem?_eraseIdx] at hj
    have hj2 : j < ps.length - 1 := by
      split at hj
      · omega
      · have := (List.getElem?_eq_some_iff.1 hj).1
        omega
    rw [get, get, get, if_neg (by omega), if_neg (by omega), if_neg (by omega)]
    unfold cut
    by_cases hjk : j < k
    · rw [if_pos hjk] at hj
      obtain ⟨A, c, q0, q1, q2, q3⟩ := h7 j p hj
      refine ⟨A, c, ?_, ?_, ?_, q3.mod hM2 hn⟩
      · rw [if_pos (by omega)]; exact q0
      · rw [if_pos (by omega)]; exact q1
      · rw [if_pos (by omega)]; exact q2
    · rw [if_neg hjk] at hj
      obtain ⟨A, c, q0, q1, q2, q3⟩ := h7 (j + 1) p hj
      refine ⟨A, c, ?_, ?_, ?_, q3.mod hM2 hn⟩
      · rw [if_neg (by omega), if_pos (by omega), show j * 3 + 3 = (j + 1) * 3 by omega]; exact q0
      · rw [if_neg (by omega), if_pos (by omega), show j * 3 + 1 + 3 = (j + 1) * 3 + 1 by omega]; exact q1
      · rw [if_neg (by omega), if_pos (by omega), show j * 3 + 2 + 3 = (j + 1) * 3 + 2 by omega]; exact q2
theorem Delete_any {cs : Array Value} {k r : Nat} (h : Whole w g 56 cs) (hs : cs.size = 147) (hn : k + 1 + r ≤ 48) (h1 : ∀ v ∈ cs.toList, v.oneCell' = true) :
    Calls Try.prog 26 #[.slice (some ⟨g, 0, none⟩) (k + 1 + r) 48, .int .i64 (k : Int), .int .i64 ((k : Int) + 1)] w fun e w' => e = .returned (.slice (some ⟨g, 0, none⟩) (k + r) 48) ∧
      Hid (∃ cs', Whole w' g 56 cs' ∧ cs'.size = cs.size ∧ Mod [g] w w' ∧ ∀ i, cs'[i]? = cut cs (k + 1 + r) k i) := by
  by_cases hk : k + 1 < 48
  · refine (Delete_in h hs hn hk h1).mono ?_
    rintro e w' ⟨rfl, rfl⟩
    refine ⟨rfl, Lib.hid ?_⟩
    obtain ⟨cs', a, b, c, d⟩ := cut_after (n := k + 1 + r) (k := k) (W := w.drew) (show Whole w.drew g 56 cs from h) (by omega) (by omega)
    have e : k + 1 + r - 1 = k + r := by omega
    rw [e] at a c
    exact ⟨cs', a, b, (Mod.refl [g] w).drew.trans c (by simp), d⟩
  · obtain rfl : k = 47 := by omega
    obtain rfl : r = 0 := by omega
    refine (Delete_last h hs).mono ?_
    rintro e w' ⟨rfl, rfl⟩
    refine ⟨rfl, Lib.hid ?_⟩
    obtain ⟨cs', a, b, c, d⟩ := cut_after (n := 48) (k := 47) (W := w.drew) (show Whole w.drew g 56 cs from h) (by omega) (by omega)
    have e : news cs 48 47 = [] := by unfold news; exact List.take_zero
    rw [e] at a c
    exact ⟨cs', a, b, (Mod.refl [g] w).drew.trans c (by simp), d⟩
set_option maxHeartbeats 4000000 in
theorem Drop_yes (h : BagAt S w g ps s q) {k : Nat} (hk : k < ps.length) :
    Calls Try.prog 12 #[.pointer (some ⟨g, 0, none⟩), .int .i64 (k : Int)] w fun e w' => e = .returned (.bool true) ∧ Hid (BagAt S w' g (ps.eraseIdx k) s q) ∧ Hid (Mod [g] w w') := by
  have h48 := h.le
  obtain ⟨r, hr⟩ : ∃ r, ps.length = k + 1 + r := ⟨ps.length - (k + 1), by omega⟩
  have HR := Lib.hid hr
  have H := Lib.hid h
  have HN := h.nums.1
  rw [hr] at HN
  obtain ⟨cs, k1, k2, k3, k4, k5, k6, k7⟩ := h.ex
  have HC := Lib.hid (Delete_any (w := w.drew) (k := k) (r := r) (show Whole w.drew g 56 cs from k1) k2 (by omega) k6)
  have H144 := Lib.hid (show cut cs (k + 1 + r) k 144 = some (.int .i64 ((k + 1 + r : Nat) : Int)) by
    unfold cut
    rw [if_neg (by omega), if_neg (by omega), if_neg (by omega), k3, hr])
  have HE := Lib.hid (fun (W : World) (cs' : Array Value) (a : Whole W g 56 cs') (b : cs'.size = cs.size) (c : Mod [g] w W) (d : ∀ i, cs'[i]? = cut cs ps.length k i) => erase_in a k2 b d k4 k5 k6 k7 hk h48 h.self c)
  clear h k1 k2 k3 k4 k5 k6 k7
  have j0 : (0 : Int) ≤ (k : Int) + 1 + (r : Int) := by omega
  have j1 : (k : Int) + 1 + (r : Int) ≤ 48 := by omega
  have j2 : ((k : Int) + 1 + (r : Int)).toNat = k + 1 + r := by omega
  have hw : IntKind.i64.wrap ((k : Int) + 1) = (k : Int) + 1 := IntWalk.i64_in _ (by omega)
  clear hr
  go_enter Try.func12, Try.ntmps12
  go_wp2_with fail
  refine (has_yes H.out hk).mono ?_
  rintro e w1 ⟨rfl, rfl⟩
  go_wp2_with fail
  have HS : w.drew.cell? ⟨g, 144, none⟩ = some (.int .i64 ((k + 1 + r : Nat) : Int)) := HN
  go_region_with (go_at_call 26; refine HC.out.mono ?_; rintro x w5 ⟨rfl, hd⟩
                  obtain ⟨cs', a, b, c, d⟩ := hd.out
                  have c144 : w5.cell? ⟨g, 144, none⟩ = some (.int .i64 ((k + 1 + r : Nat) : Int)) := (a.cell 144).trans ((d 144).trans H144.out)
                  have f144 := a.frozen 144
                  have HA := Lib.hid (And.intro a (And.intro b (And.intro c d)))
                  clear hd a b c d)
  obtain ⟨a, b, c, d⟩ := HA.out
  have e1 : (k : Int) + (r : Int) = ((ps.length - 1 : Nat) : Int) := by have := HR.out; omega
  have e2 : k + 1 + r = ps.length := by have := HR.out; omega
  rw [e1]
  rw [e2] at d
  have HF := Lib.hid (HE.out w5 cs' a b ((Mod.refl [g] w).drew.trans c (by simp)) d)
  have HM := Lib.hid (show Mod [g] w (w5.setCell ⟨g, 144, none⟩ (.int .i64 ((ps.length - 1 : Nat) : Int))) from ((Mod.refl [g] w).drew.trans c (by simp)).store (.inl (by simp)) _)
  clear a b c d e1 e2 c144 f144
  generalize w5.setCell ⟨g, 144, none⟩ (.int .i64 ((ps.length - 1 : Nat) : Int)) = w6 at HF HM ⊢
  go_wp2_with fail
  go_ret
  exact ⟨rfl, HF, HM⟩
set_option maxHeartbeats 1000000 in
theorem Drop_no (h : BagAt S w g ps s q) {k : Int} (hk : k < 0 ∨ (ps.length : Int) ≤ k) :
    Calls Try.prog 12 #[.pointer (some ⟨g, 0, none⟩), .int .i64 k] w fun e w' => e = .returned (.bool false) ∧ w = w' := by
  have H := Lib.hid h
  have HK := Lib.hid hk
  clear h hk
  go_enter Try.func12, Try.ntmps12
  go_wp2_with fail
  refine (has_no H.out HK.out).mono ?_
  rintro e w1 ⟨rfl, rfl⟩
  go_wp2_with fail
  go_ret
  exact ⟨rfl, rfl⟩
set_option maxHeartbeats 1000000 in
theorem Drop_nil (w : World) (k : Int) :
    Calls Try.prog 12 #[.pointer none, .int .i64 k] w fun e w' => e = .returned (.bool false) ∧ w = w' := by
  go_enter Try.func12, Try.ntmps12
  go_wp2_with fail
  refine (has_nil w k).mono ?_
  rintro e w1 ⟨rfl, rfl⟩
  go_wp2_with fail
  go_ret
  exact ⟨rfl, rfl⟩
set_option maxHeartbeats 1000000 in
theorem Look_nil (w : World) (k : Int) :
    Calls Try.prog 7 #[.pointer none, .int .i64 k] w fun e w' => e = .returned (.tuple #[.agg zero3, .bool false]) ∧ Below w.heap.size w w' := by
  have HX := Lib.hid ((Below.refl _ w).alloc (Nat.le_refl _) (.cells zero3 31))
  have HZ := Lib.hid (Whole.new w 31 zero3)
  unfold zero3 at HX HZ
  go_enter Try.func7, Try.ntmps7
  go_wp2_with fail
  generalize w.alloc (.cells #[Value.int .i64 0, Value.int .i64 0, Value.slice none 0 0] 31) = w0 at HX HZ ⊢
  refine (has_nil w0 k).mono ?_
  rintro e w1 ⟨rfl, rfl⟩
  have z0 : w0.cell? ⟨w.heap.size, 0, none⟩ = some (.int .i64 0) := HZ.out.cell 0
  have z1 : w0.cell? ⟨w.heap.size, 1, none⟩ = some (.int .i64 0) := HZ.out.cell 1
  have z2 : w0.cell? ⟨w.heap.size, 2, none⟩ = some (.slice none 0 0) := HZ.out.cell 2
  have f0 := HZ.out.frozen 0
  have f1 := HZ.out.frozen 1
  have f2 := HZ.out.frozen 2
  go_wp2_with fail
  refine bodyPost_ret (v := .tuple #[.agg zero3, .bool false]) (by simp [results, Try.results7, go_sem, z0, z1, z2, zero3]) rfl ?_
  exact ⟨rfl, ((HX.out.setCell (Nat.le_refl _) _).setCell (Nat.le_refl _) _).setCell (Nat.le_refl _) _⟩
end
end Go.Proofs.Ytnbfdgccaacdiaa
