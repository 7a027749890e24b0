/- The bag's calls: a packet of its own. -/
import Derived.Test.YtnbfdgccaacdiaaBagMem
import Derived.Deep.OwnRows
import Derived.Laws.CopyOwn
namespace Go.Proofs.Ytnbfdgccaacdiaa
open Go.RowKit
open By (BytesAt u8s own_shape)
set_option linter.unusedVariables false
set_option linter.unusedSimpArgs false
set_option maxRecDepth 100000
set_option maxHeartbeats 1000000 in
theorem owned_any (p : Pk) (A : Option Addr) (c : Nat) (w : World) (hB : BytesAt w A p.d) (hl : p.d.length ≤ 140737488355328) :
    Calls Try.prog 25 #[.agg (three p A c)] w fun e w' => ∃ A' c', e = .returned (.agg (three p A' c')) ∧ Hid (w'.ownsRow w.heap.size 5 1 (.slice A' p.d.length c') p.d.length (u8s p.d)) ∧ Below w.heap.size w w' := by
  have HB := Lib.hid hB; clear hB
  have hmk := fun w' : World => run_make_row' (P := Try.prog) 29 5 (.int .u8 0) 1 Try.underlying29 By.info_u8 rfl .i64 .i64 p.d.length (by omega) (by omega) w'
  have HW : Hid (Whole (((w.alloc (.cells (three p A c) 31)).alloc (.cells zero3 31)).alloc (.cells (madeCells #[.int .u8 0] p.d.length) 5)) w.heap.size 31 (three p A c)) := Lib.hid (((Whole.new w _ _).alloc _).alloc _)
  have HZ : Hid (Whole (((w.alloc (.cells (three p A c) 31)).alloc (.cells zero3 31)).alloc (.cells (madeCells #[.int .u8 0] p.d.length) 5)) (w.heap.size + 1) 31 zero3) := Lib.hid (by
    have h := (Whole.new (w.alloc (.cells (three p A c) 31)) 31 zero3).alloc (.cells (madeCells #[.int .u8 0] p.d.length) 5)
    simpa using h)
  have HM : Hid ((((w.alloc (.cells (three p A c) 31)).alloc (.cells zero3 31)).alloc (.cells (madeCells #[.int .u8 0] p.d.length) 5)).heap[w.heap.size + 1 + 1]? = some (.cells (madeCells #[.int .u8 0] p.d.length).toList.toArray 5 (0, 0))) := Lib.hid (by
    have h := Whole.new ((w.alloc (.cells (three p A c) 31)).alloc (.cells zero3 31)) 5 (madeCells #[.int .u8 0] p.d.length)
    unfold Whole at h
    simpa using h)
  have HX : Hid (Below w.heap.size w (((w.alloc (.cells (three p A c) 31)).alloc (.cells zero3 31)).alloc (.cells (madeCells #[.int .u8 0] p.d.length) 5))) := Lib.hid ((((Below.refl _ w).alloc (Nat.le_refl _) _).alloc (by simp) _).alloc (by simp; omega) _)
  have HS : Hid ((((w.alloc (.cells (three p A c) 31)).alloc (.cells zero3 31)).alloc (.cells (madeCells #[.int .u8 0] p.d.length) 5)).heap.size = w.heap.size + 3) := Lib.hid (by simp)
  have HB3 : Hid (BytesAt (((w.alloc (.cells (three p A c) 31)).alloc (.cells zero3 31)).alloc (.cells (madeCells #[.int .u8 0] p.d.length) 5)) A p.d) := Lib.hid (HB.out.below HX.out)
  have HML : Hid ((madeCells #[Value.int .u8 0] p.d.length).size = p.d.length) := Lib.hid (by simp [madeCells])
  have HN : Hid ((u8s p.d).length = Nat.min p.d.length p.d.length) := Lib.hid (by rw [By.u8s_len]; exact (Nat.min_self _).symm)
  have HPOS : Hid (0 < (u8s p.d).length → (some (⟨w.heap.size + 1 + 1, 0, none⟩ : Addr)) = some ⟨w.heap.size + 1 + 1, 0, none⟩ ∧ ∃ ad, A = some ad ∧ ∀ j v, (u8s p.d)[j]? = some v → (((w.alloc (.cells (three p A c) 31)).alloc (.cells zero3 31)).alloc (.cells (madeCells #[.int .u8 0] p.d.length) 5)).cell? (ad.add j) = some v) := Lib.hid (fun h0 => by
    refine ⟨rfl, ?_⟩
    rw [By.u8s_len] at h0
    have hB := HB3.out
    obtain ⟨b, o, e, _⟩ := hB h0
    subst e
    exact ⟨_, rfl, hB.cells⟩)
  have HFIT : Hid (0 + (u8s p.d).length ≤ (madeCells #[Value.int .u8 0] p.d.length).toList.length) := Lib.hid (by
    have := HML.out
    rw [By.u8s_len, Array.length_toList]
    omega)
  have HSP : Hid ((splice (madeCells #[Value.int .u8 0] p.d.length).toList 0 (u8s p.d)) = u8s p.d) := Lib.hid (by
    have := HML.out
    unfold splice
    rw [List.take_zero, List.nil_append, List.drop_of_length_le (by rw [Array.length_toList, By.u8s_len]; omega), List.append_nil])
  clear HB HB3 HML
  unfold three zero3 at HW HZ HM HX HS HPOS
  unfold three
  go_enter Try.func25, Try.ntmps25
  go_wp2_with (with_reducible refine wpList_copy_splice rfl (.tmp 8) (.tmp 10) 29 29 rfl 5 Try.underlying29 (by kernel_rfl) _ _ _ _ _ _ rfl rfl (w.heap.size + 1 + 1) 0 _ 5 HM.out (u8s p.d) HN.out HPOS.out HFIT.out By.one_u8 (w.heap.size + 1 + 1) _ (Below.refl _ _) (Nat.le_refl _) ?_
               intro w4 HM4 hb4
               have K1 : Whole w4 w.heap.size 31 _ := (hb4.block _ (by omega)).trans HW.out
               have K2 : Whole w4 (w.heap.size + 1) 31 _ := (hb4.block _ (by omega)).trans HZ.out
               have a0 : w4.cell? ⟨w.heap.size, 0, none⟩ = some (.int .i64 p.frm) := K1.cell 0
               have a1 : w4.cell? ⟨w.heap.size, 1, none⟩ = some (.int .i64 p.dst) := K1.cell 1
               have a2 : w4.cell? ⟨w.heap.size, 2, none⟩ = some (.slice A p.d.length c) := K1.cell 2
               have af := K1.frozen 2
               have z0 : w4.cell? ⟨w.heap.size + 1, 0, none⟩ = some (.int .i64 0) := K2.cell 0
               have z1 : w4.cell? ⟨w.heap.size + 1, 1, none⟩ = some (.int .i64 0) := K2.cell 1
               have z2 : w4.cell? ⟨w.heap.size + 1, 2, none⟩ = some (.slice none 0 0) := K2.cell 2
               have f0 := K2.frozen 0
               have f1 := K2.frozen 1
               have f2 := K2.frozen 2
               have HB4 := Lib.hid hb4; clear hb4 K1 K2)
  have HG4 := Lib.hid (show w4.heap[w.heap.size + 1 + 1]? = some (.cells (u8s p.d).toArray 5 (0, 0)) by have h := HM4.out; rw [HSP.out] at h; exact h)
  have HX4 := Lib.hid (HX.out.trans (HB4.out.mono (by omega)))
  have HZ4 := Lib.hid (show w.heap.size + 1 + 1 < w4.heap.size from (Array.getElem?_eq_some_iff.1 HG4.out).1)
  refine bodyPost_ret (v := .agg #[.int .i64 p.frm, .int .i64 p.dst, .slice (some ⟨w.heap.size + 1 + 1, 0, none⟩) p.d.length p.d.length]) (by simp [results, Try.results25, go_sem, a0, a1, z0, z1, z2]) rfl ?_
  refine ⟨_, _, rfl, Lib.hid ⟨by rw [By.u8s_len, Nat.mul_one], .inr ⟨_, _, (u8s p.d).toArray, rfl, by omega, ?_, Nat.le_refl _, by unfold maxLen; omega, by rw [Nat.mul_one, List.size_toArray, By.u8s_len], by rw [Nat.mul_one, List.take_of_length_le (by rw [By.u8s_len]; exact Nat.le_refl _)]⟩⟩, ?_⟩
  · rw [Below.heap_setCell _ _ _ _ (by simp), Below.heap_setCell _ _ _ _ (by simp), Below.heap_setCell _ _ _ _ (by simp), Below.heap_setCell _ _ _ _ (by show w.heap.size + 1 + 1 ≠ w.heap.size; omega)]
    exact HG4.out
  · exact (((HX4.out.setCell (p := ⟨w.heap.size, 2, none⟩) (Nat.le_refl _) _).setCell (p := ⟨w.heap.size + 1, 0, none⟩) (by simp) _).setCell (p := ⟨w.heap.size + 1, 1, none⟩) (by simp) _).setCell (p := ⟨w.heap.size + 1, 2, none⟩) (by simp) _
theorem mod3 (w : World) (b o0 o1 o2 : Nat) (u0 u1 u2 : Value) : Mod [b] w (((w.setCell ⟨b, o0, none⟩ u0).setCell ⟨b, o1, none⟩ u1).setCell ⟨b, o2, none⟩ u2) :=
  (((Mod.refl [b] w).store (p := ⟨b, o0, none⟩) (.inl (by simp)) u0).store (p := ⟨b, o1, none⟩) (.inl (by simp)) u1).store (p := ⟨b, o2, none⟩) (.inl (by simp)) u2
theorem far3 (w : World) (b o0 o1 o2 : Nat) (u0 u1 u2 : Value) (g o : Nat) (h : g ≠ b ∨ (o0 ≠ o ∧ o1 ≠ o ∧ o2 ≠ o)) : (((w.setCell ⟨b, o0, none⟩ u0).setCell ⟨b, o1, none⟩ u1).setCell ⟨b, o2, none⟩ u2).cell? ⟨g, o, none⟩ = w.cell? ⟨g, o, none⟩ := by
  rw [World.cell?_setCell_other, World.cell?_setCell_other, World.cell?_setCell_other]
  all_goals
    intro e
    injection e with e1 e2
    rcases h with h | h
    · exact h e1.symm
    · omega
/-- A packet's value. -/
theorem owned_data (S : Nat → Prop) (p : Pk) (A : Option Addr) (c : Nat) (w : World) (hB : BytesAt w A p.d) (hl : p.d.length ≤ 140737488355328) (hS : ∀ x, w.heap.size ≤ x → S x) :
    Calls Try.prog 25 #[.agg (three p A c)] w fun e w' => ∃ A' c', e = .returned (.agg (three p A' c')) ∧ Data S w' A' p.d ∧ Below w.heap.size w w' :=
  (owned_any p A c w hB hl).mono fun e w' ⟨A', c', he, ho, hb⟩ => ⟨A', c', he, Data.own ho.out (fun x hx _ => hS x hx), hb⟩
section
variable {S : Nat → Prop} {w : World} {g : Nat} {ps : List Pk} {s q : Int}
set_option maxHeartbeats 1000000 in
theorem Look_yes (h : BagAt S w g ps s q) {k : Nat} {p : Pk} (hk : ps[k]? = some p) (hl : p.d.length ≤ 140737488355328) :
    Calls Try.prog 7 #[.pointer (some ⟨g, 0, none⟩), .int .i64 (k : Int)] w fun e w' => ∃ A' c', e = .returned (.tuple #[.agg (three p A' c'), .bool true]) ∧ Hid (Data (fun x => w.heap.size < x) w' A' p.d) ∧ Hid (Below w.heap.size w w') := by
  have hlt : k < ps.length := (List.getElem?_eq_some_iff.1 hk).1
  have h48 := h.le
  have H := Lib.hid h
  have HK := Lib.hid hk
  have HX := Lib.hid ((Below.refl _ w).alloc (Nat.le_refl _) (.cells zero3 31))
  have HZ := Lib.hid (Whole.new w 31 zero3)
  clear h hk
  unfold zero3 at HX HZ
  go_enter Try.func7, Try.ntmps7
  go_wp2_with fail
  generalize w.alloc (.cells #[Value.int .i64 0, Value.int .i64 0, Value.slice none 0 0] 31) = w0 at HX HZ ⊢
  have H0 := Lib.hid (H.out.below HX.out)
  refine (has_yes H0.out hlt).mono ?_
  rintro e w1 ⟨rfl, rfl⟩
  obtain ⟨A, c, a0, a1, a2, hd⟩ := H0.out.pk HK.out
  have HD := Lib.hid hd
  clear hd
  go_wp2_with fail
  clear a0 a1 a2
  refine (owned_data (fun x => w.heap.size < x) p A c w0 HD.out.bytes hl (fun x hx => Nat.lt_of_lt_of_le HZ.out.lt hx)).mono ?_
  rintro e w1 ⟨A1, c1, rfl, hd1, hb1⟩
  have HD1 := Lib.hid hd1
  have HX1 := Lib.hid (below_on HX.out hb1)
  have K1 := (Mod.of_below hb1 []).whole HZ.out (by simp)
  have z0 : w1.cell? ⟨w.heap.size, 0, none⟩ = some (.int .i64 0) := K1.cell 0
  have z1 : w1.cell? ⟨w.heap.size, 1, none⟩ = some (.int .i64 0) := K1.cell 1
  have z2 : w1.cell? ⟨w.heap.size, 2, none⟩ = some (.slice none 0 0) := K1.cell 2
  have f0 := K1.frozen 0
  have f1 := K1.frozen 1
  have f2 := K1.frozen 2
  clear hd1 hb1 K1
  unfold three
  go_wp2_with fail
  refine bodyPost_ret (v := .tuple #[.agg (three p A1 c1), .bool true]) (by simp [results, Try.results7, go_sem, z0, z1, z2, three]) rfl ?_
  exact ⟨A1, c1, rfl, Lib.hid (HD1.out.mod (mod3 w1 w.heap.size 0 1 2 _ _ _) (by simp)), Lib.hid (((HX1.out.setCell (Nat.le_refl _) _).setCell (Nat.le_refl _) _).setCell (Nat.le_refl _) _)⟩
set_option maxHeartbeats 1000000 in
theorem Look_no (h : BagAt S w g ps s q) {k : Int} (hk : k < 0 ∨ (ps.length : Int) ≤ k) :
    Calls Try.prog 7 #[.pointer (some ⟨g, 0, none⟩), .int .i64 k] w fun e w' => e = .returned (.tuple #[.agg zero3, .bool false]) ∧ Below w.heap.size w w' := by
  have H := Lib.hid h
  have HK := Lib.hid hk
  have HX := Lib.hid ((Below.refl _ w).alloc (Nat.le_refl _) (.cells zero3 31))
  have HZ := Lib.hid (Whole.new w 31 zero3)
  clear h hk
  unfold zero3 at HX HZ
  go_enter Try.func7, Try.ntmps7
  go_wp2_with fail
  generalize w.alloc (.cells #[Value.int .i64 0, Value.int .i64 0, Value.slice none 0 0] 31) = w0 at HX HZ ⊢
  have H0 := Lib.hid (H.out.below HX.out)
  refine (has_no H0.out HK.out).mono ?_
  rintro e w1 ⟨rfl, rfl⟩
  have z0 : w0.cell? ⟨w.heap.size, 0, none⟩ = some (.int .i64 0) := HZ.out.cell 0
  have z1 : w0.cell? ⟨w.heap.size, 1, none⟩ = some (.int .i64 0) := HZ.out.cell 1
  have z2 : w0.cell? ⟨w.heap.size, 2, none⟩ = some (.slice none 0 0) := HZ.out.cell 2
  have f0 := HZ.out.frozen 0
  have f1 := HZ.out.frozen 1
  have f2 := HZ.out.frozen 2
  go_wp2_with fail
  refine bodyPost_ret (v := .tuple #[.agg zero3, .bool false]) (by simp [results, Try.results7, go_sem, z0, z1, z2, zero3]) rfl ?_
  exact ⟨rfl, ((HX.out.setCell (Nat.le_refl _) _).setCell (Nat.le_refl _) _).setCell (Nat.le_refl _) _⟩
set_option maxHeartbeats 1000000 in
theorem put_full (h : BagAt S w g ps s q) (h48 : ps.length = 48) (p : Pk) (A : Option Addr) (c : Nat) :
    Calls Try.prog 28 #[.pointer (some ⟨g, 0, none⟩), .agg (three p A c)] w fun e w' => e = .returned (.int .i64 51) ∧ Below w.heap.size w w' := by
  have HX := Lib.hid ((Below.refl _ w).alloc (Nat.le_refl _) (.cells (three p A c) 31))
  have H0 := h.below HX.out
  obtain ⟨h1, h2, h3⟩ := H0.nums
  rw [h48] at h1
  clear H0 h2 h3 h h48
  unfold three at HX h1
  unfold three
  go_enter Try.func28, Try.ntmps28
  go_wp2_with fail
  go_ret
  exact ⟨rfl, HX.out⟩
/-- One packet more has been put. -/
theorem put_in {cs : Array Value} {p : Pk} {A : Option Addr} (hC : Whole w g 56 cs) (h2 : cs.size = 147) (h4 : cs[145]? = some (.int .i64 s)) (h5 : cs[146]? = some (.int .i64 q)) (h6 : ∀ v ∈ cs.toList, v.oneCell' = true)
    (h7 : ∀ j p, ps[j]? = some p → ∃ A c, cs[j * 3]? = some (.int .i64 p.frm) ∧ cs[j * 3 + 1]? = some (.int .i64 p.dst) ∧ cs[j * 3 + 2]? = some (.slice A p.d.length c) ∧ Data S w A p.d)
    (hle : ps.length < 48) (hself : ¬ S g) (hD : Data S w A p.d) (c : Nat) :
    BagAt S ((((w.setCell ⟨g, ps.length * 3, none⟩ (.int .i64 p.frm)).setCell ⟨g, ps.length * 3 + 1, none⟩ (.int .i64 p.dst)).setCell ⟨g, ps.length * 3 + 2, none⟩ (.slice A p.d.length c)).setCell ⟨g, 144, none⟩ (.int .i64 ((ps.length : Int) + 1))) g (ps ++ [p]) s q := by
  have hm : Mod [g] w ((((w.setCell ⟨g, ps.length * 3, none⟩ (.int .i64 p.frm)).setCell ⟨g, ps.length * 3 + 1, none⟩ (.int .i64 p.dst)).setCell ⟨g, ps.length * 3 + 2, none⟩ (.slice A p.d.length c)).setCell ⟨g, 144, none⟩ (.int .i64 ((ps.length : Int) + 1))) :=
    (mod3 w g _ _ _ _ _ _).store (.inl (by simp)) _
  have hn : ∀ x ∈ [g], ¬ S x := by
    intro x hx
    have e : x = g := by simpa using hx
    rw [e]; exact hself
  have get : ∀ i, ((((cs.setIfInBounds (ps.length * 3) (.int .i64 p.frm)).setIfInBounds (ps.length * 3 + 1) (.int .i64 p.dst)).setIfInBounds (ps.length * 3 + 2) (.slice A p.d.length c)).setIfInBounds 144 (.int .i64 ((ps.length : Int) + 1)))[i]? =
      if i = 144 then some (.int .i64 ((ps.length : Int) + 1)) else if i = ps.length * 3 + 2 then some (.slice A p.d.length c) else if i = ps.length * 3 + 1 then some (.int .i64 p.dst) else if i = ps.length * 3 then some (.int .i64 p.frm) else cs[i]? := by
    intro i
    simp only [Array.getElem?_setIfInBounds, Array.size_setIfInBounds, h2]
    repeat' split
    all_goals first | rfl | omega
  refine ⟨⟨_, (((hC.store _ _).store _ _).store _ _).store _ _, by simp [h2], ?_, ?_, ?_, ?_, ?_⟩, by simp; omega, hself⟩
  · rw [get, if_pos rfl, List.length_append]; rfl
  · rw [get, if_neg (by omega), if_neg (by omega), if_neg (by omega), if_neg (by omega)]; exact h4
  · rw [get, if_neg (by omega), if_neg (by omega), if_neg (by omega), if_neg (by omega)]; exact h5
  · intro v hv
    obtain ⟨i, hi, e⟩ := List.getElem_of_mem hv
    have e2 := get i
    rw [Array.getElem_toList] at e
    rw [Array.getElem?_eq_getElem (by simpa using hi), e] at e2
    split at e2
    · cases e2; rfl
    split at e2
    · cases e2; rfl
    split at e2
    · cases e2; rfl
    split at e2
    · cases e2; rfl
    exact h6 v (Array.mem_toList_iff.2 (Array.mem_of_getElem? e2.symm))
  · intro j r hj
    by_cases hlt : j < ps.length
    · rw [List.getElem?_append_left hlt] at hj
      obtain ⟨A', c', q0, q1, q2, q3⟩ := h7 j r hj
      refine ⟨A', c', ?_, ?_, ?_, q3.mod hm hn⟩
      · rw [get, if_neg (by omega), if_neg (by omega), if_neg (by omega), if_neg (by omega)]; exact q0
      · rw [get, if_neg (by omega), if_neg (by omega), if_neg (by omega), if_neg (by omega)]; exact q1
      · rw [get, if_neg (by omega), if_neg (by omega), if_neg (by omega), if_neg (by omega)]; exact q2
    · have hj' := (List.getElem?_eq_some_iff.1 hj).1
      rw [List.length_append, List.length_singleton] at hj'
      obtain rfl : j = ps.length := by omega
      have e : p = r := by simpa using hj
      subst e
      refine ⟨A, c, ?_, ?_, ?_, hD.mod hm hn⟩
      · rw [get, if_neg (by omega), if_neg (by omega), if_neg (by omega), if_pos rfl]
      · rw [get, if_neg (by omega), if_neg (by omega), if_pos rfl]
      · rw [get, if_neg (by omega), if_pos rfl]
set_option maxHeartbeats 1000000 in
theorem put_ok (h : BagAt S w g ps s q) (h48 : ps.length < 48) (p : Pk) (A : Option Addr) (c : Nat) (hB : BytesAt w A p.d) (hl : p.d.length ≤ 140737488355328) (hS : ∀ x, w.heap.size ≤ x → S x) :
    Calls Try.prog 28 #[.pointer (some ⟨g, 0, none⟩), .agg (three p A c)] w fun e w' => e = .returned (.int .i64 0) ∧ Hid (BagAt S w' g (ps ++ [p]) s q) ∧ Hid (Mod [g] w w') := by
  have HX := Lib.hid ((Below.refl _ w).alloc (Nat.le_refl _) (.cells (three p A c) 31))
  have H := Lib.hid (h.below HX.out)
  have HB := Lib.hid (hB.below HX.out)
  have HP := Lib.hid (Whole.new w 31 (three p A c))
  have HG := Lib.hid h.lt
  have hd : ((ps.length : Int) == 48) = false := by simp; omega
  obtain ⟨h1, h2, h3⟩ := H.out.nums
  clear h2 h3 h hB
  unfold three at HX H HB HP h1
  unfold three
  go_enter Try.func28, Try.ntmps28
  go_wp2_with fail
  generalize w.alloc (.cells #[Value.int .i64 p.frm, Value.int .i64 p.dst, Value.slice A p.d.length c] 31) = w0 at HX H HB HP h1 ⊢
  have HR := Lib.hid (show BagAt S w0.drew g ps s q from H.out.below (Below.drew (Below.refl _ w0)))
  have HPR := Lib.hid (show Whole w0.drew w.heap.size 31 #[.int .i64 p.frm, .int .i64 p.dst, .slice A p.d.length c] from HP.out)
  have HBR := Lib.hid (show BytesAt w0.drew A p.d from HB.out.below (Below.drew (Below.refl _ w0)))
  have HZ0 := Lib.hid (show w.heap.size ≤ w0.drew.heap.size from HX.out.size)
  have HS : w0.drew.cell? ⟨g, 144, none⟩ = some (.int .i64 (ps.length : Int)) ∧ w0.drew.cell? ⟨w.heap.size, 0, none⟩ = some (.int .i64 p.frm) ∧ w0.drew.cell? ⟨w.heap.size, 1, none⟩ = some (.int .i64 p.dst) ∧ w0.drew.cell? ⟨w.heap.size, 2, none⟩ = some (.slice A p.d.length c) := ⟨HR.out.nums.1, HPR.out.cell 0, HPR.out.cell 1, HPR.out.cell 2⟩
  clear h1
  have i0 : (0 : Int) ≤ (ps.length : Int) := by omega
  have i1 : (ps.length : Int) < 48 := by omega
  obtain ⟨cs, k1, k2, k3, k4, k5, k6, k7⟩ := HR.out.ex
  have HCS := Lib.hid k1
  have HGB := Lib.hid (show w.heap.size ≠ g by have := HG.out; omega)
  obtain ⟨o0, e0⟩ : ∃ v, cs[ps.length * 3]? = some v := ⟨_, Array.getElem?_eq_getElem (by omega)⟩
  obtain ⟨o1, e1⟩ : ∃ v, cs[ps.length * 3 + 1]? = some v := ⟨_, Array.getElem?_eq_getElem (by omega)⟩
  obtain ⟨o2, e2⟩ : ∃ v, cs[ps.length * 3 + 2]? = some v := ⟨_, Array.getElem?_eq_getElem (by omega)⟩
  have HE := Lib.hid (And.intro e0 (And.intro e1 e2))
  have H7 := Lib.hid (And.intro k2 (And.intro k4 (And.intro k5 (And.intro k6 k7))))
  clear k1 k2 k3 k4 k5 k6 k7 e0 e1 e2
  go_region_held3 (fun w' : World => w'.cell? ⟨g, 144, none⟩ = some (.int .i64 (ps.length : Int)) ∧ w'.cell? ⟨w.heap.size, 0, none⟩ = some (.int .i64 p.frm) ∧ w'.cell? ⟨w.heap.size, 1, none⟩ = some (.int .i64 p.dst) ∧ w'.cell? ⟨w.heap.size, 2, none⟩ = some (.slice A p.d.length c))
    (first
      | exact HS
      | exact ⟨(far3 _ _ _ _ _ _ _ _ _ _ (.inr (by omega))).trans HS.1, (far3 _ _ _ _ _ _ _ _ _ _ (.inl HGB.out)).trans HS.2.1, (far3 _ _ _ _ _ _ _ _ _ _ (.inl HGB.out)).trans HS.2.2.1, (far3 _ _ _ _ _ _ _ _ _ _ (.inl HGB.out)).trans HS.2.2.2⟩
      | (go_keep; done))
    ((go_at_call 25; refine (owned_data S p A c _ HBR.out hl (fun x hx => hS x (Nat.le_trans HZ0.out hx))).mono ?_; rintro x w5 ⟨A1, c1, rfl, hd1, hb1⟩
      have HD1 := Lib.hid hd1; have HBW := Lib.hid hb1; have HR1 := Lib.hid (HR.out.below hb1)
      replace HS : w5.cell? ⟨g, 144, none⟩ = some (.int .i64 (ps.length : Int)) ∧ w5.cell? ⟨w.heap.size, 0, none⟩ = some (.int .i64 p.frm) ∧ w5.cell? ⟨w.heap.size, 1, none⟩ = some (.int .i64 p.dst) ∧ w5.cell? ⟨w.heap.size, 2, none⟩ = some (.slice A p.d.length c) := ⟨HR1.out.nums.1, ((Mod.of_below hb1 []).whole HPR.out (by simp)).cell 0, ((Mod.of_below hb1 []).whole HPR.out (by simp)).cell 1, ((Mod.of_below hb1 []).whole HPR.out (by simp)).cell 2⟩
      have HC5 := Lib.hid ((Mod.of_below hb1 []).whole HCS.out (by simp))
      have t0 : w5.cell? ⟨g, ps.length * 3, none⟩ = some o0 := (HC5.out.cell _).trans HE.out.1
      have t1 : w5.cell? ⟨g, ps.length * 3 + 1, none⟩ = some o1 := (HC5.out.cell _).trans HE.out.2.1
      have t2 : w5.cell? ⟨g, ps.length * 3 + 2, none⟩ = some o2 := (HC5.out.cell _).trans HE.out.2.2
      have f0 := HC5.out.frozen (ps.length * 3)
      have f1 := HC5.out.frozen (ps.length * 3 + 1)
      have f2 := HC5.out.frozen (ps.length * 3 + 2)
      clear hd1 hb1
      unfold three))
  have HD5 := Lib.hid (fun (v : Value) => put_in HC5.out H7.out.1 H7.out.2.1 H7.out.2.2.1 H7.out.2.2.2.1 (fun j r hj => by
    obtain ⟨A', c', q0, q1, q2, q3⟩ := H7.out.2.2.2.2 j r hj
    exact ⟨A', c', q0, q1, q2, q3.below HBW.out⟩) h48 H.out.self HD1.out c1)
  have HM6 := Lib.hid ((((Mod.of_below HX.out [g]).trans ((Mod.refl [g] w0).drew.trans (Mod.of_below HBW.out [g]) (by simp)) (by simp)).trans (mod3 w5 g (ps.length * 3) (ps.length * 3 + 1) (ps.length * 3 + 2) (.int .i64 p.frm) (.int .i64 p.dst) (.slice A1 p.d.length c1)) (by simp)))
  have c144 : (((w5.setCell ⟨g, ps.length * 3, none⟩ (.int .i64 p.frm)).setCell ⟨g, ps.length * 3 + 1, none⟩ (.int .i64 p.dst)).setCell ⟨g, ps.length * 3 + 2, none⟩ (.slice A1 p.d.length c1)).cell? ⟨g, 144, none⟩ = some (.int .i64 (ps.length : Int)) := (far3 _ _ _ _ _ _ _ _ _ _ (.inr (by omega))).trans HS.1
  have f144 := ((((HC5.out.store (ps.length * 3) (.int .i64 p.frm)).store (ps.length * 3 + 1) (.int .i64 p.dst)).store (ps.length * 3 + 2) (.slice A1 p.d.length c1))).frozen 144
  clear HS
  generalize (((w5.setCell ⟨g, ps.length * 3, none⟩ (.int .i64 p.frm)).setCell ⟨g, ps.length * 3 + 1, none⟩ (.int .i64 p.dst)).setCell ⟨g, ps.length * 3 + 2, none⟩ (.slice A1 p.d.length c1)) = w6 at HD5 HM6 c144 f144 ⊢
  go_wp2_with fail
  go_ret
  exact ⟨rfl, Lib.hid (HD5.out (.int .i64 0)), Lib.hid (HM6.out.store (.inl (by simp)) _)⟩
end
end Go.Proofs.Ytnbfdgccaacdiaa
