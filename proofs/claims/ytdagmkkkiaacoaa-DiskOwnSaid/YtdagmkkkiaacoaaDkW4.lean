/- The document's disk in memory; its calls: copied, Same, Arm, On, Read, Write. -/
import Derived.Test.YtdagmkkkiaacoaaDkW3
namespace Go.Proofs.Ytdagmkkkiaacoaa
open Go.RowKit
open By (BytesAt u8 u8s own_shape)
set_option linter.unusedVariables false
set_option linter.unusedSimpArgs false
set_option maxRecDepth 100000
def ref4 (v : Value) (wr am : Int) (off : Bool) : Array Value := #[v, .int .i64 wr, .int .i64 am, .bool off]
/-- The document's disk at block r, its list of sectors v; all of it from block base on. -/
structure RefAt (base : Nat) (w : World) (r : Nat) (v : Value) (d : Dk) : Prop where
  box : Whole w r 45 (ref4 v d.wr d.am d.off)
  ge : base ≤ r
  row : ∃ hs, w.ownsRow base 35 1 v d.ss.length hs ∧ ∀ (i : Nat) (x : List UInt8), d.ss[i]? = some x → ∃ b, hs[i]? = some (.slice (some ⟨b, 0, none⟩) 64 64) ∧ base ≤ b ∧ Whole w b 5 (u8s x).toArray
section
variable {base : Nat} {w w' : World} {r : Nat} {v : Value} {d : Dk} {F : List Nat}
theorem RefAt.mod (h : RefAt base w r v d) (hm : Mod F w w') (hF : ∀ x ∈ F, ∃ t cs, Whole w x t cs ∧ t ≠ 45 ∧ t ≠ 35 ∧ t ≠ 5) : RefAt base w' r v d := by
  have ne : ∀ {b : Nat} {t : TypeId} {cs : Array Value}, Whole w b t cs → (t = 45 ∨ t = 35 ∨ t = 5) → b ∉ F := fun hb ht hx => by
    obtain ⟨t', cs', h1, h2, h3, h4⟩ := hF _ hx
    rcases ht with rfl | rfl | rfl
    · exact Whole.ne h1 hb h2 rfl
    · exact Whole.ne h1 hb h3 rfl
    · exact Whole.ne h1 hb h4 rfl
  obtain ⟨hs, h1, h2⟩ := h.row
  refine ⟨hm.whole h.box (ne h.box (.inl rfl)), h.ge, hs, hm.own h1 (fun k hk hx => ?_), fun i x hx => ?_⟩
  · obtain ⟨t', cs', k1, k2, k3, k4⟩ := hF _ hx
    exact own_ne h1 k1 (Ne.symm k3) hk
  · obtain ⟨b, k1, k2, k3⟩ := h2 i x hx
    exact ⟨b, k1, k2, hm.whole k3 (ne k3 (.inr (.inr rfl)))⟩
theorem RefAt.below (h : RefAt base w r v d) (hb : Below w.heap.size w w') : RefAt base w' r v d := h.mod (F := []) (Mod.of_below hb []) (by simp)
theorem RefAt.disk (h : RefAt base w r v d) {g : Nat} {d' : Dk} (hg : DkAt w g d') (hm : Mod [g] w w') : RefAt base w' r v d := h.mod hm (fun x hx => by
  obtain ⟨cs, h1, _⟩ := hg.ex
  rw [List.mem_singleton.1 hx]
  exact ⟨_, cs, h1, by decide, by decide, by decide⟩)
/-- What a call on the document's disk may turn. -/
def refF (r : Nat) (v : Value) : List Nat := r :: v.ownBlock.toList
theorem DkAt.ref {g : Nat} {d' : Dk} (hg : DkAt w g d') (h : RefAt base w r v d) (hm : Mod (refF r v) w w') : DkAt w' g d' := hg.mod hm (fun hx => by
  obtain ⟨cs, h1, _⟩ := hg.ex
  obtain ⟨hs, h2, _⟩ := h.row
  rcases List.mem_cons.1 hx with e | e
  · exact Whole.ne h1 h.box (by decide) e
  · exact own_ne h2 h1 (by decide) (by simpa using e))
theorem RefAt.from (h : RefAt base w r v d) : ∀ x ∈ refF r v, base ≤ x := by
  obtain ⟨hs, h2, _⟩ := h.row
  intro x hx
  rcases List.mem_cons.1 hx with e | e
  · rw [e]; exact h.ge
  · exact (h2.lt x (by simpa using e)).1
theorem RefAt.rows (h : RefAt base w r v d) (hl : DK.Sound d) : ∃ A c, v = .slice A d.ss.length c ∧ RowsAt w A d.ss := by
  obtain ⟨hs, h1, h2⟩ := h.row
  obtain ⟨A, c, rfl, _, _⟩ := own_shape h1
  refine ⟨A, c, rfl, fun h0 => ?_⟩
  obtain ⟨g, cap, hv, _, hlt⟩ := h1.form (by have := h1.1; omega)
  have hA : A = some ⟨g, 0, none⟩ := by injection hv
  subst hA
  refine ⟨g, 0, rfl, hlt, fun j x hx => ?_⟩
  obtain ⟨b, k1, k2, k3⟩ := h2 j x hx
  refine ⟨some ⟨b, 0, none⟩, 64, ?_, Whole.reads k3⟩
  have := h1.cells (g := g) rfl j _ k1
  rw [Addr.add_lit] at this
  rw [hl.len j x hx]
  exact this
end
set_option maxHeartbeats 1000000 in
theorem copied_any (A : Option Addr) (x : List UInt8) (c : Nat) (w : World) (hB : BytesAt w A x) (hl : x.length ≤ 140737488355328) :
    Calls Try.prog 31 #[.slice A x.length c] w fun e w' => e = .returned (.slice (some ⟨w.heap.size, 0, none⟩) x.length x.length) ∧ Hid (Whole w' w.heap.size 5 (u8s x).toArray) ∧ Hid (Below w.heap.size w w') := by
  have hmk : ∀ w' : World, (Instr.makeSlice 35 (.int .i64 (x.length : Int)) (.int .i64 (x.length : Int))).run Try.prog w' = .ok (.slice (some ⟨w'.heap.size, 0, none⟩) x.length x.length) (w'.alloc (.cells (madeCells #[.int .u8 0] x.length) 5)) := fun w' => run_make_row' (P := Try.prog) 35 5 (.int .u8 0) 1 Try.underlying35 By.info_u8 rfl .i64 .i64 x.length (by omega) (by omega) w'
  have HA := Lib.hid hB
  clear hB
  go_enter Try.func31, Try.ntmps31
  go_wp2_with fail
  go_loopw [4] (fun i wr => ∃ k : Nat, i = .int .i64 (k : Int) ∧ k ≤ x.length ∧ Hid (Whole wr w.heap.size 5 (u8s (x.take k) ++ List.replicate (x.length - k) (Value.int .u8 0)).toArray) ∧ Hid (Below w.heap.size w wr)) (fun i _ => x.length - (intOf i).toNat)
  case atStart => exact ⟨0, rfl, Nat.zero_le _, Lib.hid (by
    have h := Whole.new w 5 (madeCells #[.int .u8 0] x.length)
    have e : madeCells #[Value.int .u8 0] x.length = (u8s (x.take 0) ++ List.replicate (x.length - 0) (Value.int .u8 0)).toArray := by
      apply Array.ext'
      rw [toList_madeCells_one]
      simp [u8s]
    rw [← e]
    exact h), Lib.hid ((Below.refl _ w).alloc (Nat.le_refl _) _)⟩
  case round =>
    obtain ⟨k, rfl, hk, HW, HB⟩ := hrel
    by_cases hlt : k < x.length
    · obtain ⟨b, o, eA, hb, hca⟩ := HA.out (by omega)
      subst eA
      have hcell : wr.cell? ⟨b, o + k, none⟩ = some (By.u8 x[k]) := (HB.out.cell (p := ⟨b, o + k, none⟩) hb).trans (hca k x[k] (List.getElem?_eq_getElem hlt))
      have HE := Lib.hid (show (u8s (x.take k) ++ List.replicate (x.length - k) (Value.int .u8 0)).toArray.setIfInBounds k (By.u8 x[k]) = (u8s (x.take (k + 1)) ++ List.replicate (x.length - (k + 1)) (Value.int .u8 0)).toArray by
        have hlen : (u8s (x.take k)).length = k := by rw [By.u8s_len, List.length_take]; omega
        rw [List.setIfInBounds_toArray, List.set_append_right _ _ (by omega), hlen, Nat.sub_self, show x.length - k = (x.length - (k + 1)) + 1 by omega, List.replicate_succ, List.set_cons_zero, List.take_succ_eq_append_getElem hlt, By.u8s_append, List.append_assoc]
        rfl)
      have z0 : wr.cell? ⟨w.heap.size, k, none⟩ = some (.int .u8 0) := by
        have hlen : (u8s (x.take k)).length = k := by rw [By.u8s_len, List.length_take]; omega
        rw [HW.out.cell, List.getElem?_toArray, List.getElem?_append_right (by omega), hlen, Nat.sub_self, List.getElem?_replicate, if_pos (by omega)]
      have f0 := HW.out.frozen k
      unfold By.u8 at hcell HE
      generalize x[k] = y at hcell HE
      clear hca
      go_wp2_with fail
      go_roundw
      case rel => exact ⟨k + 1, rfl, hlt, Lib.hid (by rw [← HE.out]; exact HW.out.store k _), Lib.hid (HB.out.setCell (Nat.le_refl _) _)⟩
      case measure => simp only [intOf]; omega
    · obtain rfl : k = x.length := by omega
      have HW2 := Lib.hid (show Whole wr w.heap.size 5 (u8s x).toArray by
        have := HW.out
        rw [List.take_of_length_le (Nat.le_refl _), Nat.sub_self, List.replicate_zero, List.append_nil] at this
        exact this)
      go_wp2_with fail
      go_ret
      exact ⟨rfl, HW2, HB⟩
theorem below_drewN {B : Nat} {a b : World} (h : Below B a b) (n : Nat) : Below B a (b.drewN n) := ⟨h.os, h.tape, h.output, h.size, h.block⟩
set_option maxHeartbeats 2000000 in
theorem Same_eq (xs ys : List (List UInt8)) (n : Nat) (A B : Option Addr) (c c' : Nat) (w : World) (hA : RowsAt w A xs) (hB : RowsAt w B ys) (hx : xs.length = n) (hy : ys.length = n) (hn : n ≤ 9223372036854775807) :
    Calls Try.prog 19 #[.slice A n c, .slice B n c'] w fun e w' => e = .returned (.bool (decide (xs = ys))) ∧ Hid (Below w.heap.size w w') := by
  have HA := Lib.hid hA
  have HB := Lib.hid hB
  have HXL := Lib.hid hx
  have HYL := Lib.hid hy
  clear hA hB hx hy
  go_enter Try.func19, Try.ntmps19
  go_wp2_with fail
  go_loopw [5] (fun i wr => ∃ k : Nat, i = .int .i64 (k : Int) ∧ k ≤ n ∧ Hid (xs.take k = ys.take k) ∧ Hid (Below w.heap.size w wr)) (fun i _ => n - (intOf i).toNat)
  case atStart => exact ⟨0, rfl, Nat.zero_le _, Lib.hid rfl, Lib.hid (Below.refl _ _)⟩
  case round =>
    obtain ⟨k, rfl, hk, HT, HW⟩ := hrel
    by_cases hlt : k < n
    · have HX := Lib.hid (List.getElem?_eq_getElem (l := xs) (i := k) (by have := HXL.out; omega))
      have HY := Lib.hid (List.getElem?_eq_getElem (l := ys) (i := k) (by have := HYL.out; omega))
      have HT1 := Lib.hid (show xs[k]'(by have := HXL.out; omega) = ys[k]'(by have := HYL.out; omega) → xs.take (k + 1) = ys.take (k + 1) from fun e => by rw [List.take_succ_eq_append_getElem (by have := HXL.out; omega), List.take_succ_eq_append_getElem (by have := HYL.out; omega), HT.out, e])
      generalize xs[k]'(by have := HXL.out; omega) = p at HX HT1
      generalize ys[k]'(by have := HYL.out; omega) = q at HY HT1
      obtain ⟨b, o, eA, hb, hca⟩ := (HA.out.below HW.out) (by have := HXL.out; omega)
      obtain ⟨b', o', eB, hb', hcb⟩ := (HB.out.below HW.out) (by have := HYL.out; omega)
      subst eA
      subst eB
      obtain ⟨A1, c1, a0, hd1⟩ := hca k p HX.out
      obtain ⟨A2, c2, a1, hd2⟩ := hcb k q HY.out
      have hcv1 := fun n : Nat => By.str_of (c := c1) (show BytesAt (wr.drewN n) A1 p from hd1)
      have hcv2 := fun n : Nat => By.str_of (c := c2) (show BytesAt (wr.drewN n) A2 q from hd2)
      clear hca hcb hd1 hd2
      by_cases hpq : p = q
      · have HT2 := Lib.hid (HT1.out hpq)
        subst hpq
        go_wp2_with fail
        go_quiet (fail)
        go_wp2_with fail
        go_roundw
        case rel => exact ⟨k + 1, rfl, hlt, HT2, Lib.hid (below_drewN HW.out _)⟩
        case measure => simp only [intOf]; omega
      · have hne2 : (p.toArray.toList == q.toArray.toList) = false := by simpa using hpq
        have HR := Lib.hid (show (decide (xs = ys)) = false from decide_eq_false (fun e => hpq (by have h1 := HX.out; have h2 := HY.out; rw [e, h2] at h1; exact (Option.some.inj h1).symm)))
        go_wp2_with fail
        go_quiet (fail)
        go_wp2_with fail
        go_ret
        exact ⟨ret_bool HR.out.symm, Lib.hid (below_drewN HW.out _)⟩
    · obtain rfl : k = n := by omega
      have HR := Lib.hid (show (decide (xs = ys)) = true from decide_eq_true (by
        have := HT.out
        rw [List.take_of_length_le (by have := HXL.out; omega), List.take_of_length_le (by have := HYL.out; omega)] at this
        exact this))
      go_wp2_with fail
      go_ret
      exact ⟨ret_bool HR.out.symm, HW⟩
theorem Same_any (xs ys : List (List UInt8)) (A B : Option Addr) (c c' : Nat) (w : World) (hA : RowsAt w A xs) (hB : RowsAt w B ys) (hx : xs.length ≤ 9223372036854775807) :
    Calls Try.prog 19 #[.slice A xs.length c, .slice B ys.length c'] w fun e w' => e = .returned (.bool (decide (xs = ys))) ∧ Hid (Below w.heap.size w w') := by
  by_cases hl : xs.length = ys.length
  · rw [← hl]
    exact Same_eq xs ys xs.length A B c c' w hA hB rfl hl.symm hx
  · have hne : ((xs.length : Int) == (ys.length : Int)) = false := by simp; omega
    have HR := Lib.hid (show (decide (xs = ys)) = false from decide_eq_false (fun e => hl (by rw [e])))
    go_enter Try.func19, Try.ntmps19
    go_wp2_with fail
    go_ret
    exact ⟨ret_bool HR.out.symm, Lib.hid (Below.refl _ _)⟩
section
variable {base : Nat} {w : World} {r : Nat} {v : Value} {d : Dk}
theorem RefAt.cells (h : RefAt base w r v d) : w.cell? ⟨r, 0, none⟩ = some v ∧ w.cell? ⟨r, 1, none⟩ = some (.int .i64 d.wr) ∧ w.cell? ⟨r, 2, none⟩ = some (.int .i64 d.am) ∧ w.cell? ⟨r, 3, none⟩ = some (.bool d.off) := ⟨h.box.cell 0, h.box.cell 1, h.box.cell 2, h.box.cell 3⟩
/-- The box alone is written. -/
theorem RefAt.boxed (h : RefAt base w r v d) {w' : World} {wr am : Int} {off : Bool} (hb : Whole w' r 45 (ref4 v wr am off)) (hm : Mod [r] w w') : RefAt base w' r v ⟨d.ss, wr, off, am⟩ := by
  obtain ⟨hs, h1, h2⟩ := h.row
  refine ⟨hb, h.ge, hs, hm.own h1 (fun k hk hx => own_ne h1 h.box (by decide) (by rw [hk, List.mem_singleton.1 hx])), fun i x hx => ?_⟩
  obtain ⟨b, k1, k2, k3⟩ := h2 i x hx
  exact ⟨b, k1, k2, hm.whole k3 (fun hx => Whole.ne k3 h.box (by decide) (List.mem_singleton.1 hx))⟩
set_option maxHeartbeats 1000000 in
theorem RefArm_any (h : RefAt base w r v d) (k : Int) (hk : -9223372036854775808 ≤ k ∧ k ≤ 9223372036854775807) :
    Calls Try.prog 16 #[.pointer (some ⟨r, 0, none⟩), .int .i64 k] w fun e w' => e = .returned (.tuple #[]) ∧ Hid (RefAt base w' r v (DK.arm d k)) ∧ Hid (Mod [r] w w') := by
  have c2 := h.cells.2.2.1
  have f2 := h.box.frozen 2
  have HM := Lib.hid (fun z : Int => (Mod.refl [r] w).store (p := ⟨r, 2, none⟩) (.inl (by simp)) (.int .i64 z))
  have HR := Lib.hid (fun z : Int => h.boxed (wr := d.wr) (am := z) (off := d.off) (h.box.store 2 (.int .i64 z)) (HM.out z))
  by_cases h0 : -1 ≤ k
  · have HK := Lib.hid (show max k (-1) = k by omega)
    clear h
    go_enter Try.func16, Try.ntmps16
    go_wp2_with fail
    go_end0
    unfold DK.arm
    rw [HK.out]
    exact ⟨rfl, Lib.hid (HR.out k), Lib.hid (HM.out k)⟩
  · have HK := Lib.hid (show max k (-1) = -1 by omega)
    clear h
    go_enter Try.func16, Try.ntmps16
    go_wp2_with fail
    go_end0
    unfold DK.arm
    rw [HK.out]
    exact ⟨rfl, Lib.hid (HR.out (-1)), Lib.hid (HM.out (-1))⟩
set_option maxHeartbeats 1000000 in
theorem RefOn_any (h : RefAt base w r v d) :
    Calls Try.prog 18 #[.pointer (some ⟨r, 0, none⟩)] w fun e w' => e = .returned (.tuple #[]) ∧ Hid (RefAt base w' r v (DK.on d)) ∧ Hid (Mod [r] w w') := by
  have c3 := h.cells.2.2.2
  have f3 := h.box.frozen 3
  have HM := Lib.hid ((Mod.refl [r] w).store (p := ⟨r, 3, none⟩) (.inl (by simp)) (.bool false))
  have HR := Lib.hid (h.boxed (wr := d.wr) (am := d.am) (off := false) (h.box.store 3 (.bool false)) HM.out)
  clear h
  go_enter Try.func18, Try.ntmps18
  go_wp2_with fail
  go_end0
  exact ⟨rfl, HR, HM⟩
set_option maxHeartbeats 1000000 in
theorem RefRead_off (h : RefAt base w r v d) (i : Int) (ho : d.off = true) :
    Calls Try.prog 14 #[.pointer (some ⟨r, 0, none⟩), .int .i64 i] w fun e w' => e = .returned (.tuple #[.slice none 0 0, .int .i64 40]) ∧ w = w' := by
  have c3 := h.cells.2.2.2
  rw [ho] at c3
  clear h ho
  go_enter Try.func14, Try.ntmps14
  go_wp2_with fail
  go_ret2
  exact ⟨rfl, rfl⟩
set_option maxHeartbeats 1000000 in
theorem RefRead_no {A : Option Addr} {c : Nat} (h : RefAt base w r (.slice A d.ss.length c) d) (i : Int) (ho : d.off = false) (hi : i < 0 ∨ (d.ss.length : Int) ≤ i) :
    Calls Try.prog 14 #[.pointer (some ⟨r, 0, none⟩), .int .i64 i] w fun e w' => e = .returned (.tuple #[.slice none 0 0, .int .i64 2]) ∧ w = w' := by
  obtain ⟨c0, c1, c2, c3⟩ := h.cells
  rw [ho] at c3
  clear h ho
  by_cases h0 : i < 0
  · clear hi
    go_enter Try.func14, Try.ntmps14
    go_wp2_with fail
    go_ret2
    exact ⟨rfl, rfl⟩
  · have h1 : (d.ss.length : Int) ≤ i := hi.elim (fun h => absurd h h0) id
    clear hi
    go_enter Try.func14, Try.ntmps14
    go_wp2_with fail
    go_ret2
    exact ⟨rfl, rfl⟩
set_option maxHeartbeats 2000000 in
theorem RefRead_ok {A : Option Addr} {c : Nat} (h : RefAt base w r (.slice A d.ss.length c) d) (hs : DK.Sound d) (k : Nat) (x : List UInt8) (ho : d.off = false) (hk : d.ss[k]? = some x) :
    Calls Try.prog 14 #[.pointer (some ⟨r, 0, none⟩), .int .i64 (k : Int)] w fun e w' => e = .returned (.tuple #[.slice (some ⟨w.heap.size, 0, none⟩) 64 64, .int .i64 0]) ∧ Hid (Whole w' w.heap.size 5 (u8s x).toArray) ∧ Hid (Below w.heap.size w w') := by
  obtain ⟨c0, c1, c2, c3⟩ := h.cells
  rw [ho] at c3
  obtain ⟨hh, h1, h2⟩ := h.row
  have hlt : k < d.ss.length := (List.getElem?_eq_some_iff.1 hk).1
  obtain ⟨g, cap, hv, _, hgl⟩ := h1.form (by have := h1.1; omega)
  have hA : A = some ⟨g, 0, none⟩ := by injection hv
  subst hA
  obtain ⟨b, k1, k2, k3⟩ := h2 k x hk
  have a0 : w.cell? ⟨g, k, none⟩ = some (.slice (some ⟨b, 0, none⟩) 64 64) := by
    have := h1.cells (g := g) rfl k _ k1
    rw [Addr.add_lit, Nat.zero_add] at this
    exact this
  have hx := hs.len k x hk
  have HC := Lib.hid (copied_any (some ⟨b, 0, none⟩) x 64 w (Whole.reads k3) (by omega))
  rw [hx] at HC
  have hle := hs.le
  clear h h1 h2 k1 k3 hv ho hk
  go_enter Try.func14, Try.ntmps14
  go_wp2_with (refine HC.out.mono ?_; rintro e w' ⟨rfl, HW, HB⟩)
  go_ret2
  exact ⟨rfl, HW, HB⟩
theorem RefRead_any (h : RefAt base w r v d) (hs : DK.Sound d) (i : Int) (hi : -9223372036854775808 ≤ i ∧ i ≤ 9223372036854775807) :
    Calls Try.prog 14 #[.pointer (some ⟨r, 0, none⟩), .int .i64 i] w fun e w' => ∃ A c, e = .returned (.tuple #[.slice A (DK.got d i).length c, .int .i64 (DK.rerr d i)]) ∧ Hid (BytesAt w' A (DK.got d i)) ∧ Hid (Below w.heap.size w w') := by
  cases ho : d.off with
  | true =>
    rw [DK.rerr_off ho, DK.got_off ho]
    exact (RefRead_off h i ho).mono fun e w' ⟨h1, h2⟩ => by subst h2; exact ⟨none, 0, h1, Lib.hid (By.BytesAt.nil _ _), Lib.hid (Below.refl _ _)⟩
  | false =>
    obtain ⟨A, c, rfl, _⟩ := h.rows hs
    by_cases h0 : i < 0 ∨ (d.ss.length : Int) ≤ i
    · rw [DK.rerr_no ho h0, DK.got_no ho h0]
      exact (RefRead_no h i ho h0).mono fun e w' ⟨h1, h2⟩ => by subst h2; exact ⟨none, 0, h1, Lib.hid (By.BytesAt.nil _ _), Lib.hid (Below.refl _ _)⟩
    · obtain ⟨k, rfl⟩ : ∃ k : Nat, i = (k : Int) := ⟨i.toNat, by omega⟩
      have hk : d.ss[k]? = some (d.ss[k]'(by omega)) := List.getElem?_eq_getElem _
      obtain ⟨e1, e2⟩ := DK.got_ok ho hk
      rw [e1, e2, hs.len _ _ hk]
      exact (RefRead_ok h hs k _ ho hk).mono fun e w' ⟨h1, h2, h3⟩ => ⟨_, _, h1, Lib.hid (Whole.reads h2.out), h3⟩
end
end Go.Proofs.Ytdagmkkkiaacoaa
