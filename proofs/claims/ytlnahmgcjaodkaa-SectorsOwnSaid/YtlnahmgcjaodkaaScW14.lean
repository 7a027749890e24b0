/- Whether two lists of lists of bytes are one (SameAll); the statement's copies (own); whether two parts are one (same). -/
import Derived.Test.YtlnahmgcjaodkaaScW13
namespace Go.Proofs.Ytlnahmgcjaodkaa
open Go.RowKit
open By
set_option linter.unusedVariables false
set_option linter.unusedSimpArgs false
set_option maxRecDepth 100000
theorem below_drewN {B : Nat} {a b : World} (h : Below B a b) (n : Nat) : Below B a (b.drewN n) := ⟨h.os, h.tape, h.output, h.size, h.block⟩
set_option maxHeartbeats 2000000 in
theorem SameAll_eq (xs ys : List (List UInt8)) (n : Nat) (A B : Option Addr) (c c' : Nat) (w : World) (hA : RowsAt w A xs) (hB : RowsAt w B ys) (hx : xs.length = n) (hy : ys.length = n) (hn : n ≤ 9223372036854775807) :
    Calls Try.prog 14 #[.slice A n c, .slice B n c'] w fun e w' => e = .returned (.bool (decide (xs = ys))) ∧ Hid (Below w.heap.size w w') := by
  have HA := Lib.hid hA
  have HB := Lib.hid hB
  have HXL := Lib.hid hx
  have HYL := Lib.hid hy
  clear hA hB hx hy
  go_enter Try.func14, Try.ntmps14
  go_wp2_with fail
  go_loopw [5] (fun i wr => ∃ k : Nat, i = .int .i64 (k : Int) ∧ k ≤ n ∧ Hid (xs.take k = ys.take k) ∧ Hid (Below w.heap.size w wr)) (fun i _ => n - (intOf i).toNat)
  case atStart => exact ⟨0, rfl, Nat.zero_le _, Lib.hid rfl, Lib.hid (Below.refl _ _)⟩
  case round =>
    obtain ⟨k, rfl, hk, HT, HW⟩ := hrel
    by_cases hlt : k < n
    · have HX := Lib.hid (List.getElem?_eq_getElem (l := xs) (i := k) (by have := HXL.out; omega))
      have HY := Lib.hid (List.getElem?_eq_getElem (l := ys) (i := k) (by have := HYL.out; omega))
      have HT1 := Lib.hid (show xs[k]'(by have := HXL.out; omega) = ys[k]'(by have := HYL.out; omega) → xs.take (k + 1) = ys.take (k + 1) from fun e => by rw [List.take_succ_eq_append_getElem (by have := HXL.out; omega), List.take_succ_eq_append_getElem (by have := HYL.out; omega), HT.out, e])
      generalize xs[k]'(by have := HXL.out; omega) = p at HX HT1
      generalize ys[k]'(by have := HYL.out; omega) = q at HY HT1
      obtain ⟨b, o, eA, hb, hca⟩ := (HA.out.below HW.out) (by have := HXL.out; omega)
      obtain ⟨b', o', eB, hb', hcb⟩ := (HB.out.below HW.out) (by have := HYL.out; omega)
      subst eA
      subst eB
      obtain ⟨A1, c1, a0, hd1, _, _⟩ := hca k p HX.out
      obtain ⟨A2, c2, a1, hd2, _, _⟩ := hcb k q HY.out
      have hcv1 := fun n : Nat => By.str_of (c := c1) (show BytesAt (wr.drewN n) A1 p from hd1)
      have hcv2 := fun n : Nat => By.str_of (c := c2) (show BytesAt (wr.drewN n) A2 q from hd2)
      clear hca hcb hd1 hd2
      by_cases hpq : p = q
      · have HT2 := Lib.hid (HT1.out hpq)
        subst hpq
        go_wp2_with fail
        go_quiet (fail)
        go_wp2_with fail
        go_roundw
        case rel => exact ⟨k + 1, rfl, hlt, HT2, Lib.hid (below_drewN HW.out _)⟩
        case measure => simp only [intOf]; omega
      · have hne2 : (p.toArray.toList == q.toArray.toList) = false := by simpa using hpq
        have HR := Lib.hid (show (decide (xs = ys)) = false from decide_eq_false (fun e => hpq (by have h1 := HX.out; have h2 := HY.out; rw [e, h2] at h1; exact (Option.some.inj h1).symm)))
        go_wp2_with fail
        go_quiet (fail)
        go_wp2_with fail
        go_ret
        exact ⟨ret_bool HR.out.symm, Lib.hid (below_drewN HW.out _)⟩
    · obtain rfl : k = n := by omega
      have HR := Lib.hid (show (decide (xs = ys)) = true from decide_eq_true (by
        have := HT.out
        rw [List.take_of_length_le (by have := HXL.out; omega), List.take_of_length_le (by have := HYL.out; omega)] at this
        exact this))
      go_wp2_with fail
      go_ret
      exact ⟨ret_bool HR.out.symm, HW⟩
theorem SameAll_any (xs ys : List (List UInt8)) (A B : Option Addr) (c c' : Nat) (w : World) (hA : RowsAt w A xs) (hB : RowsAt w B ys) (hx : xs.length ≤ 9223372036854775807) :
    Calls Try.prog 14 #[.slice A xs.length c, .slice B ys.length c'] w fun e w' => e = .returned (.bool (decide (xs = ys))) ∧ Hid (Below w.heap.size w w') := by
  by_cases hl : xs.length = ys.length
  · rw [← hl]
    exact SameAll_eq xs ys xs.length A B c c' w hA hB rfl hl.symm hx
  · have hne : ((xs.length : Int) == (ys.length : Int)) = false := by simp; omega
    have HR := Lib.hid (show (decide (xs = ys)) = false from decide_eq_false (fun e => hl (by rw [e])))
    go_enter Try.func14, Try.ntmps14
    go_wp2_with fail
    go_ret
    exact ⟨ret_bool HR.out.symm, Lib.hid (Below.refl _ _)⟩
/-- A list and what shall be put behind it. -/
structure Rdy (base : Nat) (rs : List (List UInt8)) (v : Value) (x : List UInt8) (u : Value) (w : World) : Prop where
  lst : Lst base rs v w
  own : w.ownsRow base 5 1 u x.length (u8s x)
  le : base ≤ w.heap.size
  room : (rs.length + 1) * 24 ≤ 140737488355328
theorem app_rdy {base : Nat} {rs : List (List UInt8)} {v : Value} {x : List UInt8} {u : Value} {w : World} (HR : Hid (Rdy base rs v x u w)) {ops : Array Oper} {rest : List Oper} {o : Oper} {a : Act} {Q : Exit → Act → World → Prop} (hgd : o.guard = none) (s y : Operand) (ho : o.op = .call { callee := .builtin .append, args := #[s, y], argTypes := #[22, 22] })
    (hsv : a.eval s = v) (hyv : a.eval y = .slice (some ⟨w.heap.size, 0, none⟩) 1 1) (hu : u.oneCell' = true)
    (hK : ∀ v' w2, Hid (Lst base (rs ++ [x]) v' w2) → Hid (Below base w w2) → wpList Try.prog ops Q rest (a.put o.dst v') w2) : wpList Try.prog ops Q (o :: rest) a (w.alloc (.cells #[u] 26)) := by
  have h := HR.out
  obtain ⟨hs, h1, h2⟩ := h.lst.ex
  have hM : Mod [] w (w.alloc (.cells #[u] 26)) := (Mod.refl [] w).alloc _
  refine list_app_hdr hgd s y ho base v rs.length hs (hM.own h1 (by simp)) w.heap.size u hu (Whole.new w _ _) h.room (Nat.le_trans h.le hM.size) hsv hyv (fun v' w2 k1 k2 => hK v' w2 (Lib.hid ?_) (Lib.hid ?_))
  · exact Lst.push h.le h1 h2 hM (hM.own h.own (by simp)) k1 k2
  · exact ((hM.mono (G := v.ownBlock.toList) (by simp)).trans k2 (fun x hx => .inl hx)).below h.le (fun x hx => (h1.lt x (by simpa using hx)).1)
set_option maxHeartbeats 2000000 in
theorem own_any (A : Option Addr) (n c : Nat) (ss : List (List UInt8)) (w : World) (hA : RowsAt w A ss) (hn : ss.length = n) (hnc : n ≤ 5864062014805) (hl : ∀ (j : Nat) (x : List UInt8), ss[j]? = some x → x.length ≤ 140737488355328) :
    Calls Try.prog 19 #[.slice A n c] w fun e w' => ∃ v, e = .returned v ∧ Hid (Lst w.heap.size ss v w') ∧ Hid (Below w.heap.size w w') := by
  have HA := Lib.hid hA
  have HN := Lib.hid hn
  have HLE := Lib.hid hl
  clear hA hn hl
  go_enter Try.func19, Try.ntmps19
  go_wp2_with fail
  go_loopw [3, 8] (fun v i wr => ∃ k : Nat, i = .int .i64 (k : Int) ∧ k ≤ n ∧ Hid (Lst w.heap.size (ss.take k) v wr) ∧ Hid (Below w.heap.size w wr)) (fun _ i _ => n - (intOf i).toNat)
  case atStart => exact ⟨0, rfl, Nat.zero_le _, Lib.hid (Lst.nil w _), Lib.hid (Below.refl _ w)⟩
  case round =>
    obtain ⟨k, rfl, hk, HL, HBW⟩ := hrel
    by_cases hlt : k < n
    · obtain ⟨b, o, rfl, hbl, hca⟩ := (HA.out.below HBW.out) (by have := HN.out; omega)
      obtain ⟨x, hx⟩ : ∃ x, ss[k]? = some x := ⟨_, List.getElem?_eq_getElem (by have := HN.out; omega)⟩
      obtain ⟨A1, c1, a0, hB, _, _⟩ := hca k x hx
      have HTK := Lib.hid (show ss.take (k + 1) = ss.take k ++ [x] by rw [List.take_add_one, hx]; rfl)
      have HTL := Lib.hid (show (ss.take k).length = k by rw [List.length_take, HN.out]; omega)
      have HXL := Lib.hid (HLE.out k x hx)
      obtain ⟨hs, h1, h2⟩ := HL.out.ex
      rw [HTL.out] at h1
      obtain ⟨A4, c4, rfl, hc4, hc5⟩ := own_shape h1
      have H1 := Lib.hid h1
      have H2 := Lib.hid h2
      have HBX := Lib.hid hB
      have hrw : w.heap.size ≤ wr.heap.size := HBW.out.size
      have HLL := Lib.hid (show (k + 1) * 24 ≤ 140737488355328 by omega)
      clear h1 h2 hca hx hB
      go_wp2_with (first
        | (at_builtin; refine app_all rfl (.tmp 13) (.tmp 14) rfl A1 c1 x.length x rfl HBX.out wr.heap.size rfl rfl rfl HXL.out ?_; intro A5 n5 c5 w5 hM; obtain ⟨HN5, HB5, HO5, HE5, _, _⟩ := hM; have HR5 : Hid (Rdy w.heap.size (ss.take k) (.slice A4 k c4) x (.slice A5 n5 c5) w5) := Lib.hid ⟨HL.out.below HE5.out, by rw [← HN5.out]; exact own_base HO5.out hrw, Nat.le_trans hrw HE5.out.size, by rw [HTL.out]; exact HLL.out⟩)
        | (refine app_rdy (by assumption) rfl (.tmp 12) (.tmp 16) rfl rfl rfl rfl ?_; intro v6 w6 HL6 HB6))
      rw [← HTK.out] at HL6
      have HBF := Lib.hid ((below_on2 HBW.out (.inl hrw) HE5.out).trans HB6.out)
      go_roundw
      case rel => exact ⟨k + 1, by go_num, hlt, HL6, HBF⟩
      case measure => simp only [intOf]; go_num
    · obtain rfl : k = n := by omega
      go_wp2_with fail
      go_ret
      exact ⟨_, rfl, by have h := HL; rw [List.take_of_length_le (by rw [HN.out]; exact Nat.le_refl _)] at h; exact h, HBW⟩
set_option maxHeartbeats 2000000 in
theorem same_yes (p : SC.Pt) (A B : Option Addr) (n c c' : Nat) (w : World) (hA : BytesAt w A p.data) (hB : BytesAt w B p.data) (hn : p.data.length = n) :
    Calls Try.prog 17 #[pv p (.slice A n c), pv p (.slice B n c')] w fun e w' => e = .returned (.bool true) ∧ Hid (Below w.heap.size w w') := by
  have HB1 := Lib.hid ((Below.refl _ w).alloc (Nat.le_refl _) (.cells (pcells p (.slice A n c)) 33))
  have HB2 := Lib.hid (HB1.out.alloc (by simp) (.cells (pcells p (.slice B n c')) 33))
  have hc1 := conv_of (c := c) hn.symm (hA.below HB2.out)
  have hc2 := conv_of (c := c') hn.symm (hB.below HB2.out)
  clear hA hB
  unfold pv
  unfold pcells at *
  go_enter Try.func17, Try.ntmps17
  go_wp2_with fail
  go_ret
  exact ⟨ret_bool (by simp), HB2⟩
end Go.Proofs.Ytlnahmgcjaodkaa
