/- Lists of lists of bytes in memory; a part of a record as a value; a sector under way. -/
import Derived.Test.YtlnahmgcjaodkaaOctSum
import Derived.Test.YtlnahmgcjaodkaaOctFour
import Derived.Test.YtlnahmgcjaodkaaSecMath
import Derived.Laws.CopyOwn
import Derived.Laws.OwnMore
import Derived.Deep.OwnRows
import Derived.Recover
namespace Go.Proofs.Ytlnahmgcjaodkaa
open Go.RowKit
open By
set_option linter.unusedVariables false
set_option linter.unusedSimpArgs false
set_option maxRecDepth 100000
/-- A block that holds just these bytes reads as them. -/
theorem Whole.reads {w : World} {t : TypeId} {x : List UInt8} {b : Nat} (h : Whole w b t (u8s x).toArray) : BytesAt w (some ⟨b, 0, none⟩) x := fun _ =>
  ⟨b, 0, rfl, h.lt, fun j y hy => by
    rw [Nat.zero_add, h.cell, List.getElem?_toArray]
    unfold u8s
    rw [List.getElem?_map, hy]
    rfl⟩
/-- A list of lists of bytes in memory. -/
def RowsAt (w : World) (A : Option Addr) (ss : List (List UInt8)) : Prop :=
  0 < ss.length → ∃ b o, A = some ⟨b, o, none⟩ ∧ b < w.heap.size ∧ ∀ (j : Nat) (x : List UInt8), ss[j]? = some x → ∃ A' c, w.cell? ⟨b, o + j, none⟩ = some (.slice A' x.length c) ∧ BytesAt w A' x ∧ x.length ≤ c ∧ c ≤ 9223372036854775807
theorem RowsAt.below {w w' : World} {A : Option Addr} {ss : List (List UInt8)} (h : RowsAt w A ss) (hb : Below w.heap.size w w') : RowsAt w' A ss := fun h0 => by
  obtain ⟨b, o, e, hlt, hc⟩ := h h0
  refine ⟨b, o, e, Nat.lt_of_lt_of_le hlt hb.size, fun j x hx => ?_⟩
  obtain ⟨A', c, h1, h2, h3⟩ := hc j x hx
  exact ⟨A', c, (hb.cell (p := ⟨b, o + j, none⟩) hlt).trans h1, h2.below hb, h3⟩
theorem info_row : (Try.prog.info? 26).map (fun i => (i.zero, i.size, i.bytes)) = some (some (.slice none 0 0), 1, 24) := by kernel_rfl
/-- One header more is appended to a row of the call's own. -/
theorem run_app_hdr {W : World} {base : Nat} {v : Value} {n : Nat} {hs : List Value} (ty : TypeId) (hown : W.ownsRow base 26 1 v n hs) {p : Nat} {h : Value} (h1 : h.oneCell' = true) (hp : Whole W p 26 #[h]) (hl : (n + 1) * 24 ≤ 140737488355328) (hb : base ≤ W.heap.size) :
    ∃ v' w2, (Builtin.append_ #[22, 22] ty #[v, .slice (some ⟨p, 0, none⟩) 1 1]).run Try.prog W = .ok v' w2 ∧ w2.ownsRow base 26 1 v' (n + 1) (hs ++ [h]) ∧ Mod v.ownBlock.toList W w2 := by
  obtain ⟨i0, hi, hz0, hz1, hz2⟩ := info_parts info_row
  obtain ⟨v', w', hr, h2, h3, _, _⟩ := run_append_own_at (P := Try.prog) W base 22 ty 26 i0 (.slice none 0 0) 1 24 Try.underlying22 hi hz0 hz1 hz2 rfl (by decide) v n hs hown ⟨p, 0, none⟩ 1 1 [h] rfl
    (World.news_of_block (cs := #[h]) (t := 26) (fr := (0, 0)) hp) (by intro u hu; rw [List.mem_singleton.1 hu]; exact h1) (by unfold maxLen; omega) (by omega) hb
  exact ⟨v', w', hr, h2, (Mod.refl _ W).grown h3 (fun k hk => .inl (by rw [hk]; simp))⟩
theorem wp_app_hdr {W : World} {o : Oper} {a : Act} {K : Act → World → Prop} {Q : Exit → Act → World → Prop} (s x : Operand) (ho : o.op = .call { callee := .builtin .append, args := #[s, x], argTypes := #[22, 22] })
    (base : Nat) (v : Value) (n : Nat) (hs : List Value) (hown : W.ownsRow base 26 1 v n hs) (p : Nat) (h : Value) (h1 : h.oneCell' = true) (hp : Whole W p 26 #[h]) (hl : (n + 1) * 24 ≤ 140737488355328) (hb : base ≤ W.heap.size)
    (hsv : a.eval s = v) (hxv : a.eval x = .slice (some ⟨p, 0, none⟩) 1 1)
    (hK : ∀ v' w2, w2.ownsRow base 26 1 v' (n + 1) (hs ++ [h]) → Mod v.ownBlock.toList W w2 → K (a.put o.dst v') w2) : o.wp Try.prog a W K Q := by
  obtain ⟨v', w2, hr, h2, h3⟩ := run_app_hdr o.type hown h1 hp hl hb
  unfold Oper.wp execOp
  simp only [ho, resolve, invoke, builtin, Sem.run_bind, Sem.run_pure, Result.andThen_ok, List.map_toArray, List.map_cons, List.map_nil, hsv, hxv, hr]
  exact hK v' w2 h2 h3
theorem list_app_hdr {W : World} {ops : Array Oper} {rest : List Oper} {o : Oper} {a : Act} {Q : Exit → Act → World → Prop} (hgd : o.guard = none) (s x : Operand) (ho : o.op = .call { callee := .builtin .append, args := #[s, x], argTypes := #[22, 22] })
    (base : Nat) (v : Value) (n : Nat) (hs : List Value) (hown : W.ownsRow base 26 1 v n hs) (p : Nat) (h : Value) (h1 : h.oneCell' = true) (hp : Whole W p 26 #[h]) (hl : (n + 1) * 24 ≤ 140737488355328) (hb : base ≤ W.heap.size)
    (hsv : a.eval s = v) (hxv : a.eval x = .slice (some ⟨p, 0, none⟩) 1 1)
    (hK : ∀ v' w2, w2.ownsRow base 26 1 v' (n + 1) (hs ++ [h]) → Mod v.ownBlock.toList W w2 → wpList Try.prog ops Q rest (a.put o.dst v') w2) : wpList Try.prog ops Q (o :: rest) a W :=
  wpList_plain hgd fun _ hK' => wp_app_hdr s x ho base v n hs hown p h h1 hp hl hb hsv hxv (fun v' w2 k1 k2 => hK' _ _ (hK v' w2 k1 k2))
theorem step_app_hdr {W : World} {ops : Array Oper} {d : Option Tmp} {s x : Operand} {ty : TypeId} {ps : String} {af : Array Edge} {a : Act} {K : Act → World → Prop} {Q : Exit → Act → World → Prop} {E : Prop}
    (base : Nat) (v : Value) (n : Nat) (hs : List Value) (hown : W.ownsRow base 26 1 v n hs) (p : Nat) (h : Value) (h1 : h.oneCell' = true) (hp : Whole W p 26 #[h]) (hl : (n + 1) * 24 ≤ 140737488355328) (hb : base ≤ W.heap.size)
    (hsv : a.eval s = v) (hxv : a.eval x = .slice (some ⟨p, 0, none⟩) 1 1)
    (hK : ∀ v' w2, w2.ownsRow base 26 1 v' (n + 1) (hs ++ [h]) → Mod v.ownBlock.toList W w2 → K (a.put d v') w2) :
    if Region.wanted { dst := d, op := .call { callee := .builtin .append, args := #[s, x], argTypes := #[22, 22] }, type := ty, pos := ps, after := af, guard := none } (yielded ops a.tmps) = true
      then Oper.wp Try.prog { dst := d, op := .call { callee := .builtin .append, args := #[s, x], argTypes := #[22, 22] }, type := ty, pos := ps, after := af, guard := none } a W K Q else E := by
  rw [if_pos (by simp [Region.wanted])]
  exact wp_app_hdr s x rfl base v n hs hown p h h1 hp hl hb hsv hxv hK
theorem below_on2 {B : Nat} {a b c : World} (h : Below B a b) (hB : B ≤ b.heap.size ∨ B < b.heap.size) (k : Below b.heap.size b c) : Below B a c := h.trans (k.mono (by omega))

theorem eval_dst {α : Type} {x : α} : x = x := rfl
theorem zero64 : madeCells #[Value.int .u8 0] 64 = (u8s (List.replicate 64 0)).toArray := by kernel_rfl
/-- The value of a part whose bytes are the slice v. -/
def pcells (p : SC.Pt) (v : Value) : Array Value := #[.int .i64 (p.gen : Int), .int .i64 (p.seq : Int), .int .i64 (p.idx : Int), .int .i64 (p.parts : Int), v]
def pv (p : SC.Pt) (v : Value) : Value := .agg (pcells p v)
/-- No part's value. -/
def none5 : Value := .agg #[.int .i64 0, .int .i64 0, .int .i64 0, .int .i64 0, .slice none 0 0]
theorem splice_at {α : Type} {A R X : List α} {off : Nat} (h : A.length = off) : splice (A ++ R) off X = A ++ (X ++ R.drop X.length) := by
  subst h
  unfold splice
  rw [List.take_left, List.drop_append, List.drop_of_length_le (by omega), List.nil_append, Nat.add_sub_cancel_left]
theorem splice_u8s {L X : List UInt8} {off : Nat} : splice (u8s L) off (u8s X) = u8s (splice L off X) := by
  unfold splice u8s
  simp [List.map_append, List.map_take, List.map_drop]
theorem set_at {α : Type} {A R : List α} {x y : α} {off : Nat} (h : A.length = off) : (A ++ x :: R).set off y = A ++ y :: R := by
  subst h
  rw [List.set_append_right _ _ (Nat.le_refl _), Nat.sub_self, List.set_cons_zero]
/-- The sector of a part under way: the part boxed, the bytes laid so far. -/
structure SecSt (w0 : World) (cs : Array Value) (L : List UInt8) (w : World) : Prop where
  box : Whole w w0.heap.size 33 cs
  buf : Whole w (w0.heap.size + 1) 5 (u8s L).toArray
  below : Below w0.heap.size w0 w
section
variable {w0 w : World} {cs : Array Value} {L : List UInt8}
theorem SecSt.drew (h : SecSt w0 cs L w) : SecSt w0 cs L w.drew := ⟨h.box.drewN 1, h.buf.drewN 1, h.below.drew⟩
theorem SecSt.on (h : SecSt w0 cs L w) {w' : World} (hb : Below w.heap.size w w') : SecSt w0 cs L w' :=
  ⟨(Mod.of_below hb []).whole h.box (by simp), (Mod.of_below hb []).whole h.buf (by simp), below_on2 h.below (.inr (Nat.lt_of_succ_lt h.buf.lt)) hb⟩
theorem SecSt.set (h : SecSt w0 cs L w) (i : Nat) (x : UInt8) : SecSt w0 cs (L.set i x) (w.setCell ⟨w0.heap.size + 1, i, none⟩ (u8 x)) := by
  refine ⟨h.box.far (q := ⟨w0.heap.size + 1, i, none⟩) (by show w0.heap.size ≠ w0.heap.size + 1; omega) _, ?_, h.below.setCell (by show w0.heap.size ≤ w0.heap.size + 1; omega) _⟩
  have := h.buf.store i (u8 x)
  rw [List.setIfInBounds_toArray] at this
  unfold u8s
  rw [List.map_set]
  exact this
theorem SecSt.cell (h : SecSt w0 cs L w) {i : Nat} (hi : i < L.length) : w.cell? ⟨w0.heap.size + 1, i, none⟩ = some (u8 L[i]) := by
  rw [h.buf.cell, List.getElem?_toArray]
  unfold u8s
  rw [List.getElem?_map, List.getElem?_eq_getElem hi]
  rfl
theorem SecSt.copy (h : SecSt w0 cs L w) {A : Option Addr} {X : List UInt8} (hX : BytesAt w A X) {off : Nat} (hoff : off + X.length ≤ L.length) {o : Oper} {a : Act} {s x : Operand} {K : Act → World → Prop} {Q : Exit → Act → World → Prop} {dl dc n c : Nat}
    (ho : o.op = .call { callee := .builtin .copy, args := #[s, x], argTypes := #[26, 26] }) (hn : X.length = n) (hdl : n ≤ dl) (hs : a.eval s = .slice (some ⟨w0.heap.size + 1, off, none⟩) dl dc) (hx : a.eval x = .slice A n c)
    (hK : ∀ w', Hid (SecSt w0 cs (splice L off X) w') → K (a.put o.dst (goInt n)) w') : o.wp Try.prog a w K Q := by
  have hmin : (u8s X).length = Nat.min n dl := by rw [u8s_len, hn]; exact (Nat.min_eq_left hdl).symm
  have hbx := h.box.lt
  by_cases h0 : n = 0
  · have hX0 : X = [] := List.eq_nil_of_length_eq_zero (by omega)
    have hrun := run_copy_none (P := Try.prog) w 26 26 o.type 5 (some ⟨w0.heap.size + 1, off, none⟩) A dl dc n c Try.underlying26 (by kernel_rfl) (by rw [h0]; exact Nat.zero_min dl)
    unfold Oper.wp
    simp only [execOp, ho, resolve, invoke, builtin, Sem.run_bind, Sem.run_pure, Result.andThen_ok, List.map_toArray, List.map_cons, List.map_nil, hs, hx, hrun]
    have hg : goInt 0 = goInt n := by rw [h0]; rfl
    refine hg ▸ hK w (Lib.hid ?_)
    subst hX0
    unfold splice
    simpa using h
  · obtain ⟨b, q, e, hb, hc⟩ := hX (by omega)
    subst e
    have hrun := run_copy_row (P := Try.prog) w 26 26 o.type 5 (w0.heap.size + 1) off dl dc ⟨b, q, none⟩ n c (u8s L).toArray 5 (u8s X) Try.underlying26 (by kernel_rfl) h.buf hmin (BytesAt.cells hX) (by rw [List.size_toArray, u8s_len, u8s_len]; exact hoff) one_u8
    unfold Oper.wp
    simp only [execOp, ho, resolve, invoke, builtin, Sem.run_bind, Sem.run_pure, Result.andThen_ok, List.map_toArray, List.map_cons, List.map_nil, hs, hx, hrun]
    have hg : goInt (u8s X).length = goInt n := by rw [u8s_len, hn]
    refine hg ▸ hK _ (Lib.hid ?_)
    have e : ((u8s L).toArray.toList.take off ++ u8s X ++ (u8s L).toArray.toList.drop (off + (u8s X).length)).toArray = (u8s (splice L off X)).toArray := by
      rw [← splice_u8s]
      unfold splice
      simp
    rw [e]
    refine ⟨?_, setRow_heap w (w0.heap.size + 1) (u8s L).toArray _ 5 (0, 0) h.buf, below_setRow h.below (by omega) _⟩
    show (w.setRow (w0.heap.size + 1) _).heap[w0.heap.size]? = _
    rw [setRow_other w (w0.heap.size + 1) w0.heap.size _ (by omega)]
    exact h.box
theorem step_copy_sec (HS : Hid (SecSt w0 cs L w)) {A : Option Addr} {X : List UInt8} (HX : Hid (BytesAt w A X)) (off : Nat) (hoff : off + X.length ≤ L.length) {ops : Array Oper} {d : Option Tmp} {s x : Operand} {ty : TypeId} {ps : String} {af : Array Edge} {a : Act} {K : Act → World → Prop} {Q : Exit → Act → World → Prop} {E : Prop} (dl dc n c : Nat)
    (hn : X.length = n) (hdl : n ≤ dl) (hs : a.eval s = .slice (some ⟨w0.heap.size + 1, off, none⟩) dl dc) (hx : a.eval x = .slice A n c)
    (hK : ∀ w', Hid (SecSt w0 cs (splice L off X) w') → K (a.put d (goInt n)) w') :
    if Region.wanted { dst := d, op := .call { callee := .builtin .copy, args := #[s, x], argTypes := #[26, 26] }, type := ty, pos := ps, after := af, guard := none } (yielded ops a.tmps) = true
      then Oper.wp Try.prog { dst := d, op := .call { callee := .builtin .copy, args := #[s, x], argTypes := #[26, 26] }, type := ty, pos := ps, after := af, guard := none } a w K Q else E := by
  rw [if_pos (by simp [Region.wanted])]
  exact HS.out.copy HX.out hoff rfl hn hdl hs hx hK
end
end Go.Proofs.Ytlnahmgcjaodkaa
