/- append of a slice of bytes, whatever it is, behind a row of the call's own. -/
import Derived.Test.YtboflkadabagfaaBytes
import Derived.Test.YtboflkadabagfaaInts
import Derived.Deep.RegionHeld3
namespace Go.Proofs.Ytboflkadabagfaa.Gw
open Go.RowKit
open By
set_option linter.unusedVariables false
set_option linter.unusedSimpArgs false
set_option maxRecDepth 100000
theorem run_app_more {W : World} {base : Nat} {v : Value} {L X : List UInt8} {A : Option Addr} {c : Nat} (ty : TypeId) (hown : W.ownsRow base 5 1 v L.length (u8s L)) (hX : BytesAt W A X) (hl : L.length + X.length ≤ 140737488355328) (hb : base ≤ W.heap.size) :
    ∃ v' w2, (Builtin.append_ #[30, 30] ty #[v, .slice A X.length c]).run Try.prog W = .ok v' w2 ∧ w2.ownsRow base 5 1 v' (L ++ X).length (u8s (L ++ X)) ∧ Mod v.ownBlock.toList W w2 ∧ (v'.ownBlock = v.ownBlock ∨ v'.ownBlock = some W.heap.size) := by
  obtain ⟨i0, hi, hz0, hz1, hz2⟩ := info_parts info_u8
  cases A with
  | some ad =>
    obtain ⟨v', w', hr, h2, h3, _, h5⟩ := run_append_own_at (P := Try.prog) W base 30 ty 5 i0 (.int .u8 0) 1 1 Try.underlying30 hi hz0 hz1 hz2 rfl (by decide) v L.length (u8s L) hown ad X.length c (u8s X) (by rw [u8s_len, Nat.mul_one]) hX.cells one_u8 (by unfold maxLen; omega) (by omega) hb
    exact ⟨v', w', hr, by rw [List.length_append, u8s_append]; exact h2, (Mod.refl _ W).grown h3 (fun k hk => .inl (by rw [hk]; simp)), h5⟩
  | none =>
    have h0 : X = [] := by
      cases X with
      | nil => rfl
      | cons y r =>
        obtain ⟨b, o, e, _⟩ := hX (by simp)
        cases e
    subst h0
    refine ⟨v, W, ?_, by simpa using hown, Mod.refl _ W, .inl rfl⟩
    rcases hown.2 with ⟨rfl, _⟩ | ⟨g, cap, cur, rfl, _, hg, hle, hcap, _⟩
    · simp [Builtin.append_, run_underlying Try.underlying30, sizeOf, typeInfo, hi, Builtin.lenOf, Builtin.firstCells, storeCells]
    · have hn : ¬ maxLen < L.length := by omega
      simp [Builtin.append_, run_underlying Try.underlying30, sizeOf, typeInfo, hi, Builtin.lenOf, Builtin.firstCells, storeCells, hle, hn]
theorem wp_app_more {W : World} {o : Oper} {a : Act} {K : Act → World → Prop} {Q : Exit → Act → World → Prop} (s x : Operand) (ho : o.op = .call { callee := .builtin .append, args := #[s, x], argTypes := #[30, 30] })
    (base : Nat) (v : Value) (L X : List UInt8) (A : Option Addr) (m c : Nat) (hown : W.ownsRow base 5 1 v L.length (u8s L)) (hX : BytesAt W A X) (hm : X.length = m) (hl : L.length + X.length ≤ 140737488355328) (hb : base ≤ W.heap.size)
    (hsv : a.eval s = v) (hxv : a.eval x = .slice A m c)
    (hK : ∀ v' w2, w2.ownsRow base 5 1 v' (L ++ X).length (u8s (L ++ X)) → Mod v.ownBlock.toList W w2 → (v'.ownBlock = v.ownBlock ∨ v'.ownBlock = some W.heap.size) → K (a.put o.dst v') w2) : o.wp Try.prog a W K Q := by
  subst hm
  obtain ⟨v', w2, hr, h2, h3, h4⟩ := run_app_more (c := c) o.type hown hX hl hb
  unfold Oper.wp execOp
  simp only [ho, resolve, invoke, builtin, Sem.run_bind, Sem.run_pure, Result.andThen_ok, List.map_toArray, List.map_cons, List.map_nil, hsv, hxv, hr]
  exact hK v' w2 h2 h3 h4
theorem app_more {W : World} {ops : Array Oper} {rest : List Oper} {o : Oper} {a : Act} {Q : Exit → Act → World → Prop} (hgd : o.guard = none) (s x : Operand) (ho : o.op = .call { callee := .builtin .append, args := #[s, x], argTypes := #[30, 30] })
    (base : Nat) (v : Value) (L X : List UInt8) (A : Option Addr) (m c : Nat) (hown : W.ownsRow base 5 1 v L.length (u8s L)) (hX : BytesAt W A X) (hm : X.length = m) (hl : L.length + X.length ≤ 140737488355328) (hb : base ≤ W.heap.size)
    (hsv : a.eval s = v) (hxv : a.eval x = .slice A m c)
    (hK : ∀ v' w2, w2.ownsRow base 5 1 v' (L ++ X).length (u8s (L ++ X)) → Mod v.ownBlock.toList W w2 → (v'.ownBlock = v.ownBlock ∨ v'.ownBlock = some W.heap.size) → wpList Try.prog ops Q rest (a.put o.dst v') w2) : wpList Try.prog ops Q (o :: rest) a W :=
  wpList_plain hgd fun _ hK' => wp_app_more s x ho base v L X A m c hown hX hm hl hb hsv hxv (fun v' w2 k1 k2 k3 => hK' _ _ (hK v' w2 k1 k2 k3))
/-- A row that the call has grown for itself, and what it left standing. -/
structure Grow (w0 : World) (L : List UInt8) (v : Value) (w : World) : Prop where
  row : w.ownsRow w0.heap.size 5 1 v L.length (u8s L)
  below : Below w0.heap.size w0 w
section
variable {w0 w : World} {L X : List UInt8} {v : Value}
theorem Grow.nil (w : World) : Grow w [] (.slice none 0 0) w := ⟨World.ownsRow_nil _ _ _ _, Below.refl _ _⟩
theorem Grow.on (h : Grow w0 L v w) {w' : World} (hb : Below w.heap.size w w') : Grow w0 L v w' :=
  ⟨(Mod.of_below hb []).own h.row (by simp), h.below.trans (hb.mono (by have := h.below.size; omega))⟩
theorem Grow.bytes (h : Grow w0 L v w) {A : Option Addr} {n c : Nat} (e : v = .slice A n c) : BytesAt w A L := by
  subst e
  obtain ⟨A', c', e, _⟩ := own_shape h.row
  cases e
  exact BytesAt.own h.row
theorem Grow.then_ (h : Grow w0 L v w) {v' : Value} {w2 : World} (k1 : w2.ownsRow w0.heap.size 5 1 v' (L ++ X).length (u8s (L ++ X))) (k2 : Mod v.ownBlock.toList w w2) : Grow w0 (L ++ X) v' w2 :=
  ⟨k1, h.below.trans (k2.below h.below.size (fun x hx => (h.row.lt x (by simpa using hx)).1))⟩
end
theorem app_grow {w0 w : World} {L X : List UInt8} {v : Value} {ops : Array Oper} {rest : List Oper} {o : Oper} {a : Act} {Q : Exit → Act → World → Prop} (hG : Grow w0 L v w) {A : Option Addr} {m c : Nat} (hX : BytesAt w A X) (hm : X.length = m) (hl : L.length + X.length ≤ 140737488355328) (hgd : o.guard = none) (s x : Operand) (ho : o.op = .call { callee := .builtin .append, args := #[s, x], argTypes := #[30, 30] })
    (hsv : a.eval s = v) (hxv : a.eval x = .slice A m c) (hK : ∀ v' w2, Hid (Grow w0 (L ++ X) v' w2) → Hid (Mod v.ownBlock.toList w w2) → wpList Try.prog ops Q rest (a.put o.dst v') w2) : wpList Try.prog ops Q (o :: rest) a w :=
  app_more hgd s x ho w0.heap.size v L X A m c hG.row hX hm hl hG.below.size hsv hxv (fun v' w2 k1 k2 _ => hK v' w2 (Lib.hid (hG.then_ k1 k2)) (Lib.hid k2))
/-- A box that the call has made ahead of the row stands through it. -/
theorem own_block_ne {w0 w : World} {L : List UInt8} {v : Value} (h : Grow w0 L v w) {g : Nat} {t : TypeId} {cs : Array Value} (hg : Whole w g t cs) (ht : t ≠ 5) : g ∉ v.ownBlock.toList := fun hx => own_ne h.row hg (Ne.symm ht) (by simpa using hx)
theorem ints_lit (w : World) (l : List Int) : IntsAt (w.alloc (.cells (i64s l).toArray 3)) (some ⟨w.heap.size, 0, none⟩) l := fun h0 => by
  refine ⟨w.heap.size, 0, rfl, by simp, fun j x hx => ?_⟩
  rw [(Whole.new w 3 (i64s l).toArray).cell]
  rw [Nat.zero_add, List.getElem?_toArray]
  unfold i64s
  rw [List.getElem?_map, hx]
  rfl
end Go.Proofs.Ytboflkadabagfaa.Gw
