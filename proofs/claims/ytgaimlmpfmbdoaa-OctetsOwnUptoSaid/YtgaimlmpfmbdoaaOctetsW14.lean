/- append of a list of bytes onto an empty list of the call's own, as a step of a walk and of a region that draws its order. -/
import Derived.Test.YtgaimlmpfmbdoaaOctetsW13
namespace Go.Proofs.Ytgaimlmpfmbdoaa
open Go.RowKit
set_option linter.unusedVariables false
theorem conv_of {w : World} {A : Option Addr} {n c : Nat} {xs : List UInt8} (hn : n = xs.length) (h : BytesAt w A xs) : (convert 28 9 (.slice A n c)).run Try.prog w = .ok (.string ⟨xs.toArray⟩) w := by
  subst hn
  exact str_of h
theorem below_on {w a b : World} (h : Below w.heap.size w a) (k : Below a.heap.size a b) : Below w.heap.size w b := h.trans (k.mono h.size)
theorem below_of_drew {B : Nat} {a b : World} (h : Below B a.drew b) : Below B a b := ⟨h.os, h.tape, h.output, h.size, h.block⟩
/-- What is known of a list of bytes that was made just now. -/
def Made (w : World) (xs : List UInt8) (A : Option Addr) (n c : Nat) (w' : World) : Prop :=
  Hid (n = xs.length) ∧ Hid (BytesAt w' A xs) ∧ Hid (w'.ownsRow w.heap.size 5 1 (.slice A n c) n (u8s xs)) ∧ Hid (Below w.heap.size w w') ∧ n ≤ c ∧ c ≤ 9223372036854775807
theorem run_app_all {w : World} {A : Option Addr} {c : Nat} {l : List UInt8} (ty : TypeId) (hB : BytesAt w A l) (hl : l.length ≤ 140737488355328) :
    ∃ A' n' c' w2, (Builtin.append_ #[28, 28] ty #[.slice (some ⟨w.heap.size, 0, none⟩) 0 0, .slice A l.length c]).run Try.prog (w.alloc (.cells #[] 5)) = .ok (.slice A' n' c') w2 ∧ Made w l A' n' c' w2 := by
  obtain ⟨i0, hi, hz0, hz1, hz2⟩ := info_parts info_u8
  have hown : (w.alloc (.cells #[] 5)).ownsRow w.heap.size 5 1 (.slice (some ⟨w.heap.size, 0, none⟩) 0 0) 0 [] := World.ownsRow_lit w #[] 0 (Nat.le_refl _) (by decide) rfl
  cases A with
  | some ad =>
    obtain ⟨v', w', hrun, h2, h3, _, _⟩ := run_append_own_at (P := Try.prog) (w.alloc (.cells #[] 5)) w.heap.size 28 ty 5 i0 (.int .u8 0) 1 1 Try.underlying28 hi hz0 hz1 hz2 rfl (by decide) _ 0 [] hown ad l.length c (u8s l) (by rw [u8s_len, Nat.mul_one]) (hB.below ((Below.refl _ w).alloc (Nat.le_refl _) _)).cells one_u8 (by unfold maxLen; omega) (by omega) (by simp)
    rw [Nat.zero_add, List.nil_append] at h2
    obtain ⟨A', c', rfl, k1, k2⟩ := own_shape h2
    exact ⟨A', _, c', w', hrun, Lib.hid rfl, Lib.hid (BytesAt.own h2), Lib.hid h2, Lib.hid (((Below.refl _ w).alloc (Nat.le_refl _) _).grown h3 (by simp) (fun k hk => by cases hk; exact Nat.le_refl _)), k1, k2⟩
  | none =>
    have h0 : l = [] := by
      cases l with
      | nil => rfl
      | cons y r =>
        obtain ⟨b, o, e, _⟩ := hB (by simp)
        cases e
    subst h0
    refine ⟨some ⟨w.heap.size, 0, none⟩, 0, 0, w.alloc (.cells #[] 5), ?_, Lib.hid rfl, Lib.hid (BytesAt.nil _ _), Lib.hid hown, Lib.hid ((Below.refl _ w).alloc (Nat.le_refl _) _), Nat.le_refl _, by omega⟩
    simp [Builtin.append_, run_underlying Try.underlying28, sizeOf, typeInfo, hi, Builtin.lenOf, Builtin.firstCells, storeCells]
theorem wp_app_all {w : World} {o : Oper} {a : Act} {K : Act → World → Prop} {Q : Exit → Act → World → Prop} (s x : Operand)
    (ho : o.op = .call { callee := .builtin .append, args := #[s, x], argTypes := #[28, 28] })
    (A : Option Addr) (c n : Nat) (l : List UInt8) (hn : n = l.length) (hB : BytesAt w A l) (H : Nat) (hH : w.heap.size = H) (hs : a.eval s = .slice (some ⟨H, 0, none⟩) 0 0) (hx : a.eval x = .slice A n c) (hl : l.length ≤ 140737488355328)
    (h : ∀ A' n' c' w2, Made w l A' n' c' w2 → K (a.put o.dst (.slice A' n' c')) w2) : o.wp Try.prog a (w.alloc (.cells #[] 5)) K Q := by
  subst hn
  subst hH
  obtain ⟨A', n', c', w2, hrun, hm⟩ := run_app_all (c := c) o.type hB hl
  unfold Oper.wp execOp
  simp only [ho, resolve, invoke, builtin, Sem.run_bind, Sem.run_pure, Result.andThen_ok, List.map_toArray, List.map_cons, List.map_nil, hs, hx, hrun]
  exact h A' n' c' w2 hm
theorem app_all {w : World} {ops : Array Oper} {rest : List Oper} {o : Oper} {a : Act} {Q : Exit → Act → World → Prop} (hgd : o.guard = none) (s x : Operand)
    (ho : o.op = .call { callee := .builtin .append, args := #[s, x], argTypes := #[28, 28] })
    (A : Option Addr) (c n : Nat) (l : List UInt8) (hn : n = l.length) (hB : BytesAt w A l) (H : Nat) (hH : w.heap.size = H) (hs : a.eval s = .slice (some ⟨H, 0, none⟩) 0 0) (hx : a.eval x = .slice A n c) (hl : l.length ≤ 140737488355328)
    (h : ∀ A' n' c' w2, Made w l A' n' c' w2 → wpList Try.prog ops Q rest (a.put o.dst (.slice A' n' c')) w2) : wpList Try.prog ops Q (o :: rest) a (w.alloc (.cells #[] 5)) :=
  wpList_plain hgd fun _ hK => wp_app_all s x ho A c n l hn hB H hH hs hx hl fun A' n' c' w2 hm => hK _ _ (h A' n' c' w2 hm)
theorem step_app_all {w : World} {ops : Array Oper} {o : Oper} {a : Act} {K : Act → World → Prop} {Q : Exit → Act → World → Prop} {E : Prop} (hgd : o.guard = none) (s x : Operand)
    (ho : o.op = .call { callee := .builtin .append, args := #[s, x], argTypes := #[28, 28] })
    (A : Option Addr) (c n : Nat) (l : List UInt8) (hn : n = l.length) (hB : BytesAt w A l) (H : Nat) (hH : w.heap.size = H) (hs : a.eval s = .slice (some ⟨H, 0, none⟩) 0 0) (hx : a.eval x = .slice A n c) (hl : l.length ≤ 140737488355328)
    (h : ∀ A' n' c' w2, Made w l A' n' c' w2 → K (a.put o.dst (.slice A' n' c')) w2) : if Region.wanted o (yielded ops a.tmps) = true then Oper.wp Try.prog o a (w.alloc (.cells #[] 5)) K Q else E := by
  have hw : Region.wanted o (yielded ops a.tmps) = true := by simp [Region.wanted, hgd]
  rw [if_pos hw]
  exact wp_app_all s x ho A c n l hn hB H hH hs hx hl h
/-- The same where the operation stands written out: it fails at once at any other. -/
theorem step_app_lit {w W : World} {ops : Array Oper} {d : Option Tmp} {s x : Operand} {ty : TypeId} {ps : String} {af : Array Edge} {a : Act} {K : Act → World → Prop} {Q : Exit → Act → World → Prop} {E : Prop}
    (A : Option Addr) (c n : Nat) (l : List UInt8) (hn : n = l.length) (hB : BytesAt w A l) (H : Nat) (hH : w.heap.size = H) (hW : W = w.alloc (.cells #[] 5)) (hs : a.eval s = .slice (some ⟨H, 0, none⟩) 0 0) (hx : a.eval x = .slice A n c) (hl : l.length ≤ 140737488355328)
    (h : ∀ A' n' c' w2, Made w l A' n' c' w2 → K (a.put d (.slice A' n' c')) w2) :
    if Region.wanted { dst := d, op := .call { callee := .builtin .append, args := #[s, x], argTypes := #[28, 28] }, type := ty, pos := ps, after := af, guard := none } (yielded ops a.tmps) = true
      then Oper.wp Try.prog { dst := d, op := .call { callee := .builtin .append, args := #[s, x], argTypes := #[28, 28] }, type := ty, pos := ps, after := af, guard := none } a W K Q else E := by
  subst hW
  exact step_app_all rfl s x rfl A c n l hn hB H hH hs hx hl h
end Go.Proofs.Ytgaimlmpfmbdoaa
