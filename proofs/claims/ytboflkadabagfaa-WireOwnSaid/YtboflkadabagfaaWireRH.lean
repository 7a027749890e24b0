/- Texts that belong together: WireR12, Turn, WireR14. -/
import Derived.Test.YtboflkadabagfaaWireRD
import Derived.Test.YtboflkadabagfaaWireW14
import Derived.Test.YtboflkadabagfaaBytes
import Derived.Test.YtboflkadabagfaaInts
import Derived.Deep.AppendSrc
import Derived.Test.YtboflkadabagfaaWireRG
import Derived.Test.YtboflkadabagfaaGrow
namespace Go.Proofs.Ytboflkadabagfaa
open Go.RowKit
open Oct (BytesAt u8s)
open WM (Msg)
set_option linter.unusedVariables false
set_option linter.unusedSimpArgs false
set_option maxRecDepth 100000
/-- The bytes that Encode answers, and its error. -/
def encE (m : Msg) : List UInt8 := if WM.valid m = true then enc m else []
def encC (m : Msg) : Int := if WM.valid m = true then 0 else 22
theorem encE_len (m : Msg) : (encE m).length ≤ 154 := by
  unfold encE
  split
  · exact enc_len (by assumption)
  · simp
def EncP (w : World) (m : Msg) (e : Ending) (w' : World) : Prop := ∃ A c, e = .returned (.tuple #[.slice A (encE m).length c, .int .i64 (encC m)]) ∧ Hid (By.BytesAt w' A (encE m)) ∧ Below w.heap.size w w'
theorem wEnc_any (A : Option Addr) (c : Nat) (m : Msg) (w : World) (h : Fit w A c m) : Calls Try.prog 8 #[.agg (cellsM m (.slice A m.stamp.length c))] w (EncP w m) := by
  by_cases hv : WM.valid m = true
  · have e1 : encE m = enc m := if_pos hv
    have e2 : encC m = 0 := if_pos hv
    refine (WEncode_yes A c m w h hv).mono ?_
    rintro e w' ⟨v, rfl, hg⟩
    obtain ⟨A', c', rfl, _, _⟩ := By.own_shape hg.out.1
    unfold EncP
    rw [e1, e2]
    exact ⟨A', c', rfl, Lib.hid (By.BytesAt.own hg.out.1), hg.out.2⟩
  · have e1 : encE m = [] := if_neg hv
    have e2 : encC m = 22 := if_neg hv
    refine (WEncode_no A c m w h (by simpa using hv)).mono ?_
    rintro e w' ⟨rfl, hb⟩
    unfold EncP
    rw [e1, e2]
    exact ⟨none, 0, rfl, Lib.hid (By.BytesAt.nil _ _), hb⟩
theorem rEnc_any (A : Option Addr) (c : Nat) (m : Msg) (w : World) (h : Fit6 w A c m) : Calls Try.prog 10 #[.agg (cellsM m (.slice A m.stamp.length c))] w (EncP w m) := by
  by_cases hv : WM.valid m = true
  · have e1 : encE m = enc m := if_pos hv
    have e2 : encC m = 0 := if_pos hv
    refine (r6_Encode_yes A c m w h hv).mono ?_
    rintro e w' ⟨v, rfl, hg⟩
    obtain ⟨A', c', rfl, _, _⟩ := By.own_shape hg.out.1
    unfold EncP
    rw [e1, e2]
    exact ⟨A', c', rfl, Lib.hid (By.BytesAt.own hg.out.1), hg.out.2⟩
  · have e1 : encE m = [] := if_neg hv
    have e2 : encC m = 22 := if_neg hv
    refine (r6_Encode_no A c m w h (by simpa using hv)).mono ?_
    rintro e w' ⟨rfl, hb⟩
    unfold EncP
    rw [e1, e2]
    exact ⟨none, 0, rfl, Lib.hid (By.BytesAt.nil _ _), hb⟩
theorem Came.six {w : World} {A : Option Addr} {c : Nat} {m : Msg} (h : Came w A c m) : Fit6 w A c m := ⟨h.wide, h.ints, h.le, by have := h.cap; omega⟩
theorem Fit.six {w : World} {A : Option Addr} {c : Nat} {m : Msg} (h : Fit w A c m) : Fit6 w A c m := ⟨h.wide, h.ints, h.le, h.cap⟩
end Go.Proofs.Ytboflkadabagfaa
namespace Go.Proofs.Ytboflkadabagfaa.Own
open Go.RowKit
open By (BytesAt u8s own_shape)
set_option linter.unusedVariables false
set_option linter.unusedSimpArgs false
set_option maxRecDepth 100000
/-- All rows stay rows. -/
def Holds (W w2 : World) : Prop := ∀ (b : Nat) (t : TypeId) (cs : Array Value), Whole W b t cs → ∃ cs', Whole w2 b t cs' ∧ cs'.size = cs.size
theorem Holds.refl (w : World) : Holds w w := fun _ _ cs h => ⟨cs, h, rfl⟩
theorem Holds.trans {a b c : World} (h : Holds a b) (k : Holds b c) : Holds a c := fun g t cs hg => by
  obtain ⟨cs', h1, h2⟩ := h g t cs hg
  obtain ⟨cs2, k1, k2⟩ := k g t cs' h1
  exact ⟨cs2, k1, k2.trans h2⟩
theorem Holds.store (w : World) (p : Addr) (hp : p.spot = none) (u : Value) : Holds w (w.setCell p u) := fun b t cs h => by
  obtain ⟨g, i, s⟩ := p
  have hp : s = none := hp
  subst hp
  by_cases e : b = g
  · subst e
    exact ⟨_, h.store i u, by simp⟩
  · exact ⟨cs, h.far e u, rfl⟩
theorem Holds.alloc (w : World) (o : Obj) : Holds w (w.alloc o) := fun b t cs h => ⟨cs, h.alloc o, rfl⟩
theorem Holds.drew (w : World) : Holds w w.drew := fun b t cs h => ⟨cs, h, rfl⟩
theorem Holds.of {w w' : World} (h : Below w.heap.size w w') : Holds w w' := fun b t cs hw => ⟨cs, (Mod.of_below h []).whole hw (by simp), rfl⟩
theorem Holds.cellAt {a b : World} {g k : Nat} {t : TypeId} {cs : Array Value} (h : Holds a b) (hw : Whole a g t cs) (hk : k < cs.size) : ∃ u, b.cell? ⟨g, k, none⟩ = some u ∧ b.frozen? ⟨g, k, none⟩ = false := by
  obtain ⟨cs', k1, k2⟩ := h g t cs hw
  exact ⟨_, (k1.cell k).trans (Array.getElem?_eq_getElem (by omega)), k1.frozen k⟩
/-- The blocks that an append to it may turn. -/
def blk (A : Option Addr) : List Nat := match A with | none => [] | some a => [a.block]
/-- A slice of n bytes, nil let in, in a block that may be turned; what it holds doesn't matter. -/
def GwB (w : World) (F : List Nat) (B : Nat) (A : Option Addr) (n c : Nat) : Prop :=
  n ≤ c ∧ c ≤ 9223372036854775807 ∧ ((A = none ∧ c = 0) ∨ ∃ g cs, A = some ⟨g, 0, none⟩ ∧ Whole w g 5 cs ∧ c ≤ cs.size ∧ (g ∈ F ∨ B ≤ g))
section
variable {w w' : World} {F : List Nat} {B n c : Nat} {A : Option Addr}
theorem GwB.own {base : Nat} {xs : List Value} (h : w.ownsRow base 5 1 (.slice A n c) n xs) (hF : ∀ k, base ≤ k → k < w.heap.size → k ∈ F ∨ B ≤ k) : GwB w F B A n c := by
  rcases h.2 with ⟨hv, h0⟩ | ⟨g, cap, cur, hv, hb, hh, h1, h2, h3, _⟩
  · injection hv with e1 e2 e3
    subst e1 e3
    exact ⟨by omega, by omega, .inl ⟨rfl, rfl⟩⟩
  · injection hv with e1 e2 e3
    subst e1 e3
    exact ⟨h1, by unfold maxLen at h2; omega, .inr ⟨g, cur, rfl, hh, by omega, hF g hb (Array.getElem?_eq_some_iff.1 hh).1⟩⟩
theorem GwB.zero : GwB w F B none 0 0 := ⟨Nat.le_refl _, by omega, .inl ⟨rfl, rfl⟩⟩
theorem GwB.holds (h : GwB w F B A n c) (k : Holds w w') : GwB w' F B A n c := by
  obtain ⟨h1, h2, h3⟩ := h
  refine ⟨h1, h2, h3.imp id ?_⟩
  rintro ⟨g, cs, e, hw, hc, hg⟩
  obtain ⟨cs', k1, k2⟩ := k g _ cs hw
  exact ⟨g, cs', e, k1, by omega, hg⟩
theorem GwB.blk (h : GwB w F B A n c) : ∀ x ∈ blk A, x ∈ F ∨ B ≤ x := by
  rcases h.2.2 with ⟨rfl, _⟩ | ⟨g, cs, rfl, _, _, hg⟩
  · intro x hx; cases hx
  · intro x hx; rw [List.mem_singleton.1 hx]; exact hg
theorem GwB.ne (h : GwB w F B A n c) {t : TypeId} {b : Nat} {cs : Array Value} (k : Whole w b t cs) (ht : t ≠ 5) : b ∉ Own.blk A := by
  rcases h.2.2 with ⟨rfl, _⟩ | ⟨g, ds, rfl, hw, _, _⟩
  · exact List.not_mem_nil
  · intro hx
    have e : b = g := List.mem_singleton.1 hx
    exact Whole.ne k hw ht e
/-- Its cells are there. -/
theorem GwB.cell (h : GwB w F B A n c) {i : Nat} (hi : i < n) : ∃ g u, A = some ⟨g, 0, none⟩ ∧ w.cell? ⟨g, i, none⟩ = some u ∧ w.frozen? ⟨g, i, none⟩ = false ∧ (g ∈ F ∨ B ≤ g) := by
  rcases h.2.2 with ⟨_, h0⟩ | ⟨g, cs, e, hw, hc, hg⟩
  · have := h.1; omega
  · exact ⟨g, _, e, (hw.cell i).trans (Array.getElem?_eq_getElem (by have := h.1; omega)), hw.frozen i, hg⟩
theorem GwB.cellW (h : GwB w F B A n c) {i : Nat} (hi : i < n) : ∃ g u cs, A = some ⟨g, 0, none⟩ ∧ w.cell? ⟨g, i, none⟩ = some u ∧ w.frozen? ⟨g, i, none⟩ = false ∧ Hid (Whole w g 5 cs) ∧ Hid (g ∈ F ∨ B ≤ g) := by
  rcases h.2.2 with ⟨_, h0⟩ | ⟨g, cs, e, hw, hc, hg⟩
  · have := h.1; omega
  · exact ⟨g, _, cs, e, (hw.cell i).trans (Array.getElem?_eq_getElem (by have := h.1; omega)), hw.frozen i, Lib.hid hw, Lib.hid hg⟩
theorem run_app_gwb (ty : TypeId) (h : GwB w F B A n c) {p : Nat} {y : Value} (h1 : y.oneCell' = true) (hp : Whole w p 5 #[y]) (hn : n ≤ 1000) (hB : B ≤ w.heap.size) :
    ∃ A' c' w2, (Builtin.append_ #[30, 30] ty #[.slice A n c, .slice (some ⟨p, 0, none⟩) 1 1]).run Try.prog w = .ok (.slice A' (n + 1) c') w2 ∧
      GwB w2 F B A' (n + 1) c' ∧ Mod (Own.blk A) w w2 ∧ Holds w w2 := by
  obtain ⟨i0, hi, hz0, hz1, hz2⟩ := info_parts By.info_u8
  have hs : Src Try.prog i0.size 30 (.slice (some ⟨p, 0, none⟩) 1 1) 1 [y] w := Src.ofSlice w Try.underlying30 ⟨p, 0, none⟩ 1 1 [y] (by rw [hz1]; rfl)
    (World.news_of_block (cs := #[y]) (t := 5) (fr := (0, 0)) hp) (by intro u hu; rw [List.mem_singleton.1 hu]; exact h1)
  obtain ⟨hle, hcm0, h3⟩ := h
  have grow : ∀ (olds : List Value), olds.length = n → c < n + 1 → (Builtin.firstCells i0.size n (.slice A n c)).run Try.prog w.drew = .ok olds.toArray w.drew → ∃ A' c' w2, (Builtin.append_ #[30, 30] ty #[.slice A n c, .slice (some ⟨p, 0, none⟩) 1 1]).run Try.prog w = .ok (.slice A' (n + 1) c') w2 ∧
      GwB w2 F B A' (n + 1) c' ∧ Mod (Own.blk A) w w2 ∧ Holds w w2 := fun olds ho hlt hold => by
    have hrun := run_append_grow_src (P := Try.prog) w 30 30 ty 5 i0 (.int .u8 0) Try.underlying30 hi hz0 A n c olds hold _ 1 [y] hs hlt (by omega) (growslice_fits hlt (by rw [hz2]; omega))
    have hge := grownCap_ge w (n + 1) c 5
    have hcm : grownCap w (n + 1) c 5 ≤ maxLen := grownCap_le_maxLen w (n + 1) c 5 (by unfold maxLen; omega)
    refine ⟨some ⟨w.heap.size, 0, none⟩, grownCap w (n + 1) c 5, _, hrun, ⟨hge, by unfold maxLen at hcm; omega, .inr ⟨w.heap.size, _, rfl, Whole.new w.drew _ _, ?_, .inr hB⟩⟩, (((Mod.refl _ w).drew).alloc _), (Holds.drew w).trans (Holds.alloc _ _)⟩
    simp only [Array.size_append, List.size_toArray, List.length_append, size_zeroCells, ho]
    have hv1 : (Value.int IntKind.u8 0).cells.size = 1 := rfl
    rw [hv1]
    simp only [List.length_cons, List.length_nil]
    omega
  rcases h3 with ⟨rfl, rfl⟩ | ⟨g, cs, rfl, hw, hc, hg⟩
  · obtain rfl : n = 0 := by omega
    exact grow [] rfl (by omega) (run_firstCells_none w.drew i0.size 0 0 0)
  · by_cases hr : n + 1 ≤ c
    · have hrun := run_append_room_src (P := Try.prog) w 30 30 ty 5 i0 Try.underlying30 hi g 0 n c _ 1 [y] hs hr
        (fun j hj => by
          have hj0 : j = 0 := by simpa using hj
          subst hj0
          rw [hz1, hw.cell, Array.getElem?_eq_getElem (by omega)]; rfl)
        (fun j hj => hw.frozen _)
      rw [hz1] at hrun
      have e : w.setCells g (0 + n * 1) [y] = w.setCell ⟨g, n, none⟩ y := by rw [Nat.zero_add, Nat.mul_one]; rfl
      rw [e] at hrun
      have hH := Holds.store w ⟨g, n, none⟩ rfl y
      exact ⟨some ⟨g, 0, none⟩, c, _, hrun, GwB.holds ⟨hr, hcm0, .inr ⟨g, cs, rfl, hw, hc, hg⟩⟩ hH, (Mod.refl [g] w).store (.inl (by simp)) y, hH⟩
    · exact grow (cs.toList.take n) (by rw [List.length_take, Array.length_toList]; omega) (by omega)
        (run_firstCells_some w.drew i0.size n ⟨g, 0, none⟩ n c (cs.toList.take n) (by rw [hz1, List.length_take, Array.length_toList]; omega) (fun j u hu => by
          have hj : j < n := by have := (List.getElem?_eq_some_iff.1 hu).1; rw [List.length_take] at this; omega
          rw [List.getElem?_take, if_pos hj] at hu
          rw [Addr.add_lit, Nat.zero_add]
          exact (hw.cell j).trans (by simpa using hu)))
theorem list_app_gwb {ops : Array Oper} {rest : List Oper} {o : Oper} {a : Act} {Q : Exit → Act → World → Prop} (hgd : o.guard = none) (s x : Operand) (ho : o.op = .call { callee := .builtin .append, args := #[s, x], argTypes := #[30, 30] })
    (h : GwB w F B A n c) (p : Nat) (y : Value) (h1 : y.oneCell' = true) (hp : Whole w p 5 #[y]) (hn : n ≤ 1000) (hB : B ≤ w.heap.size)
    (hsv : a.eval s = .slice A n c) (hxv : a.eval x = .slice (some ⟨p, 0, none⟩) 1 1)
    (hK : ∀ A' c' w2, GwB w2 F B A' (n + 1) c' → Mod (Own.blk A) w w2 → Holds w w2 → wpList Try.prog ops Q rest (a.put o.dst (.slice A' (n + 1) c')) w2) : wpList Try.prog ops Q (o :: rest) a w := by
  refine wpList_plain hgd fun K hK' => ?_
  obtain ⟨A', c', w2, hr, h2, h3, h4⟩ := run_app_gwb o.type h h1 hp hn hB
  unfold Oper.wp execOp
  simp only [ho, resolve, invoke, builtin, Sem.run_bind, Sem.run_pure, Result.andThen_ok, List.map_toArray, List.map_cons, List.map_nil, hsv, hxv, hr]
  exact hK' _ _ (hK A' c' w2 h2 h3 h4)
end
/-- A slice of n numbers, nil let in, in a block that may be turned; what it holds doesn't matter. -/
def GwI (w : World) (F : List Nat) (B : Nat) (A : Option Addr) (n c : Nat) : Prop :=
  n ≤ c ∧ c ≤ 9223372036854775807 ∧ ((A = none ∧ c = 0) ∨ ∃ g cs, A = some ⟨g, 0, none⟩ ∧ Whole w g 3 cs ∧ c ≤ cs.size ∧ (g ∈ F ∨ B ≤ g))
section
variable {w w' : World} {F : List Nat} {B n c : Nat} {A : Option Addr}
theorem GwI.own {base : Nat} {xs : List Value} (h : w.ownsRow base 3 1 (.slice A n c) n xs) (hF : ∀ k, base ≤ k → k < w.heap.size → k ∈ F ∨ B ≤ k) : GwI w F B A n c := by
  rcases h.2 with ⟨hv, h0⟩ | ⟨g, cap, cur, hv, hb, hh, h1, h2, h3, _⟩
  · injection hv with e1 e2 e3
    subst e1 e3
    exact ⟨by omega, by omega, .inl ⟨rfl, rfl⟩⟩
  · injection hv with e1 e2 e3
    subst e1 e3
    exact ⟨h1, by unfold maxLen at h2; omega, .inr ⟨g, cur, rfl, hh, by omega, hF g hb (Array.getElem?_eq_some_iff.1 hh).1⟩⟩
theorem GwI.zero : GwI w F B none 0 0 := ⟨Nat.le_refl _, by omega, .inl ⟨rfl, rfl⟩⟩
theorem GwI.holds (h : GwI w F B A n c) (k : Holds w w') : GwI w' F B A n c := by
  obtain ⟨h1, h2, h3⟩ := h
  refine ⟨h1, h2, h3.imp id ?_⟩
  rintro ⟨g, cs, e, hw, hc, hg⟩
  obtain ⟨cs', k1, k2⟩ := k g _ cs hw
  exact ⟨g, cs', e, k1, by omega, hg⟩
theorem GwI.blk (h : GwI w F B A n c) : ∀ x ∈ blk A, x ∈ F ∨ B ≤ x := by
  rcases h.2.2 with ⟨rfl, _⟩ | ⟨g, cs, rfl, _, _, hg⟩
  · intro x hx; cases hx
  · intro x hx; rw [List.mem_singleton.1 hx]; exact hg
theorem GwI.ne (h : GwI w F B A n c) {t : TypeId} {b : Nat} {cs : Array Value} (k : Whole w b t cs) (ht : t ≠ 3) : b ∉ Own.blk A := by
  rcases h.2.2 with ⟨rfl, _⟩ | ⟨g, ds, rfl, hw, _, _⟩
  · exact List.not_mem_nil
  · intro hx
    have e : b = g := List.mem_singleton.1 hx
    exact Whole.ne k hw ht e
/-- Its cells are there. -/
theorem GwI.cell (h : GwI w F B A n c) {i : Nat} (hi : i < n) : ∃ g u, A = some ⟨g, 0, none⟩ ∧ w.cell? ⟨g, i, none⟩ = some u ∧ w.frozen? ⟨g, i, none⟩ = false ∧ (g ∈ F ∨ B ≤ g) := by
  rcases h.2.2 with ⟨_, h0⟩ | ⟨g, cs, e, hw, hc, hg⟩
  · have := h.1; omega
  · exact ⟨g, _, e, (hw.cell i).trans (Array.getElem?_eq_getElem (by have := h.1; omega)), hw.frozen i, hg⟩
theorem GwI.cellW (h : GwI w F B A n c) {i : Nat} (hi : i < n) : ∃ g u cs, A = some ⟨g, 0, none⟩ ∧ w.cell? ⟨g, i, none⟩ = some u ∧ w.frozen? ⟨g, i, none⟩ = false ∧ Hid (Whole w g 3 cs) ∧ Hid (g ∈ F ∨ B ≤ g) := by
  rcases h.2.2 with ⟨_, h0⟩ | ⟨g, cs, e, hw, hc, hg⟩
  · have := h.1; omega
  · exact ⟨g, _, cs, e, (hw.cell i).trans (Array.getElem?_eq_getElem (by have := h.1; omega)), hw.frozen i, Lib.hid hw, Lib.hid hg⟩
theorem run_app_gwi (ty : TypeId) (h : GwI w F B A n c) {p : Nat} {y : Value} (h1 : y.oneCell' = true) (hp : Whole w p 3 #[y]) (hn : n ≤ 1000) (hB : B ≤ w.heap.size) :
    ∃ A' c' w2, (Builtin.append_ #[26, 26] ty #[.slice A n c, .slice (some ⟨p, 0, none⟩) 1 1]).run Try.prog w = .ok (.slice A' (n + 1) c') w2 ∧
      GwI w2 F B A' (n + 1) c' ∧ Mod (Own.blk A) w w2 ∧ Holds w w2 := by
  obtain ⟨i0, hi, hz0, hz1, hz2⟩ := info_parts info_int
  have hs : Src Try.prog i0.size 26 (.slice (some ⟨p, 0, none⟩) 1 1) 1 [y] w := Src.ofSlice w Try.underlying26 ⟨p, 0, none⟩ 1 1 [y] (by rw [hz1]; rfl)
    (World.news_of_block (cs := #[y]) (t := 3) (fr := (0, 0)) hp) (by intro u hu; rw [List.mem_singleton.1 hu]; exact h1)
  obtain ⟨hle, hcm0, h3⟩ := h
  have grow : ∀ (olds : List Value), olds.length = n → c < n + 1 → (Builtin.firstCells i0.size n (.slice A n c)).run Try.prog w.drew = .ok olds.toArray w.drew → ∃ A' c' w2, (Builtin.append_ #[26, 26] ty #[.slice A n c, .slice (some ⟨p, 0, none⟩) 1 1]).run Try.prog w = .ok (.slice A' (n + 1) c') w2 ∧
      GwI w2 F B A' (n + 1) c' ∧ Mod (Own.blk A) w w2 ∧ Holds w w2 := fun olds ho hlt hold => by
    have hrun := run_append_grow_src (P := Try.prog) w 26 26 ty 3 i0 (.int .i64 0) Try.underlying26 hi hz0 A n c olds hold _ 1 [y] hs hlt (by omega) (growslice_fits hlt (by rw [hz2]; omega))
    have hge := grownCap_ge w (n + 1) c 3
    have hcm : grownCap w (n + 1) c 3 ≤ maxLen := grownCap_le_maxLen w (n + 1) c 3 (by unfold maxLen; omega)
    refine ⟨some ⟨w.heap.size, 0, none⟩, grownCap w (n + 1) c 3, _, hrun, ⟨hge, by unfold maxLen at hcm; omega, .inr ⟨w.heap.size, _, rfl, Whole.new w.drew _ _, ?_, .inr hB⟩⟩, (((Mod.refl _ w).drew).alloc _), (Holds.drew w).trans (Holds.alloc _ _)⟩
    simp only [Array.size_append, List.size_toArray, List.length_append, size_zeroCells, ho]
    have hv1 : (Value.int IntKind.i64 0).cells.size = 1 := rfl
    rw [hv1]
    simp only [List.length_cons, List.length_nil]
    omega
  rcases h3 with ⟨rfl, rfl⟩ | ⟨g, cs, rfl, hw, hc, hg⟩
  · obtain rfl : n = 0 := by omega
    exact grow [] rfl (by omega) (run_firstCells_none w.drew i0.size 0 0 0)
  · by_cases hr : n + 1 ≤ c
    · have hrun := run_append_room_src (P := Try.prog) w 26 26 ty 3 i0 Try.underlying26 hi g 0 n c _ 1 [y] hs hr
        (fun j hj => by
          have hj0 : j = 0 := by simpa using hj
          subst hj0
          rw [hz1, hw.cell, Array.getElem?_eq_getElem (by omega)]; rfl)
        (fun j hj => hw.frozen _)
      rw [hz1] at hrun
      have e : w.setCells g (0 + n * 1) [y] = w.setCell ⟨g, n, none⟩ y := by rw [Nat.zero_add, Nat.mul_one]; rfl
      rw [e] at hrun
      have hH := Holds.store w ⟨g, n, none⟩ rfl y
      exact ⟨some ⟨g, 0, none⟩, c, _, hrun, GwI.holds ⟨hr, hcm0, .inr ⟨g, cs, rfl, hw, hc, hg⟩⟩ hH, (Mod.refl [g] w).store (.inl (by simp)) y, hH⟩
    · exact grow (cs.toList.take n) (by rw [List.length_take, Array.length_toList]; omega) (by omega)
        (run_firstCells_some w.drew i0.size n ⟨g, 0, none⟩ n c (cs.toList.take n) (by rw [hz1, List.length_take, Array.length_toList]; omega) (fun j u hu => by
          have hj : j < n := by have := (List.getElem?_eq_some_iff.1 hu).1; rw [List.length_take] at this; omega
          rw [List.getElem?_take, if_pos hj] at hu
          rw [Addr.add_lit, Nat.zero_add]
          exact (hw.cell j).trans (by simpa using hu)))
theorem list_app_gwi {ops : Array Oper} {rest : List Oper} {o : Oper} {a : Act} {Q : Exit → Act → World → Prop} (hgd : o.guard = none) (s x : Operand) (ho : o.op = .call { callee := .builtin .append, args := #[s, x], argTypes := #[26, 26] })
    (h : GwI w F B A n c) (p : Nat) (y : Value) (h1 : y.oneCell' = true) (hp : Whole w p 3 #[y]) (hn : n ≤ 1000) (hB : B ≤ w.heap.size)
    (hsv : a.eval s = .slice A n c) (hxv : a.eval x = .slice (some ⟨p, 0, none⟩) 1 1)
    (hK : ∀ A' c' w2, GwI w2 F B A' (n + 1) c' → Mod (Own.blk A) w w2 → Holds w w2 → wpList Try.prog ops Q rest (a.put o.dst (.slice A' (n + 1) c')) w2) : wpList Try.prog ops Q (o :: rest) a w := by
  refine wpList_plain hgd fun K hK' => ?_
  obtain ⟨A', c', w2, hr, h2, h3, h4⟩ := run_app_gwi o.type h h1 hp hn hB
  unfold Oper.wp execOp
  simp only [ho, resolve, invoke, builtin, Sem.run_bind, Sem.run_pure, Result.andThen_ok, List.map_toArray, List.map_cons, List.map_nil, hsv, hxv, hr]
  exact hK' _ _ (hK A' c' w2 h2 h3 h4)
end
end Go.Proofs.Ytboflkadabagfaa.Own
namespace Go.Proofs.Ytboflkadabagfaa
open Go.RowKit
open WM (Msg)
set_option linter.unusedVariables false
set_option linter.unusedSimpArgs false
set_option maxRecDepth 100000
/-- Encode's answer is a row of the call's own. -/
def EncO (w : World) (m : Msg) (e : Ending) (w' : World) : Prop := ∃ A c, e = .returned (.tuple #[.slice A (encE m).length c, .int .i64 (encC m)]) ∧ Hid (w'.ownsRow w.heap.size 5 1 (.slice A (encE m).length c) (encE m).length (By.u8s (encE m))) ∧ Below w.heap.size w w'
theorem wEncO_any (A : Option Addr) (c : Nat) (m : Msg) (w : World) (h : Fit w A c m) : Calls Try.prog 8 #[.agg (cellsM m (.slice A m.stamp.length c))] w (EncO w m) := by
  by_cases hv : WM.valid m = true
  · have e1 : encE m = enc m := if_pos hv
    have e2 : encC m = 0 := if_pos hv
    refine (WEncode_yes A c m w h hv).mono ?_
    rintro e w' ⟨v, rfl, hg⟩
    have hg1 := hg.out.1
    obtain ⟨A', c', rfl, _, _⟩ := By.own_shape hg1
    unfold EncO
    rw [e1, e2]
    exact ⟨A', c', rfl, Lib.hid hg1, hg.out.2⟩
  · have e1 : encE m = [] := if_neg hv
    have e2 : encC m = 22 := if_neg hv
    refine (WEncode_no A c m w h (by simpa using hv)).mono ?_
    rintro e w' ⟨rfl, hb⟩
    unfold EncO
    rw [e1, e2]
    exact ⟨none, 0, rfl, Lib.hid (World.ownsRow_nil _ _ _ _), hb⟩
theorem rEncO_any (A : Option Addr) (c : Nat) (m : Msg) (w : World) (h : Fit6 w A c m) : Calls Try.prog 10 #[.agg (cellsM m (.slice A m.stamp.length c))] w (EncO w m) := by
  by_cases hv : WM.valid m = true
  · have e1 : encE m = enc m := if_pos hv
    have e2 : encC m = 0 := if_pos hv
    refine (r6_Encode_yes A c m w h hv).mono ?_
    rintro e w' ⟨v, rfl, hg⟩
    have hg1 := hg.out.1
    obtain ⟨A', c', rfl, _, _⟩ := By.own_shape hg1
    unfold EncO
    rw [e1, e2]
    exact ⟨A', c', rfl, Lib.hid hg1, hg.out.2⟩
  · have e1 : encE m = [] := if_neg hv
    have e2 : encC m = 22 := if_neg hv
    refine (r6_Encode_no A c m w h (by simpa using hv)).mono ?_
    rintro e w' ⟨rfl, hb⟩
    unfold EncO
    rw [e1, e2]
    exact ⟨none, 0, rfl, Lib.hid (World.ownsRow_nil _ _ _ _), hb⟩
theorem valid_stamp {m : Msg} (h : WM.valid m = true) : m.stamp.length ≤ 4 := by
  obtain ⟨hm, hu⟩ := valid_is2 h
  by_cases hk : m.kind = 5 ∨ (m.kind = 2 ∧ m.code = 0)
  · have hp : WM.mayPart m = true := by
      unfold WM.may at hm
      simp only [Bool.and_eq_true] at hm
      exact hm.2
    rcases hk with hk | ⟨hk, h1⟩
    · simp [WM.mayPart, hk, WM.mayOp] at hp
      exact (WM.valid_rng hp.2.2).1
    · simp [WM.mayPart, hk, WM.mayReply, h1] at hp
      have hg := hp.2.2.2
      unfold WM.give at hg
      by_cases hs : m.stamp = []
      · rw [hs]; simp
      · rw [if_neg hs] at hg
        simp only [Bool.and_eq_true] at hg
        exact (WM.valid_rng hg.2).1
  · have e : (WM.used m).stamp = [] := by
      unfold WM.used
      by_cases h1 : m.kind = 1
      · simp only [h1, if_true, WM.zero]
        split <;> split <;> split <;> rfl
      · by_cases h2 : m.kind = 2
        · have : ¬ m.code = 0 := fun e => hk (.inr ⟨h2, e⟩)
          simp [h1, h2, this, WM.zero]
        · have h5 : ¬ m.kind = 5 := fun e => hk (.inl e)
          by_cases h3 : m.kind = 3
          · simp [h3, WM.zero]
          · by_cases h4 : m.kind = 4
            · simp [h4, WM.zero]
            · simp [h1, h2, h3, h4, h5, WM.zero]
    rw [← hu, e]
    simp
theorem decM_len (b : List UInt8) : (decM b).stamp.length ≤ 4 := by
  unfold decM
  split
  · rename_i h
    obtain ⟨_, e, hv, _⟩ := dec_five h
    rw [← e]
    exact valid_stamp hv
  · simp [WM.zero]
theorem run_app_moreI {W : World} {base : Nat} {v : Value} {L X : List Int} {A : Option Addr} {c : Nat} (ty : TypeId) (hown : W.ownsRow base 3 1 v L.length (i64s L)) (hX : IntsAt W A X) (hl : (L.length + X.length) * 8 ≤ 140737488355328) (hb : base ≤ W.heap.size) :
    ∃ v' w2, (Builtin.append_ #[26, 26] ty #[v, .slice A X.length c]).run Try.prog W = .ok v' w2 ∧ w2.ownsRow base 3 1 v' (L ++ X).length (i64s (L ++ X)) ∧ Mod v.ownBlock.toList W w2 ∧ (v'.ownBlock = v.ownBlock ∨ v'.ownBlock = some W.heap.size) := by
  obtain ⟨i0, hi, hz0, hz1, hz2⟩ := info_parts info_int
  cases A with
  | some ad =>
    obtain ⟨v', w', hr, h2, h3, _, h5⟩ := run_append_own_at (P := Try.prog) W base 26 ty 3 i0 (.int .i64 0) 1 8 Try.underlying26 hi hz0 hz1 hz2 rfl (by decide) v L.length (i64s L) hown ad X.length c (i64s X) (by rw [i64s_len, Nat.mul_one]) hX.cells one_i64 (by unfold maxLen; omega) (by omega) hb
    exact ⟨v', w', hr, by rw [List.length_append, i64s_append]; exact h2, (Mod.refl _ W).grown h3 (fun k hk => .inl (by rw [hk]; simp)), h5⟩
  | none =>
    have h0 : X = [] := by
      cases X with
      | nil => rfl
      | cons y r =>
        obtain ⟨b, o, e, _⟩ := hX (by simp)
        cases e
    subst h0
    refine ⟨v, W, ?_, by simpa using hown, Mod.refl _ W, .inl rfl⟩
    rcases hown.2 with ⟨rfl, _⟩ | ⟨g, cap, cur, rfl, _, hg, hle, hcap, _⟩
    · simp [Builtin.append_, run_underlying Try.underlying26, sizeOf, typeInfo, hi, Builtin.lenOf, Builtin.firstCells, storeCells]
    · have hn : ¬ maxLen < L.length := by omega
      simp [Builtin.append_, run_underlying Try.underlying26, sizeOf, typeInfo, hi, Builtin.lenOf, Builtin.firstCells, storeCells, hle, hn]
theorem wp_app_moreI {W : World} {o : Oper} {a : Act} {K : Act → World → Prop} {Q : Exit → Act → World → Prop} (s x : Operand) (ho : o.op = .call { callee := .builtin .append, args := #[s, x], argTypes := #[26, 26] })
    (base : Nat) (v : Value) (L X : List Int) (A : Option Addr) (m c : Nat) (hown : W.ownsRow base 3 1 v L.length (i64s L)) (hX : IntsAt W A X) (hm : X.length = m) (hl : (L.length + X.length) * 8 ≤ 140737488355328) (hb : base ≤ W.heap.size)
    (hsv : a.eval s = v) (hxv : a.eval x = .slice A m c)
    (hK : ∀ v' w2, w2.ownsRow base 3 1 v' (L ++ X).length (i64s (L ++ X)) → Mod v.ownBlock.toList W w2 → (v'.ownBlock = v.ownBlock ∨ v'.ownBlock = some W.heap.size) → K (a.put o.dst v') w2) : o.wp Try.prog a W K Q := by
  subst hm
  obtain ⟨v', w2, hr, h2, h3, h4⟩ := run_app_moreI (c := c) o.type hown hX hl hb
  unfold Oper.wp execOp
  simp only [ho, resolve, invoke, builtin, Sem.run_bind, Sem.run_pure, Result.andThen_ok, List.map_toArray, List.map_cons, List.map_nil, hsv, hxv, hr]
  exact hK v' w2 h2 h3 h4
theorem app_moreI {W : World} {ops : Array Oper} {rest : List Oper} {o : Oper} {a : Act} {Q : Exit → Act → World → Prop} (hgd : o.guard = none) (s x : Operand) (ho : o.op = .call { callee := .builtin .append, args := #[s, x], argTypes := #[26, 26] })
    (base : Nat) (v : Value) (L X : List Int) (A : Option Addr) (m c : Nat) (hown : W.ownsRow base 3 1 v L.length (i64s L)) (hX : IntsAt W A X) (hm : X.length = m) (hl : (L.length + X.length) * 8 ≤ 140737488355328) (hb : base ≤ W.heap.size)
    (hsv : a.eval s = v) (hxv : a.eval x = .slice A m c)
    (hK : ∀ v' w2, w2.ownsRow base 3 1 v' (L ++ X).length (i64s (L ++ X)) → Mod v.ownBlock.toList W w2 → (v'.ownBlock = v.ownBlock ∨ v'.ownBlock = some W.heap.size) → wpList Try.prog ops Q rest (a.put o.dst v') w2) : wpList Try.prog ops Q (o :: rest) a W :=
  wpList_plain hgd fun _ hK' => wp_app_moreI s x ho base v L X A m c hown hX hm hl hb hsv hxv (fun v' w2 k1 k2 k3 => hK' _ _ (hK v' w2 k1 k2 k3))

theorem bytes_two (w : World) (a b : UInt8) : By.BytesAt (w.alloc (.cells #[.int .u8 (a.toNat : Int), .int .u8 (b.toNat : Int)] 5)) (some ⟨w.heap.size, 0, none⟩) [a, b] := fun h0 => by
  refine ⟨w.heap.size, 0, rfl, by simp, fun j x hx => ?_⟩
  rw [(Whole.new w 5 #[.int .u8 (a.toNat : Int), .int .u8 (b.toNat : Int)]).cell]
  match j with
  | 0 => cases hx; rfl
  | 1 => cases hx; rfl
  | k + 2 => cases hx
/-- The blocks that may be turned: all from o to n but those between a and b. -/
def Fs (o a b n : Nat) : List Nat := (List.range n).filter fun k => decide (o ≤ k ∧ (k < a ∨ b ≤ k))
theorem mem_Fs {o a b n k : Nat} : k ∈ Fs o a b n ↔ k < n ∧ o ≤ k ∧ (k < a ∨ b ≤ k) := by
  unfold Fs
  rw [List.mem_filter, List.mem_range, decide_eq_true_eq]
theorem own_gwi {w : World} {F : List Nat} {B base n c : Nat} {A : Option Addr} {xs : List Value} (h : w.ownsRow base 3 1 (.slice A n c) n xs) (hF : ∀ k, (Value.slice A n c).ownBlock = some k → k ∈ F ∨ B ≤ k) : Own.GwI w F B A n c := by
  rcases h.2 with ⟨hv, h0⟩ | ⟨g, cap, cur, hv, hb, hh, h1, h2, h3, _⟩
  · injection hv with e1 e2 e3
    subst e1 e3
    exact ⟨by omega, by omega, .inl ⟨rfl, rfl⟩⟩
  · injection hv with e1 e2 e3
    subst e1 e3
    exact ⟨h1, by unfold maxLen at h2; omega, .inr ⟨g, cur, rfl, hh, by omega, hF g rfl⟩⟩
theorem own_gwb {w : World} {F : List Nat} {B base n c : Nat} {A : Option Addr} {xs : List Value} (h : w.ownsRow base 5 1 (.slice A n c) n xs) (hF : ∀ k, (Value.slice A n c).ownBlock = some k → k ∈ F ∨ B ≤ k) : Own.GwB w F B A n c := by
  rcases h.2 with ⟨hv, h0⟩ | ⟨g, cap, cur, hv, hb, hh, h1, h2, h3, _⟩
  · injection hv with e1 e2 e3
    subst e1 e3
    exact ⟨by omega, by omega, .inl ⟨rfl, rfl⟩⟩
  · injection hv with e1 e2 e3
    subst e1 e3
    exact ⟨h1, by unfold maxLen at h2; omega, .inr ⟨g, cur, rfl, hh, by omega, hF g rfl⟩⟩
/-- What is turned: two rows of the call's own, a slice of bytes, a message's stamp. -/
structure PhO (ws : World) (F : List Nat) (Ar : Option Addr) (nr cr : Nat) (Af : Option Addr) (nf cf : Nat) (Ax : Option Addr) (nx cx : Nat) (gp : Nat) (mp : Msg) (Ap : Option Addr) (np cp : Nat) (w : World) : Prop where
  mod : Mod F ws w
  room : Own.GwI w F ws.heap.size Ar nr cr
  full : Own.GwB w F ws.heap.size Af nf cf
  x : Own.GwB w F ws.heap.size Ax nx cx
  box : Whole w gp 28 (cellsM mp (.slice Ap np cp))
  boxF : gp ∈ F
  p : Own.GwI w F ws.heap.size Ap np cp
section
variable {ws w w2 : World} {F G : List Nat} {Ar Af Ax Ap Ax' Ap' : Option Addr} {nr cr nf cf nx cx np cp gp cx' cp' : Nat} {mp : Msg}
theorem PhO.turn (h : PhO ws F Ar nr cr Af nf cf Ax nx cx gp mp Ap np cp w) (hm : Mod G w w2) (hG : ∀ y ∈ G, y ∈ F ∨ ws.heap.size ≤ y) (hgp : gp ∉ G) (hh : Own.Holds w w2) : PhO ws F Ar nr cr Af nf cf Ax nx cx gp mp Ap np cp w2 :=
  ⟨h.mod.trans hm hG, h.room.holds hh, h.full.holds hh, h.x.holds hh, hm.whole h.box hgp, h.boxF, h.p.holds hh⟩
theorem PhO.on (h : PhO ws F Ar nr cr Af nf cf Ax nx cx gp mp Ap np cp w) (hb : Below w.heap.size w w2) : PhO ws F Ar nr cr Af nf cf Ax nx cx gp mp Ap np cp w2 :=
  h.turn (Mod.of_below hb []) (by simp) (by simp) (Own.Holds.of hb)
/-- A cell of a row is stored. -/
theorem PhO.cell (h : PhO ws F Ar nr cr Af nf cf Ax nx cx gp mp Ap np cp w) {g i : Nat} {t : TypeId} {cs : Array Value} (hg : g ∈ F ∨ ws.heap.size ≤ g) (hw : Whole w g t cs) (ht : t ≠ 28) (u : Value) : PhO ws F Ar nr cr Af nf cf Ax nx cx gp mp Ap np cp (w.setCell ⟨g, i, none⟩ u) :=
  h.turn ((Mod.refl [g] w).store (p := ⟨g, i, none⟩) (.inl (by simp)) u) (fun y hy => by rw [List.mem_singleton.1 hy]; exact hg) (fun hx => Whole.ne h.box hw (Ne.symm ht) (List.mem_singleton.1 hx)) (Own.Holds.store w ⟨g, i, none⟩ rfl u)
theorem PhO.appX (h : PhO ws F Ar nr cr Af nf cf Ax nx cx gp mp Ap np cp w) (k1 : Own.GwB w2 F ws.heap.size Ax' (nx + 1) cx') (k2 : Mod (Own.blk Ax) w w2) (k3 : Own.Holds w w2) : PhO ws F Ar nr cr Af nf cf Ax' (nx + 1) cx' gp mp Ap np cp w2 := by
  have h' := h.turn k2 h.x.blk (h.x.ne h.box (by decide)) k3
  exact ⟨h'.mod, h'.room, h'.full, k1, h'.box, h'.boxF, h'.p⟩
theorem PhO.appP (h : PhO ws F Ar nr cr Af nf cf Ax nx cx gp mp Ap np cp w) (k1 : Own.GwI w2 F ws.heap.size Ap' (np + 1) cp') (k2 : Mod (Own.blk Ap) w w2) (k3 : Own.Holds w w2) : PhO ws F Ar nr cr Af nf cf Ax nx cx gp mp Ap np cp w2 ∧ PhO ws F Ar nr cr Af nf cf Ax nx cx gp mp Ap' (np + 1) cp' (w2.setCell ⟨gp, 13, none⟩ (.slice Ap' (np + 1) cp')) := by
  have h' := h.turn k2 h.p.blk (h.p.ne h.box (by decide)) k3
  have hM : Mod [gp] w2 (w2.setCell ⟨gp, 13, none⟩ (.slice Ap' (np + 1) cp')) := (Mod.refl _ w2).store (p := ⟨gp, 13, none⟩) (.inl (by simp)) _
  have hh := Own.Holds.store w2 ⟨gp, 13, none⟩ rfl (.slice Ap' (np + 1) cp')
  have hb := h'.box.store 13 (.slice Ap' (np + 1) cp')
  exact ⟨h', h'.mod.trans hM (fun y hy => .inl (by rw [List.mem_singleton.1 hy]; exact h.boxF)), h'.room.holds hh, h'.full.holds hh, h'.x.holds hh, hb, h.boxF, k1.holds hh⟩
end
end Go.Proofs.Ytboflkadabagfaa
