/- What is kept while the answered lists are turned: the copies, and which header stands where. -/
import Derived.Test.YtpfljooceppcbaaDoorPsOSt
namespace Go.Proofs.YtpfljooceppcbaaDoor
open Go.RowKit
open SE (Ent)
set_option linter.unusedVariables false
set_option linter.unusedSimpArgs false
set_option maxRecDepth 100000
/-- Numbers as a call has answered them. -/
def RN (b : Nat) (w : World) (v : Value) (xs : List Int) : Prop := w.ownsRow b 3 1 v xs.length (i64s xs)
theorem RN.on {b : Nat} {w w' : World} {v : Value} {xs : List Int} (h : RN b w v xs) (hb : Below w.heap.size w w') : RN b w' v xs := (Mod.of_below hb []).own h (by simp)
theorem own_base {w : World} {base base' : Nat} {e : TypeId} {size : Nat} {v : Value} {k : Nat} {xs : List Value} (h : w.ownsRow base e size v k xs) (hb : base' ≤ base) : w.ownsRow base' e size v k xs := by
  refine ⟨h.1, ?_⟩
  rcases h.2 with h0 | ⟨g, cap, cur, e1, k1, hr⟩
  · exact .inl h0
  · exact .inr ⟨g, cap, cur, e1, Nat.le_trans hb k1, hr⟩
/-- The copies: a row of headers, each with its numbers. -/
def Kp (b : Nat) (w : World) (X : Nat → List Int) (n : Nat) (v : Value) : Prop :=
  ∃ hs, w.ownsRow b 36 1 v n hs ∧ hs.length = n ∧ ∀ i, i < n → ∃ A c, hs[i]? = some (.slice A (X i).length c) ∧ RN b w (.slice A (X i).length c) (X i) ∧ (X i).length ≤ c ∧ c ≤ 9223372036854775807
section
variable {b : Nat} {w w' : World} {X : Nat → List Int} {n : Nat} {v : Value} {T : List Nat}
theorem Kp.nil : Kp b w X 0 (.slice none 0 0) := ⟨[], World.ownsRow_nil _ _ _ _, rfl, fun i h => absurd h (by omega)⟩
theorem Kp.mod (h : Kp b w X n v) (hm : Mod T w w') (hT : ∀ k ∈ T, k < b) : Kp b w' X n v := by
  obtain ⟨hs, h1, h2, h3⟩ := h
  refine ⟨hs, hm.own h1 (fun k hk hx => by have := (h1.lt k hk).1; have := hT k hx; omega), h2, fun i hi => ?_⟩
  obtain ⟨A, c, k1, k2, k3, k4⟩ := h3 i hi
  exact ⟨A, c, k1, hm.own k2 (fun k hk hx => by have := (World.ownsRow.lt k2 k hk).1; have := hT k hx; omega), k3, k4⟩
theorem Kp.on (h : Kp b w X n v) (hb : Below w.heap.size w w') : Kp b w' X n v := h.mod (Mod.of_below hb []) (by simp)
theorem app_keep {ops : Array Oper} {rest : List Oper} {o : Oper} {a : Act} {Q : Exit → Act → World → Prop} (hgd : o.guard = none) (s x : Operand)
    (ho : o.op = .call { callee := .builtin .append, args := #[s, x], argTypes := #[41, 41] }) (h : Kp b w X n v) {A : Option Addr} {c : Nat} (hu : RN b w (.slice A (X n).length c) (X n)) (hc : (X n).length ≤ c) (hc2 : c ≤ 9223372036854775807) {p : Nat} (hp : Whole w p 36 #[.slice A (X n).length c]) (hl : n ≤ 1000) (hb : b ≤ w.heap.size)
    (hsv : a.eval s = v) (hxv : a.eval x = .slice (some ⟨p, 0, none⟩) 1 1) (hK : ∀ v' w2, Kp b w2 X (n + 1) v' → Below b w w2 → wpList Tryd.prog ops Q rest (a.put o.dst v') w2) : wpList Tryd.prog ops Q (o :: rest) a w := by
  obtain ⟨hs, h1, h2, h3⟩ := h
  refine app_hdr hgd s x ho h1 rfl hp hl hb hsv hxv fun v' w2 k1 k2 => hK v' w2 ?_ (k2.below hb (fun y hy => (h1.lt y (blk_toList hy)).1))
  have hin : ∀ {A c i}, RN b w (.slice A (X i).length c) (X i) → RN b w2 (.slice A (X i).length c) (X i) := fun hr => k2.own hr (fun k hk hx => two_rows h1 hr (by decide) (blk_toList hx) hk)
  refine ⟨hs ++ [.slice A (X n).length c], k1, by rw [List.length_append, h2]; rfl, fun i hi => ?_⟩
  by_cases hlt : i < n
  · obtain ⟨B, d, e1, e2, e3, e4⟩ := h3 i hlt
    exact ⟨B, d, by rw [List.getElem?_append_left (by omega)]; exact e1, hin e2, e3, e4⟩
  · have : i = n := by omega
    subst this
    exact ⟨A, c, by rw [List.getElem?_append_right (by omega), h2]; simp, hin hu, hc, hc2⟩
/-- What is read of the copies. -/
theorem Kp.get (h : Kp b w X n v) (hn : 0 < n) : ∃ p c, v = .slice (some ⟨p, 0, none⟩) n c ∧ b ≤ p ∧ p < w.heap.size ∧ n ≤ c ∧ ∀ i, i < n → ∃ A c, w.cell? ⟨p, i, none⟩ = some (.slice A (X i).length c) ∧ RN b w (.slice A (X i).length c) (X i) ∧ (X i).length ≤ c ∧ c ≤ 9223372036854775807 := by
  obtain ⟨hs, h1, h2, h3⟩ := h
  obtain ⟨p, c, e, k1, k2, k3, k4⟩ := row_lit h1 hn h2
  refine ⟨p, c, e, k1, k2, k3, fun i hi => ?_⟩
  obtain ⟨A, d, e1, e2, e3, e4⟩ := h3 i hi
  exact ⟨A, d, k4 i _ e1, e2, e3, e4⟩
end
/-- The work's state, the headers where they stand. -/
def Wk (w0 w7 w : World) (T : List Nat) (I m : Nat) (v1 v3 v5 va : Value) : Prop := ∃ u0 u2 u4, Tn w0 w7 w T I m #[u0, v1, u2, v3, u4, v5] va u0 u2 u4
section
variable {w0 w7 w w' : World} {T : List Nat} {I m n : Nat} {v1 v3 v5 va : Value} {cs : Array Value} {vk o1 o2 : Value}
theorem Tn.more (h : Tn w0 w7 w T I m cs va vk o1 o2) (hn : m ≤ n) : Tn w0 w7 w T I n cs va vk o1 o2 :=
  ⟨h.mod, h.low, h.ids, h.inT, h.ra.more hn, h.rk.more hn, h.r1.more hn, h.r2.more hn, h.ba, h.bk, h.b1, h.b2, h.x1, h.x2, h.x12⟩
theorem Wk.more (h : Wk w0 w7 w T I m v1 v3 v5 va) (hn : m ≤ n) : Wk w0 w7 w T I n v1 v3 v5 va := by obtain ⟨a, b, c, h⟩ := h; exact ⟨a, b, c, h.more hn⟩
theorem Wk.on (h : Wk w0 w7 w T I m v1 v3 v5 va) (hb : Below w.heap.size w w') : Wk w0 w7 w' T I m v1 v3 v5 va := by obtain ⟨a, b, c, h⟩ := h; exact ⟨a, b, c, h.on hb⟩
theorem Wk.pick (h : Wk w0 w7 w T I m v1 v3 v5 va) {k : Nat} (hk : k = 0 ∨ k = 2 ∨ k = 4) : ∃ cs u o1 o2, Tn w0 w7 w T I m cs va u o1 o2 ∧ cs[k]? = some u ∧ (∀ w' m' va', Tn w0 w7 w' T I m' cs va' u o1 o2 → Wk w0 w7 w' T I m' v1 v3 v5 va') ∧ (∀ w' m' u', Tn w0 w7 w' T I m' (cs.setIfInBounds k u') va u' o1 o2 → Wk w0 w7 w' T I m' v1 v3 v5 va) := by
  obtain ⟨u0, u2, u4, h⟩ := h
  rcases hk with rfl | rfl | rfl
  · exact ⟨_, u0, u2, u4, h, rfl, fun w' m' va' k => ⟨_, _, _, k⟩, fun w' m' u' k => ⟨u', u2, u4, k⟩⟩
  · exact ⟨_, u2, u0, u4, h.rot1, rfl, fun w' m' va' k => ⟨_, _, _, k.rot1⟩, fun w' m' u' k => ⟨u0, u', u4, k.rot1⟩⟩
  · exact ⟨_, u4, u0, u2, h.rot2, rfl, fun w' m' va' k => ⟨_, _, _, k.rot1.rot2.rot1⟩, fun w' m' u' k => ⟨u0, u2, u', k.rot1.rot2.rot1⟩⟩
theorem Wk.turnA (h : Wk w0 w7 w T I m v1 v3 v5 va) {va' : Value} (hm : Mod va.ownBlock.toList w w') (hr : RowE w0 w' n va') (hn : m ≤ n) (hv : va'.ownBlock = va.ownBlock ∨ va'.ownBlock = some w.heap.size) : Wk w0 w7 w' T I n v1 v3 v5 va' := by
  obtain ⟨a, b, c, h⟩ := h
  exact ⟨a, b, c, h.turnA hm hr hn hv⟩
theorem Wk.ra (h : Wk w0 w7 w T I m v1 v3 v5 va) : RowE w0 w m va := by obtain ⟨a, b, c, h⟩ := h; exact h.ra
theorem Wk.mod (h : Wk w0 w7 w T I m v1 v3 v5 va) : Mod T w7 w := by obtain ⟨a, b, c, h⟩ := h; exact h.mod
theorem Wk.low (h : Wk w0 w7 w T I m v1 v3 v5 va) : w0.heap.size ≤ w.heap.size := by obtain ⟨a, b, c, h⟩ := h; exact h.low
theorem Wk.lt (h : Wk w0 w7 w T I m v1 v3 v5 va) : I < w.heap.size := by obtain ⟨a, b, c, h⟩ := h; exact h.ids.lt
theorem Wk.odd (h : Wk w0 w7 w T I m v1 v3 v5 va) : w.cell? ⟨I, 1, none⟩ = some v1 ∧ w.cell? ⟨I, 3, none⟩ = some v3 ∧ w.cell? ⟨I, 5, none⟩ = some v5 := by
  obtain ⟨a, b, c, h⟩ := h
  exact ⟨h.ids.cell 1, h.ids.cell 3, h.ids.cell 5⟩
end
end Go.Proofs.YtpfljooceppcbaaDoor
