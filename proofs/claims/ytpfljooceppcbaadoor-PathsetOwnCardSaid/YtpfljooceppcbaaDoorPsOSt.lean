/- Lists that a set answered and that are turned: what stays a list, what stays as it was. -/
import Derived.Test.YtpfljooceppcbaaDoorPsL5
import Derived.Lib.AppendZeros
namespace Go.Proofs.YtpfljooceppcbaaDoor
open Go.RowKit
open SE (Ent)
set_option linter.unusedVariables false
set_option linter.unusedSimpArgs false
set_option maxRecDepth 100000
theorem ents_set (h : List Ent) (i : Nat) (x : Ent) : ents (h.set i x) = ((((ents h).set (i * 4) (.int .i64 x.id)).set (i * 4 + 1) (.string x.path)).set (i * 4 + 2) (.int .i64 x.mode)).set (i * 4 + 3) (.int .i64 x.who) := by
  induction h generalizing i with
  | nil => rfl
  | cons a h ih =>
    have e : ∀ a : Ent, ents (a :: h) = four a ++ ents h := fun a => by unfold ents; rw [List.flatMap_cons]
    cases i with
    | zero => rw [List.set_cons_zero, e, e]; rfl
    | succ i =>
      have e2 : ents (a :: h.set i x) = four a ++ ents (h.set i x) := by unfold ents; rw [List.flatMap_cons]
      rw [List.set_cons_succ, e2, ih, e]
      have h3 : ∀ (l : List Value) k v, (four a ++ l).set (k + 4) v = four a ++ l.set k v := fun l k v => by rw [List.set_append_right _ _ (by simp [four])]; simp [four]
      rw [show (i + 1) * 4 = i * 4 + 4 by omega, show i * 4 + 4 + 1 = i * 4 + 1 + 4 by omega, show i * 4 + 4 + 2 = i * 4 + 2 + 4 by omega, show i * 4 + 4 + 3 = i * 4 + 3 + 4 by omega, h3, h3, h3, h3]
/-- A list of entries, of numbers, whatever they are, at or above a base; at most m. -/
def RowE (w0 w : World) (m : Nat) (v : Value) : Prop := ∃ xs : List Ent, w.ownsRow w0.heap.size 25 4 v xs.length (ents xs) ∧ xs.length ≤ m
def RowN (w0 w : World) (m : Nat) (v : Value) : Prop := ∃ xs : List Int, w.ownsRow w0.heap.size 3 1 v xs.length (i64s xs) ∧ xs.length ≤ m
section
variable {w0 w w' : World} {v : Value} {G : List Nat} {m : Nat}
theorem RowE.mod (h : RowE w0 w m v) (hm : Mod G w w') (hn : ∀ k, v.ownBlock = some k → k ∉ G) : RowE w0 w' m v := by obtain ⟨xs, h, h2⟩ := h; exact ⟨xs, hm.own h hn, h2⟩
theorem RowN.mod (h : RowN w0 w m v) (hm : Mod G w w') (hn : ∀ k, v.ownBlock = some k → k ∉ G) : RowN w0 w' m v := by obtain ⟨xs, h, h2⟩ := h; exact ⟨xs, hm.own h hn, h2⟩
theorem RowE.lt (h : RowE w0 w m v) {k : Nat} (hk : v.ownBlock = some k) : w0.heap.size ≤ k ∧ k < w.heap.size := by obtain ⟨xs, h, _⟩ := h; exact h.lt k hk
theorem RowN.lt (h : RowN w0 w m v) {k : Nat} (hk : v.ownBlock = some k) : w0.heap.size ≤ k ∧ k < w.heap.size := by obtain ⟨xs, h, _⟩ := h; exact h.lt k hk
theorem two_rows {b1 b2 : Nat} {t e : TypeId} {s1 s2 n1 n2 : Nat} {u v : Value} {xs ys : List Value} (h1 : w.ownsRow b1 t s1 u n1 xs) (h2 : w.ownsRow b2 e s2 v n2 ys) (hne : t ≠ e) {k : Nat} (hu : u.ownBlock = some k) : v.ownBlock ≠ some k := by
  rcases h1.2 with ⟨e1, _⟩ | ⟨g, cap, cur, e1, _, hh, _⟩
  · rw [e1] at hu; cases hu
  · have e2 : g = k := by rw [e1] at hu; simpa [Value.ownBlock] using hu
    subst e2
    exact own_ne h2 (show Whole w g t cur from hh) (Ne.symm hne)
theorem RowN.whole_ne (h : RowN w0 w m v) {p : Nat} {cs : Array Value} (hp : Whole w p 36 cs) {k : Nat} (hk : v.ownBlock = some k) : k ≠ p := by
  obtain ⟨xs, h, _⟩ := h
  exact fun e => own_ne h hp (by decide) (by rw [hk, e])
theorem RowE.whole_ne (h : RowE w0 w m v) {p : Nat} {cs : Array Value} (hp : Whole w p 36 cs) {k : Nat} (hk : v.ownBlock = some k) : k ≠ p := by
  obtain ⟨xs, h, _⟩ := h
  exact fun e => own_ne h hp (by decide) (by rw [hk, e])
theorem RowE.shape (h : RowE w0 w m v) : ∃ A n c, v = .slice A n c ∧ n ≤ m ∧ n ≤ c ∧ c ≤ 9223372036854775807 := by
  obtain ⟨xs, h, h2⟩ := h
  obtain ⟨A, c, e, h3, h4⟩ := own_shapeE h
  exact ⟨A, _, c, e, h2, h3, h4⟩
theorem RowN.shape (h : RowN w0 w m v) : ∃ A n c, v = .slice A n c ∧ n ≤ m ∧ n ≤ c ∧ c ≤ 9223372036854775807 := by
  obtain ⟨xs, h, h2⟩ := h
  obtain ⟨A, c, e, h3, h4⟩ := own_shape h
  exact ⟨A, _, c, e, h2, h3, h4⟩
/-- A number stored in such a list. -/
theorem RowN.cell {A : Option Addr} {n c i : Nat} (h : RowN w0 w m (.slice A n c)) (hi : i < n) : ∃ p y, A = some ⟨p, 0, none⟩ ∧ w.cell? ⟨p, i, none⟩ = some y ∧ w.frozen? ⟨p, i, none⟩ = false ∧ ∀ z : Int, RowN w0 (w.setCell ⟨p, i, none⟩ (.int .i64 z)) m (.slice A n c) := by
  obtain ⟨xs, h, hl⟩ := h
  have h1 := h.1
  rw [i64s_len] at h1
  rcases h.2 with ⟨e, e0⟩ | ⟨p, cap, cur, e, hb, hh, k1, k2, k3, k4⟩
  · injection e with _ e2 _; omega
  · injection e with eA en ec
    subst eA ec
    have hW : Whole w p 3 cur := hh
    have hin : i < cur.size := by rw [k3]; omega
    refine ⟨p, cur[i], rfl, by rw [hW.cell, Array.getElem?_eq_getElem hin], hW.frozen i, fun z => ⟨xs.set i z, ⟨by rw [i64s_len, List.length_set]; omega, .inr ⟨p, c, _, by rw [List.length_set, en], hb, hW.store i (.int .i64 z), by rw [List.length_set]; exact k1, k2, by simp [k3], ?_⟩⟩, by rw [List.length_set]; exact hl⟩⟩
    rw [List.length_set, Array.toList_setIfInBounds, List.take_set, k4]
    unfold i64s
    rw [List.map_set]
    rfl
/-- An entry stored in such a list. -/
theorem RowE.cell {A : Option Addr} {n c i : Nat} (h : RowE w0 w m (.slice A n c)) (hi : i < n) (z : Ent) : ∃ p y0 y1 y2 y3, A = some ⟨p, 0, none⟩ ∧ w.cell? ⟨p, i * 4, none⟩ = some y0 ∧ w.cell? ⟨p, i * 4 + 1, none⟩ = some y1 ∧ w.cell? ⟨p, i * 4 + 2, none⟩ = some y2 ∧ w.cell? ⟨p, i * 4 + 3, none⟩ = some y3 ∧ (∀ o, w.frozen? ⟨p, o, none⟩ = false) ∧
    RowE w0 ((((w.setCell ⟨p, i * 4, none⟩ (.int .i64 z.id)).setCell ⟨p, i * 4 + 1, none⟩ (.string z.path)).setCell ⟨p, i * 4 + 2, none⟩ (.int .i64 z.mode)).setCell ⟨p, i * 4 + 3, none⟩ (.int .i64 z.who)) m (.slice A n c) := by
  obtain ⟨xs, h, hl⟩ := h
  have h1 := h.1
  rw [ents_len] at h1
  rcases h.2 with ⟨e, e0⟩ | ⟨p, cap, cur, e, hb, hh, k1, k2, k3, k4⟩
  · injection e with _ e2 _; omega
  · injection e with eA en ec
    subst eA ec
    have hW : Whole w p 25 cur := hh
    have hc : ∀ q, q < 4 → w.cell? ⟨p, i * 4 + q, none⟩ = some (cur[i * 4 + q]!) := fun q hq => by
      have hin : i * 4 + q < cur.size := by rw [k3]; omega
      rw [hW.cell, Array.getElem?_eq_getElem hin, getElem!_pos cur _ hin]
    refine ⟨p, _, _, _, _, rfl, hc 0 (by omega), hc 1 (by omega), hc 2 (by omega), hc 3 (by omega), hW.frozen, xs.set i z, ⟨by rw [ents_len, List.length_set], .inr ⟨p, c, _, by rw [List.length_set, en], hb, (((hW.store (i * 4) (.int .i64 z.id)).store (i * 4 + 1) (.string z.path)).store (i * 4 + 2) (.int .i64 z.mode)).store (i * 4 + 3) (.int .i64 z.who), by rw [List.length_set]; exact k1, k2, by simp [k3], ?_⟩⟩, by rw [List.length_set]; exact hl⟩
    rw [List.length_set, Array.toList_setIfInBounds, Array.toList_setIfInBounds, Array.toList_setIfInBounds, Array.toList_setIfInBounds, List.take_set, List.take_set, List.take_set, List.take_set, k4]
    exact (ents_set xs i z).symm
/-- Apart from one another. -/
def Far (u v : Value) : Prop := ∀ k, u.ownBlock = some k → v.ownBlock ≠ some k
theorem Far.symm {u v : Value} (h : Far u v) : Far v u := fun k h1 h2 => h k h2 h1
end
theorem info_entO : ∃ (i : TypeInfo) (z : Value), Tryd.prog.info? 25 = some i ∧ i.zero = some z ∧ i.size = 4 ∧ i.bytes = 40 ∧ z.cells.size = 4 := by
  obtain ⟨i0, hi, hp⟩ := Option.map_eq_some_iff.1 info_ent
  injection hp with hz1 hz2
  obtain ⟨z, hz0⟩ : ∃ z, i0.zero = some z := by
    have : (Tryd.prog.info? 25).map (fun i => i.zero.isSome) = some true := by kernel_rfl
    rw [hi] at this
    simp only [Option.map_some, Option.some.injEq] at this
    exact Option.isSome_iff_exists.1 this
  have hzc : z.cells.size = 4 := by
    have : (Tryd.prog.info? 25).map (fun i => i.zero.map (fun z => z.cells.size)) = some (some 4) := by kernel_rfl
    rw [hi] at this
    simp only [Option.map_some, hz0, Option.some.injEq] at this
    exact this
  exact ⟨i0, z, hi, hz0, hz1, hz2, hzc⟩
theorem run_app_num {w0 w : World} {m : Nat} {v : Value} (ty : TypeId) (h : RowN w0 w m v) {p : Nat} {y : Int} (hp : Whole w p 3 #[.int .i64 y]) (hl : m ≤ 1000) (hb : w0.heap.size ≤ w.heap.size) :
    ∃ v' w2, (Builtin.append_ #[36, 36] ty #[v, .slice (some ⟨p, 0, none⟩) 1 1]).run Tryd.prog w = .ok v' w2 ∧ RowN w0 w2 (m + 1) v' ∧ Mod v.ownBlock.toList w w2 ∧ (v'.ownBlock = v.ownBlock ∨ v'.ownBlock = some w.heap.size) := by
  obtain ⟨i0, hi, hz0, hz1, hz2⟩ := info_parts info_int
  obtain ⟨xs, hx, hxl⟩ := h
  obtain ⟨v', w', hr, h2, h3, _, h5⟩ := run_append_own_at (P := Tryd.prog) w w0.heap.size 36 ty 3 i0 (.int .i64 0) 1 8 Tryd.underlying36 hi hz0 hz1 hz2 rfl (by decide) v xs.length (i64s xs) hx ⟨p, 0, none⟩ 1 1 [.int .i64 y] rfl
    (World.news_of_block (cs := #[.int .i64 y]) (t := 3) (fr := (0, 0)) hp) (one_i64 (l := [y])) (by unfold maxLen; omega) (by omega) hb
  exact ⟨v', w', hr, ⟨xs ++ [y], by rw [List.length_append, i64s_append]; exact h2, by rw [List.length_append, List.length_singleton]; omega⟩, (Mod.refl _ w).grown h3 (fun k hk => .inl (by rw [hk]; simp)), h5⟩
theorem run_app_ent {w0 w : World} {m : Nat} {v : Value} (ty : TypeId) (h : RowE w0 w m v) {p : Nat} {y : Ent} (hp : Whole w p 25 (four y).toArray) (hl : m ≤ 1000) (hb : w0.heap.size ≤ w.heap.size) :
    ∃ v' w2, (Builtin.append_ #[22, 22] ty #[v, .slice (some ⟨p, 0, none⟩) 1 1]).run Tryd.prog w = .ok v' w2 ∧ RowE w0 w2 (m + 1) v' ∧ Mod v.ownBlock.toList w w2 ∧ (v'.ownBlock = v.ownBlock ∨ v'.ownBlock = some w.heap.size) := by
  obtain ⟨i0, z, hi, hz0, hz1, hz2, hzc⟩ := info_entO
  obtain ⟨xs, hx, hxl⟩ := h
  obtain ⟨v', w', hr, h2, h3, _, h5⟩ := run_append_own_at (P := Tryd.prog) w w0.heap.size 22 ty 25 i0 z 4 40 Tryd.underlying22 hi hz0 hz1 hz2 hzc (by decide) v xs.length (ents xs) hx ⟨p, 0, none⟩ 1 1 (four y) rfl
    (World.news_of_block (cs := (four y).toArray) (t := 25) (fr := (0, 0)) hp) (fun u hu => one_ent (l := [y]) u (by unfold ents; simpa using hu)) (by unfold maxLen; omega) (by omega) hb
  exact ⟨v', w', hr, ⟨xs ++ [y], by rw [List.length_append, ents_append, show ents [y] = four y by unfold ents; simp]; exact h2, by rw [List.length_append, List.length_singleton]; omega⟩, (Mod.refl _ w).grown h3 (fun k hk => .inl (by rw [hk]; simp)), h5⟩
theorem app_num {w0 w : World} {ops : Array Oper} {rest : List Oper} {o : Oper} {a : Act} {Q : Exit → Act → World → Prop} (hgd : o.guard = none) (s x : Operand)
    (ho : o.op = .call { callee := .builtin .append, args := #[s, x], argTypes := #[36, 36] }) {m : Nat} {v : Value} (h : RowN w0 w m v) {p : Nat} {y : Int} (hp : Whole w p 3 #[.int .i64 y]) (hl : m ≤ 1000) (hb : w0.heap.size ≤ w.heap.size)
    (hs : a.eval s = v) (hx : a.eval x = .slice (some ⟨p, 0, none⟩) 1 1) (hK : ∀ v' w2, RowN w0 w2 (m + 1) v' → Mod v.ownBlock.toList w w2 → (v'.ownBlock = v.ownBlock ∨ v'.ownBlock = some w.heap.size) → wpList Tryd.prog ops Q rest (a.put o.dst v') w2) : wpList Tryd.prog ops Q (o :: rest) a w := by
  obtain ⟨v', w2, hr, h1, h2, h3⟩ := run_app_num o.type h hp hl hb
  exact Lib.wpList_append_run w hgd s x _ _ ho _ _ hs hx v' w2 hr (hK v' w2 h1 h2 h3)
theorem app_ente {w0 w : World} {ops : Array Oper} {rest : List Oper} {o : Oper} {a : Act} {Q : Exit → Act → World → Prop} (hgd : o.guard = none) (s x : Operand)
    (ho : o.op = .call { callee := .builtin .append, args := #[s, x], argTypes := #[22, 22] }) {m : Nat} {v : Value} (h : RowE w0 w m v) {p : Nat} {y : Ent} (hp : Whole w p 25 (four y).toArray) (hl : m ≤ 1000) (hb : w0.heap.size ≤ w.heap.size)
    (hs : a.eval s = v) (hx : a.eval x = .slice (some ⟨p, 0, none⟩) 1 1) (hK : ∀ v' w2, RowE w0 w2 (m + 1) v' → Mod v.ownBlock.toList w w2 → (v'.ownBlock = v.ownBlock ∨ v'.ownBlock = some w.heap.size) → wpList Tryd.prog ops Q rest (a.put o.dst v') w2) : wpList Tryd.prog ops Q (o :: rest) a w := by
  obtain ⟨v', w2, hr, h1, h2, h3⟩ := run_app_ent o.type h hp hl hb
  exact Lib.wpList_append_run w hgd s x _ _ ho _ _ hs hx v' w2 hr (hK v' w2 h1 h2 h3)
theorem info_hdr : (Tryd.prog.info? 36).map (fun i => (i.zero, i.size, i.bytes)) = some (some (.slice none 0 0), 1, 24) := by kernel_rfl
/-- A header put behind a row of headers. -/
theorem app_hdr {w : World} {ops : Array Oper} {rest : List Oper} {o : Oper} {a : Act} {Q : Exit → Act → World → Prop} (hgd : o.guard = none) (s x : Operand)
    (ho : o.op = .call { callee := .builtin .append, args := #[s, x], argTypes := #[41, 41] }) {base n : Nat} {v u : Value} {hs : List Value} (h : w.ownsRow base 36 1 v n hs) (h1 : u.oneCell' = true) {p : Nat} (hp : Whole w p 36 #[u]) (hl : n ≤ 1000) (hb : base ≤ w.heap.size)
    (hsv : a.eval s = v) (hxv : a.eval x = .slice (some ⟨p, 0, none⟩) 1 1) (hK : ∀ v' w2, w2.ownsRow base 36 1 v' (n + 1) (hs ++ [u]) → Mod v.ownBlock.toList w w2 → wpList Tryd.prog ops Q rest (a.put o.dst v') w2) : wpList Tryd.prog ops Q (o :: rest) a w := by
  obtain ⟨i0, hi, hz0, hz1, hz2⟩ := info_parts info_hdr
  obtain ⟨v', w', hr, h2, h3, _, h5⟩ := run_append_own_at (P := Tryd.prog) w base 41 o.type 36 i0 (.slice none 0 0) 1 24 Tryd.underlying41 hi hz0 hz1 hz2 rfl (by decide) v n hs h ⟨p, 0, none⟩ 1 1 [u] rfl
    (World.news_of_block (cs := #[u]) (t := 36) (fr := (0, 0)) hp) (fun y hy => by rw [List.mem_singleton.1 hy]; exact h1) (by unfold maxLen; omega) (by omega) hb
  exact Lib.wpList_append_run w hgd s x _ _ ho _ _ hsv hxv v' w' hr (hK v' w' h2 ((Mod.refl _ w).grown h3 (fun k hk => .inl (by rw [hk]; simp))))
/-- What is known at the end of the copying: the row of headers, and three of the lists. -/
theorem row_lit {w : World} {base : Nat} {v : Value} {hs : List Value} {n : Nat} (h : w.ownsRow base 36 1 v n hs) (hn : 0 < n) (hl : hs.length = n) : ∃ p c, v = .slice (some ⟨p, 0, none⟩) n c ∧ base ≤ p ∧ p < w.heap.size ∧ n ≤ c ∧ ∀ i u, hs[i]? = some u → w.cell? ⟨p, i, none⟩ = some u := by
  rcases h.2 with ⟨_, h1⟩ | ⟨g, cap, cur, hv, hb, hh, h2, _, _, ht⟩
  · omega
  · refine ⟨g, cap, hv, hb, (Array.getElem?_eq_some_iff.1 hh).1, h2, fun i u hu => ?_⟩
    rw [cell_of_row w g i cur _ (0, 0) hh]
    rw [← ht, List.getElem?_take] at hu
    split at hu
    · rw [← hu, Array.getElem?_toList]
    · cases hu
/-- The state while lists are turned: since w7 only blocks of T have changed; the lists' headers lie in block I; vk is the one at work. -/
structure Tn (w0 w7 w : World) (T : List Nat) (I m : Nat) (cs : Array Value) (va vk o1 o2 : Value) : Prop where
  mod : Mod T w7 w
  low : w0.heap.size ≤ w.heap.size
  ids : Whole w I 36 cs
  inT : I ∈ T
  ra : RowE w0 w m va
  rk : RowN w0 w m vk
  r1 : RowN w0 w m o1
  r2 : RowN w0 w m o2
  ba : ∀ k, va.ownBlock = some k → k ∈ T ∨ w7.heap.size ≤ k
  bk : ∀ k, vk.ownBlock = some k → k ∈ T ∨ w7.heap.size ≤ k
  b1 : ∀ k, o1.ownBlock = some k → k ∈ T ∨ w7.heap.size ≤ k
  b2 : ∀ k, o2.ownBlock = some k → k ∈ T ∨ w7.heap.size ≤ k
  x1 : Far vk o1
  x2 : Far vk o2
  x12 : Far o1 o2
section
variable {w0 w7 w w' : World} {T : List Nat} {I m : Nat} {cs : Array Value} {va vk o1 o2 : Value}
theorem Tn.on (h : Tn w0 w7 w T I m cs va vk o1 o2) (hb : Below w.heap.size w w') : Tn w0 w7 w' T I m cs va vk o1 o2 :=
  have hm := Mod.of_below hb []
  ⟨h.mod.trans hm (by simp), Nat.le_trans h.low hb.size, hm.whole h.ids (by simp), h.inT, h.ra.mod hm (by simp), h.rk.mod hm (by simp), h.r1.mod hm (by simp), h.r2.mod hm (by simp), h.ba, h.bk, h.b1, h.b2, h.x1, h.x2, h.x12⟩
theorem Tn.rot1 (h : Tn w0 w7 w T I m cs va vk o1 o2) : Tn w0 w7 w T I m cs va o1 vk o2 := ⟨h.mod, h.low, h.ids, h.inT, h.ra, h.r1, h.rk, h.r2, h.ba, h.b1, h.bk, h.b2, h.x1.symm, h.x12, h.x2⟩
theorem Tn.rot2 (h : Tn w0 w7 w T I m cs va vk o1 o2) : Tn w0 w7 w T I m cs va o2 vk o1 := ⟨h.mod, h.low, h.ids, h.inT, h.ra, h.r2, h.rk, h.r1, h.ba, h.b2, h.bk, h.b1, h.x2.symm, h.x12.symm, h.x1⟩
theorem RowE.more {n : Nat} (h : RowE w0 w m va) (hn : m ≤ n) : RowE w0 w n va := by obtain ⟨xs, h, h2⟩ := h; exact ⟨xs, h, by omega⟩
theorem RowN.more {n : Nat} (h : RowN w0 w m va) (hn : m ≤ n) : RowN w0 w n va := by obtain ⟨xs, h, h2⟩ := h; exact ⟨xs, h, by omega⟩
theorem blk_toList {u : Value} {k : Nat} (h : k ∈ u.ownBlock.toList) : u.ownBlock = some k := by simpa using h
theorem fresh_or {u u' : Value} {P : Nat → Prop} (h : ∀ k, u.ownBlock = some k → P k) (hn : P w.heap.size) (hv : u'.ownBlock = u.ownBlock ∨ u'.ownBlock = some w.heap.size) : ∀ k, u'.ownBlock = some k → P k := fun k hk => by
  rcases hv with e | e
  · rw [e] at hk; exact h k hk
  · rw [e] at hk; injection hk with hk; subst hk; exact hn
/-- The entries' list is turned. -/
theorem Tn.turnA (h : Tn w0 w7 w T I m cs va vk o1 o2) {va' : Value} {n : Nat} (hm : Mod va.ownBlock.toList w w') (hr : RowE w0 w' n va') (hn : m ≤ n) (hv : va'.ownBlock = va.ownBlock ∨ va'.ownBlock = some w.heap.size) : Tn w0 w7 w' T I n cs va' vk o1 o2 := by
  have hf : ∀ {u : Value} {q : Nat}, RowN w0 w q u → ∀ k, u.ownBlock = some k → k ∉ va.ownBlock.toList := fun hu k hk hx => by
    obtain ⟨xs, h1, _⟩ := hu
    obtain ⟨ys, h2, _⟩ := h.ra
    exact two_rows h2 h1 (by decide) (blk_toList hx) hk
  exact ⟨h.mod.trans hm (fun x hx => h.ba x (blk_toList hx)), Nat.le_trans h.low hm.size, hm.whole h.ids (fun hx => (h.ra.whole_ne h.ids (blk_toList hx)) rfl), h.inT, hr, (h.rk.mod hm (hf h.rk)).more hn, (h.r1.mod hm (hf h.r1)).more hn, (h.r2.mod hm (hf h.r2)).more hn,
    fresh_or h.ba (.inr h.mod.size) hv, h.bk, h.b1, h.b2, h.x1, h.x2, h.x12⟩
/-- The list at work is turned. -/
theorem Tn.turn (h : Tn w0 w7 w T I m cs va vk o1 o2) {vk' : Value} {n : Nat} (hm : Mod vk.ownBlock.toList w w') (hr : RowN w0 w' n vk') (hn : m ≤ n) (hv : vk'.ownBlock = vk.ownBlock ∨ vk'.ownBlock = some w.heap.size) : Tn w0 w7 w' T I n cs va vk' o1 o2 := by
  have hfar : ∀ {u : Value} {q : Nat}, RowN w0 w q u → Far vk u → ∀ k, u.ownBlock = some k → k ∉ vk.ownBlock.toList := fun hu hx k hk hy => hx k (blk_toList hy) hk
  have hnew : ∀ {u : Value} {q : Nat}, RowN w0 w q u → u.ownBlock ≠ some w.heap.size := fun hu e => by have := (hu.lt e).2; omega
  exact ⟨h.mod.trans hm (fun x hx => h.bk x (blk_toList hx)), Nat.le_trans h.low hm.size, hm.whole h.ids (fun hx => (h.rk.whole_ne h.ids (blk_toList hx)) rfl), h.inT, (h.ra.mod hm (fun k hk hx => by
    obtain ⟨xs, h1, _⟩ := h.rk
    obtain ⟨ys, h2, _⟩ := h.ra
    exact two_rows h1 h2 (by decide) (blk_toList hx) hk)).more hn, hr, (h.r1.mod hm (hfar h.r1 h.x1)).more hn, (h.r2.mod hm (hfar h.r2 h.x2)).more hn,
    h.ba, fresh_or h.bk (.inr h.mod.size) hv, h.b1, h.b2, fresh_or (P := fun k => o1.ownBlock ≠ some k) h.x1 (hnew h.r1) hv, fresh_or (P := fun k => o2.ownBlock ≠ some k) h.x2 (hnew h.r2) hv, h.x12⟩
/-- Its header is laid down. -/
theorem Tn.head (h : Tn w0 w7 w T I m cs va vk o1 o2) (i : Nat) (u : Value) : Tn w0 w7 (w.setCell ⟨I, i, none⟩ u) T I m (cs.setIfInBounds i u) va vk o1 o2 := by
  have hm : Mod [I] w (w.setCell ⟨I, i, none⟩ u) := (Mod.refl _ w).store (.inl (by simp)) u
  have hN : ∀ {v : Value}, RowN w0 w m v → RowN w0 (w.setCell ⟨I, i, none⟩ u) m v := fun hv => hv.mod hm (fun k hk hx => hv.whole_ne h.ids hk (by simpa using hx))
  exact ⟨h.mod.trans hm (fun x hx => .inl (by rw [List.mem_singleton.1 hx]; exact h.inT)), Nat.le_trans h.low hm.size, h.ids.store i u, h.inT, h.ra.mod hm (fun k hk hx => h.ra.whole_ne h.ids hk (by simpa using hx)), hN h.rk, hN h.r1, hN h.r2, h.ba, h.bk, h.b1, h.b2, h.x1, h.x2, h.x12⟩
end
end Go.Proofs.YtpfljooceppcbaaDoor
