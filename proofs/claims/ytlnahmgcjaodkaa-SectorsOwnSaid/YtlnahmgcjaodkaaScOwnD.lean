/- Slices of bytes that may be written to, whatever they hold, nil let in; lists of headers of such slices. -/
import Derived.Test.YtlnahmgcjaodkaaScTMath
import Derived.Deep.AppendSrc
namespace Go.Proofs.Ytlnahmgcjaodkaa.Own
open Go.RowKit
open By (BytesAt u8s own_shape)
set_option linter.unusedVariables false
set_option linter.unusedSimpArgs false
set_option maxRecDepth 100000
/-- All rows stay rows. -/
def Holds (W w2 : World) : Prop := ∀ (b : Nat) (t : TypeId) (cs : Array Value), Whole W b t cs → ∃ cs', Whole w2 b t cs' ∧ cs'.size = cs.size
theorem Holds.refl (w : World) : Holds w w := fun _ _ cs h => ⟨cs, h, rfl⟩
theorem Holds.trans {a b c : World} (h : Holds a b) (k : Holds b c) : Holds a c := fun g t cs hg => by
  obtain ⟨cs', h1, h2⟩ := h g t cs hg
  obtain ⟨cs2, k1, k2⟩ := k g t cs' h1
  exact ⟨cs2, k1, k2.trans h2⟩
theorem Holds.store (w : World) (p : Addr) (hp : p.spot = none) (u : Value) : Holds w (w.setCell p u) := fun b t cs h => by
  obtain ⟨g, i, s⟩ := p
  have hp : s = none := hp
  subst hp
  by_cases e : b = g
  · subst e
    exact ⟨_, h.store i u, by simp⟩
  · exact ⟨cs, h.far e u, rfl⟩
theorem Holds.alloc (w : World) (o : Obj) : Holds w (w.alloc o) := fun b t cs h => ⟨cs, h.alloc o, rfl⟩
theorem Holds.drew (w : World) : Holds w w.drew := fun b t cs h => ⟨cs, h, rfl⟩
theorem Holds.of {w w' : World} (h : Below w.heap.size w w') : Holds w w' := fun b t cs hw => ⟨cs, (Mod.of_below h []).whole hw (by simp), rfl⟩
theorem Holds.cellAt {a b : World} {g k : Nat} {t : TypeId} {cs : Array Value} (h : Holds a b) (hw : Whole a g t cs) (hk : k < cs.size) : ∃ u, b.cell? ⟨g, k, none⟩ = some u ∧ b.frozen? ⟨g, k, none⟩ = false := by
  obtain ⟨cs', k1, k2⟩ := h g t cs hw
  exact ⟨_, (k1.cell k).trans (Array.getElem?_eq_getElem (by omega)), k1.frozen k⟩
/-- A slice of n bytes, nil let in, in a block that may be turned; what it holds doesn't matter. -/
def GwB (w : World) (F : List Nat) (B : Nat) (A : Option Addr) (n c : Nat) : Prop :=
  n ≤ c ∧ c ≤ 9223372036854775807 ∧ ((A = none ∧ c = 0) ∨ ∃ g cs, A = some ⟨g, 0, none⟩ ∧ Whole w g 5 cs ∧ c ≤ cs.size ∧ (g ∈ F ∨ B ≤ g))
section
variable {w w' : World} {F : List Nat} {B n c : Nat} {A : Option Addr}
theorem GwB.own {base : Nat} {xs : List Value} (h : w.ownsRow base 5 1 (.slice A n c) n xs) (hF : ∀ k, base ≤ k → k < w.heap.size → k ∈ F ∨ B ≤ k) : GwB w F B A n c := by
  rcases h.2 with ⟨hv, h0⟩ | ⟨g, cap, cur, hv, hb, hh, h1, h2, h3, _⟩
  · injection hv with e1 e2 e3
    subst e1 e3
    exact ⟨by omega, by omega, .inl ⟨rfl, rfl⟩⟩
  · injection hv with e1 e2 e3
    subst e1 e3
    exact ⟨h1, by unfold maxLen at h2; omega, .inr ⟨g, cur, rfl, hh, by omega, hF g hb (Array.getElem?_eq_some_iff.1 hh).1⟩⟩
theorem GwB.zero : GwB w F B none 0 0 := ⟨Nat.le_refl _, by omega, .inl ⟨rfl, rfl⟩⟩
theorem GwB.holds (h : GwB w F B A n c) (k : Holds w w') : GwB w' F B A n c := by
  obtain ⟨h1, h2, h3⟩ := h
  refine ⟨h1, h2, h3.imp id ?_⟩
  rintro ⟨g, cs, e, hw, hc, hg⟩
  obtain ⟨cs', k1, k2⟩ := k g _ cs hw
  exact ⟨g, cs', e, k1, by omega, hg⟩
/-- The blocks that an append to it may turn. -/
def blk (A : Option Addr) : List Nat := match A with | none => [] | some a => [a.block]
theorem GwB.blk (h : GwB w F B A n c) : ∀ x ∈ blk A, x ∈ F ∨ B ≤ x := by
  rcases h.2.2 with ⟨rfl, _⟩ | ⟨g, cs, rfl, _, _, hg⟩
  · intro x hx; cases hx
  · intro x hx; rw [List.mem_singleton.1 hx]; exact hg
theorem GwB.ne (h : GwB w F B A n c) {t : TypeId} {b : Nat} {cs : Array Value} (k : Whole w b t cs) (ht : t ≠ 5) : b ∉ Own.blk A := by
  rcases h.2.2 with ⟨rfl, _⟩ | ⟨g, ds, rfl, hw, _, _⟩
  · exact List.not_mem_nil
  · intro hx
    have e : b = g := List.mem_singleton.1 hx
    exact Whole.ne k hw ht e
/-- Its cells are there. -/
theorem GwB.cell (h : GwB w F B A n c) {i : Nat} (hi : i < n) : ∃ g u, A = some ⟨g, 0, none⟩ ∧ w.cell? ⟨g, i, none⟩ = some u ∧ w.frozen? ⟨g, i, none⟩ = false ∧ (g ∈ F ∨ B ≤ g) := by
  rcases h.2.2 with ⟨_, h0⟩ | ⟨g, cs, e, hw, hc, hg⟩
  · have := h.1; omega
  · exact ⟨g, _, e, (hw.cell i).trans (Array.getElem?_eq_getElem (by have := h.1; omega)), hw.frozen i, hg⟩
theorem GwB.cellW (h : GwB w F B A n c) {i : Nat} (hi : i < n) : ∃ g u cs, A = some ⟨g, 0, none⟩ ∧ w.cell? ⟨g, i, none⟩ = some u ∧ w.frozen? ⟨g, i, none⟩ = false ∧ Hid (Whole w g 5 cs) ∧ Hid (g ∈ F ∨ B ≤ g) := by
  rcases h.2.2 with ⟨_, h0⟩ | ⟨g, cs, e, hw, hc, hg⟩
  · have := h.1; omega
  · exact ⟨g, _, cs, e, (hw.cell i).trans (Array.getElem?_eq_getElem (by have := h.1; omega)), hw.frozen i, Lib.hid hw, Lib.hid hg⟩
theorem run_app_gwb (ty : TypeId) (h : GwB w F B A n c) {p : Nat} {y : Value} (h1 : y.oneCell' = true) (hp : Whole w p 5 #[y]) (hn : n ≤ 1000) (hB : B ≤ w.heap.size) :
    ∃ A' c' w2, (Builtin.append_ #[26, 26] ty #[.slice A n c, .slice (some ⟨p, 0, none⟩) 1 1]).run Try.prog w = .ok (.slice A' (n + 1) c') w2 ∧
      GwB w2 F B A' (n + 1) c' ∧ Mod (Own.blk A) w w2 ∧ Holds w w2 := by
  obtain ⟨i0, hi, hz0, hz1, hz2⟩ := info_parts By.info_u8
  have hs : Src Try.prog i0.size 26 (.slice (some ⟨p, 0, none⟩) 1 1) 1 [y] w := Src.ofSlice w Try.underlying26 ⟨p, 0, none⟩ 1 1 [y] (by rw [hz1]; rfl)
    (World.news_of_block (cs := #[y]) (t := 5) (fr := (0, 0)) hp) (by intro u hu; rw [List.mem_singleton.1 hu]; exact h1)
  obtain ⟨hle, hcm0, h3⟩ := h
  have grow : ∀ (olds : List Value), olds.length = n → c < n + 1 → (Builtin.firstCells i0.size n (.slice A n c)).run Try.prog w.drew = .ok olds.toArray w.drew → ∃ A' c' w2, (Builtin.append_ #[26, 26] ty #[.slice A n c, .slice (some ⟨p, 0, none⟩) 1 1]).run Try.prog w = .ok (.slice A' (n + 1) c') w2 ∧
      GwB w2 F B A' (n + 1) c' ∧ Mod (Own.blk A) w w2 ∧ Holds w w2 := fun olds ho hlt hold => by
    have hrun := run_append_grow_src (P := Try.prog) w 26 26 ty 5 i0 (.int .u8 0) Try.underlying26 hi hz0 A n c olds hold _ 1 [y] hs hlt (by omega) (growslice_fits hlt (by rw [hz2]; omega))
    have hge := grownCap_ge w (n + 1) c 5
    have hcm : grownCap w (n + 1) c 5 ≤ maxLen := grownCap_le_maxLen w (n + 1) c 5 (by unfold maxLen; omega)
    refine ⟨some ⟨w.heap.size, 0, none⟩, grownCap w (n + 1) c 5, _, hrun, ⟨hge, by unfold maxLen at hcm; omega, .inr ⟨w.heap.size, _, rfl, Whole.new w.drew _ _, ?_, .inr hB⟩⟩, (((Mod.refl _ w).drew).alloc _), (Holds.drew w).trans (Holds.alloc _ _)⟩
    simp only [Array.size_append, List.size_toArray, List.length_append, size_zeroCells, ho]
    have hv1 : (Value.int IntKind.u8 0).cells.size = 1 := rfl
    rw [hv1]
    simp only [List.length_cons, List.length_nil]
    omega
  rcases h3 with ⟨rfl, rfl⟩ | ⟨g, cs, rfl, hw, hc, hg⟩
  · obtain rfl : n = 0 := by omega
    exact grow [] rfl (by omega) (run_firstCells_none w.drew i0.size 0 0 0)
  · by_cases hr : n + 1 ≤ c
    · have hrun := run_append_room_src (P := Try.prog) w 26 26 ty 5 i0 Try.underlying26 hi g 0 n c _ 1 [y] hs hr
        (fun j hj => by
          have hj0 : j = 0 := by simpa using hj
          subst hj0
          rw [hz1, hw.cell, Array.getElem?_eq_getElem (by omega)]; rfl)
        (fun j hj => hw.frozen _)
      rw [hz1] at hrun
      have e : w.setCells g (0 + n * 1) [y] = w.setCell ⟨g, n, none⟩ y := by rw [Nat.zero_add, Nat.mul_one]; rfl
      rw [e] at hrun
      have hH := Holds.store w ⟨g, n, none⟩ rfl y
      exact ⟨some ⟨g, 0, none⟩, c, _, hrun, GwB.holds ⟨hr, hcm0, .inr ⟨g, cs, rfl, hw, hc, hg⟩⟩ hH, (Mod.refl [g] w).store (.inl (by simp)) y, hH⟩
    · exact grow (cs.toList.take n) (by rw [List.length_take, Array.length_toList]; omega) (by omega)
        (run_firstCells_some w.drew i0.size n ⟨g, 0, none⟩ n c (cs.toList.take n) (by rw [hz1, List.length_take, Array.length_toList]; omega) (fun j u hu => by
          have hj : j < n := by have := (List.getElem?_eq_some_iff.1 hu).1; rw [List.length_take] at this; omega
          rw [List.getElem?_take, if_pos hj] at hu
          rw [Addr.add_lit, Nat.zero_add]
          exact (hw.cell j).trans (by simpa using hu)))
theorem list_app_gwb {ops : Array Oper} {rest : List Oper} {o : Oper} {a : Act} {Q : Exit → Act → World → Prop} (hgd : o.guard = none) (s x : Operand) (ho : o.op = .call { callee := .builtin .append, args := #[s, x], argTypes := #[26, 26] })
    (h : GwB w F B A n c) (p : Nat) (y : Value) (h1 : y.oneCell' = true) (hp : Whole w p 5 #[y]) (hn : n ≤ 1000) (hB : B ≤ w.heap.size)
    (hsv : a.eval s = .slice A n c) (hxv : a.eval x = .slice (some ⟨p, 0, none⟩) 1 1)
    (hK : ∀ A' c' w2, GwB w2 F B A' (n + 1) c' → Mod (Own.blk A) w w2 → Holds w w2 → wpList Try.prog ops Q rest (a.put o.dst (.slice A' (n + 1) c')) w2) : wpList Try.prog ops Q (o :: rest) a w := by
  refine wpList_plain hgd fun K hK' => ?_
  obtain ⟨A', c', w2, hr, h2, h3, h4⟩ := run_app_gwb o.type h h1 hp hn hB
  unfold Oper.wp execOp
  simp only [ho, resolve, invoke, builtin, Sem.run_bind, Sem.run_pure, Result.andThen_ok, List.map_toArray, List.map_cons, List.map_nil, hsv, hxv, hr]
  exact hK' _ _ (hK A' c' w2 h2 h3 h4)
end
/-- Headers of slices that may be turned, in one block. -/
structure Hx (F : List Nat) (B : Nat) (A : Option Addr) (N M : Nat) (cur : World) : Prop where
  ex : 0 < N → ∃ g cs, A = some ⟨g, 0, none⟩ ∧ Whole cur g 26 cs ∧ (g ∈ F ∨ B ≤ g) ∧ ∀ j, j < N → ∃ A' n c, cs[j]? = some (.slice A' n c) ∧ n ≤ M ∧ GwB cur F B A' n c
section
variable {cur w2 : World} {F G : List Nat} {B N M : Nat} {A : Option Addr}
theorem Hx.mod (h : Hx F B A N M cur) (hm : Mod G cur w2) (hG : ∀ g cs, A = some ⟨g, 0, none⟩ → Whole cur g 26 cs → g ∉ G) (hh : Holds cur w2) : Hx F B A N M w2 := ⟨fun h0 => by
  obtain ⟨g, cs, e, hw, hg, hj⟩ := h.ex h0
  exact ⟨g, cs, e, hm.whole hw (hG g cs e hw), hg, fun j k => by obtain ⟨A', n, c, h1, h2, h3⟩ := hj j k; exact ⟨A', n, c, h1, h2, h3.holds hh⟩⟩⟩
theorem Hx.on (h : Hx F B A N M cur) (hb : Below cur.heap.size cur w2) : Hx F B A N M w2 := h.mod (Mod.of_below hb []) (fun _ _ _ _ => List.not_mem_nil) (Holds.of hb)
theorem Hx.more {M' : Nat} (h : Hx F B A N M cur) (hM : M ≤ M') : Hx F B A N M' cur := ⟨fun h0 => by
  obtain ⟨g, cs, e, hw, hg, hj⟩ := h.ex h0
  exact ⟨g, cs, e, hw, hg, fun j k => by obtain ⟨A', n, c, h1, h2, h3⟩ := hj j k; exact ⟨A', n, c, h1, Nat.le_trans h2 hM, h3⟩⟩⟩
/-- A byte of a slice of bytes is stored. -/
theorem Hx.byte (h : Hx F B A N M cur) {b : Nat} {ds : Array Value} (hb : Whole cur b 5 ds) (i : Nat) (u : Value) : Hx F B A N M (cur.setCell ⟨b, i, none⟩ u) :=
  h.mod ((Mod.refl [b] cur).store (p := ⟨b, i, none⟩) (.inl (by simp)) u) (fun g cs _ hw hx => Whole.ne hw hb (by decide) (List.mem_singleton.1 hx)) (Holds.store cur ⟨b, i, none⟩ rfl u)
theorem Hx.at (h : Hx F B A N M cur) {j : Nat} (hj : j < N) : ∃ g A' n c, A = some ⟨g, 0, none⟩ ∧ cur.cell? ⟨g, j, none⟩ = some (.slice A' n c) ∧ cur.frozen? ⟨g, j, none⟩ = false ∧ Hid (n ≤ M) ∧ Hid (GwB cur F B A' n c) ∧ Hid (g ∈ F ∨ B ≤ g) ∧ Hid (∃ cs, Whole cur g 26 cs) := by
  obtain ⟨g, cs, e, hw, hg, hk⟩ := h.ex (by omega)
  obtain ⟨A', n, c, h1, h2, h3⟩ := hk j hj
  exact ⟨g, A', n, c, e, (hw.cell j).trans h1, hw.frozen j, Lib.hid h2, Lib.hid h3, Lib.hid hg, Lib.hid ⟨cs, hw⟩⟩
theorem Hx.set {M' g : Nat} (h : Hx F B (some ⟨g, 0, none⟩) N M cur) {j n c : Nat} (hj : j < N) {A' : Option Addr} (hg : GwB cur F B A' n c) (hn : n ≤ M') (hM : M ≤ M') : Hx F B (some ⟨g, 0, none⟩) N M' (cur.setCell ⟨g, j, none⟩ (.slice A' n c)) := ⟨fun h0 => by
  obtain ⟨g', cs, e, hw, hf, hk⟩ := h.ex h0
  cases e
  have hh := Holds.store cur ⟨g, j, none⟩ rfl (.slice A' n c)
  refine ⟨g, _, rfl, hw.store j (.slice A' n c), hf, fun i hi => ?_⟩
  have hsz : j < cs.size := by obtain ⟨_, _, _, h1, _⟩ := hk j hj; exact (Array.getElem?_eq_some_iff.1 h1).1
  by_cases e : i = j
  · subst e
    exact ⟨A', n, c, by rw [Array.getElem?_setIfInBounds_self_of_lt hsz], hn, hg.holds hh⟩
  · obtain ⟨A2, n2, c2, h1, h2, h3⟩ := hk i hi
    exact ⟨A2, n2, c2, by rw [Array.getElem?_setIfInBounds_ne (Ne.symm e)]; exact h1, Nat.le_trans h2 hM, h3.holds hh⟩⟩
/-- A list that Pack laid may be turned. -/
theorem Hx.packed {base g n : Nat} {bs : List Nat} {xs : List (List UInt8)} (h : Packed base g bs n xs cur) (hn : xs.length = n) (h64 : ∀ (j : Nat) (x : List UInt8), xs[j]? = some x → x.length = 64) (hg : g ∈ F ∨ B ≤ g) (hF : ∀ b ∈ bs, b ∈ F ∨ B ≤ b) : Hx F B (some ⟨g, 0, none⟩) n 64 cur := ⟨fun h0 =>
  ⟨g, _, rfl, h.row, hg, fun j hj => by
    have hjb : j < bs.length := by rw [h.len]; omega
    obtain ⟨x, hx⟩ : ∃ x, xs[j]? = some x := ⟨_, List.getElem?_eq_getElem (by omega)⟩
    obtain ⟨k1, k2⟩ := h.each j _ x (List.getElem?_eq_getElem hjb) hx
    exact ⟨some ⟨bs[j], 0, none⟩, 64, 64, packCells_hdr (List.getElem?_eq_getElem hjb), Nat.le_refl _, Nat.le_refl _, by decide, .inr ⟨bs[j], _, rfl, k2, by rw [List.size_toArray, By.u8s_len, h64 j x hx]; exact Nat.le_refl _, hF _ (List.getElem_mem hjb)⟩⟩⟩⟩
/-- A list of own rows may be turned. -/
theorem Hx.lst {base c : Nat} {rs : List (List UInt8)} (h : Lst base rs (.slice A rs.length c) cur) (hM : ∀ (j : Nat) (x : List UInt8), rs[j]? = some x → x.length ≤ M) (hF : ∀ k, base ≤ k → k < cur.heap.size → k ∈ F ∨ B ≤ k) : Hx F B A rs.length M cur := ⟨fun h0 => by
  obtain ⟨hs, h1, h2⟩ := h.ex
  obtain ⟨g, cap, hv, hb, _⟩ := h1.form h0
  injection hv with e1 e2 e3
  subst e1
  obtain ⟨cs, hw⟩ := own_whole h1 (k := g) rfl
  refine ⟨g, cs, rfl, hw, hF g hb hw.lt, fun j hj => ?_⟩
  obtain ⟨x, hx⟩ : ∃ x, rs[j]? = some x := ⟨_, List.getElem?_eq_getElem hj⟩
  obtain ⟨v', k1, k2⟩ := h2 j x hx
  obtain ⟨A', c', rfl, _, _⟩ := own_shape k2
  exact ⟨A', x.length, c', by rw [← hw.cell, h1.cellAt j (by have := h1.1; omega)]; exact k1, hM j x hx, GwB.own k2 hF⟩⟩
end
/-- What may be turned: a list of sectors, a part's bytes, a list of records; all else stands since wz. -/
structure Ph (F : List Nat) (B : Nat) (wz : World) (gx m Mx gp : Nat) (q0 q1 q2 q3 : Value) (Ap : Option Addr) (np cp : Nat) (Ar : Option Addr) (N Mr : Nat) (cur : World) : Prop where
  mod : Mod F wz cur
  x : Hx F B (some ⟨gx, 0, none⟩) m Mx cur
  p : Whole cur gp 33 #[q0, q1, q2, q3, .slice Ap np cp]
  pd : GwB cur F B Ap np cp
  r : Hx F B Ar N Mr cur
  inF : gp ∈ F
  big : wz.heap.size = B
  ne : ∀ g, Ar = some ⟨g, 0, none⟩ → g ≠ gx
section
variable {F : List Nat} {B : Nat} {wz : World} {gx m Mx gp : Nat} {q0 q1 q2 q3 : Value} {Ap : Option Addr} {np cp : Nat} {Ar : Option Addr} {N Mr : Nat} {cur w2 : World}
theorem Ph.le (h : Ph F B wz gx m Mx gp q0 q1 q2 q3 Ap np cp Ar N Mr cur) : B ≤ cur.heap.size := by have := h.mod.size; have := h.big; omega
/-- Blocks of bytes were written to, or new ones made. -/
theorem Ph.step (h : Ph F B wz gx m Mx gp q0 q1 q2 q3 Ap np cp Ar N Mr cur) {G : List Nat} (hm : Mod G cur w2) (hG : ∀ x ∈ G, x ∈ F ∨ B ≤ x) (hne : ∀ (g : Nat) (t : TypeId) (cs : Array Value), Whole cur g t cs → t ≠ 5 → g ∉ G) (hh : Holds cur w2) : Ph F B wz gx m Mx gp q0 q1 q2 q3 Ap np cp Ar N Mr w2 :=
  ⟨h.mod.trans hm (fun x hx => by rw [h.big]; exact hG x hx), h.x.mod hm (fun g cs _ hw => hne g _ cs hw (by decide)) hh, hm.whole h.p (hne gp _ _ h.p (by decide)), h.pd.holds hh, h.r.mod hm (fun g cs _ hw => hne g _ cs hw (by decide)) hh, h.inF, h.big, h.ne⟩
theorem Ph.byte (h : Ph F B wz gx m Mx gp q0 q1 q2 q3 Ap np cp Ar N Mr cur) {b : Nat} {ds : Array Value} (hb : Whole cur b 5 ds) (hf : b ∈ F ∨ B ≤ b) (i : Nat) (u : Value) : Ph F B wz gx m Mx gp q0 q1 q2 q3 Ap np cp Ar N Mr (cur.setCell ⟨b, i, none⟩ u) :=
  h.step ((Mod.refl [b] cur).store (p := ⟨b, i, none⟩) (.inl (by simp)) u) (fun x hx => by rw [List.mem_singleton.1 hx]; exact hf) (fun g t cs hw ht hx => Whole.ne hw hb ht (List.mem_singleton.1 hx)) (Holds.store cur ⟨b, i, none⟩ rfl u)
theorem Ph.alloc (h : Ph F B wz gx m Mx gp q0 q1 q2 q3 Ap np cp Ar N Mr cur) (o : Obj) : Ph F B wz gx m Mx gp q0 q1 q2 q3 Ap np cp Ar N Mr (cur.alloc o) :=
  h.step (G := []) ((Mod.refl [] cur).alloc o) (fun x hx => by cases hx) (fun _ _ _ _ _ => List.not_mem_nil) (Holds.alloc cur o)
theorem Ph.app (h : Ph F B wz gx m Mx gp q0 q1 q2 q3 Ap np cp Ar N Mr cur) {A : Option Addr} {n c : Nat} (hg : GwB cur F B A n c) (hm : Mod (Own.blk A) cur w2) (hh : Holds cur w2) : Ph F B wz gx m Mx gp q0 q1 q2 q3 Ap np cp Ar N Mr w2 :=
  h.step hm hg.blk (fun g t cs hw ht => hg.ne hw ht) hh
theorem Ph.more {Mx' Mr' : Nat} (h : Ph F B wz gx m Mx gp q0 q1 q2 q3 Ap np cp Ar N Mr cur) (h1 : Mx ≤ Mx') (h2 : Mr ≤ Mr') : Ph F B wz gx m Mx' gp q0 q1 q2 q3 Ap np cp Ar N Mr' cur :=
  ⟨h.mod, h.x.more h1, h.p, h.pd, h.r.more h2, h.inF, h.big, h.ne⟩
theorem Ph.setp (h : Ph F B wz gx m Mx gp q0 q1 q2 q3 Ap np cp Ar N Mr cur) {A' : Option Addr} {n' c' : Nat} (hg : GwB cur F B A' n' c') : Ph F B wz gx m Mx gp q0 q1 q2 q3 A' n' c' Ar N Mr (cur.setCell ⟨gp, 4, none⟩ (.slice A' n' c')) := by
  have hm : Mod [gp] cur (cur.setCell ⟨gp, 4, none⟩ (.slice A' n' c')) := (Mod.refl [gp] cur).store (p := ⟨gp, 4, none⟩) (.inl (by simp)) _
  have hh := Holds.store cur ⟨gp, 4, none⟩ rfl (.slice A' n' c')
  have hne : ∀ (g : Nat) (cs : Array Value), Whole cur g 26 cs → g ∉ [gp] := fun g cs hw hx => Whole.ne hw h.p (by decide) (List.mem_singleton.1 hx)
  exact ⟨h.mod.store (p := ⟨gp, 4, none⟩) (.inl h.inF) _, h.x.mod hm (fun g cs _ hw => hne g cs hw) hh, h.p.store 4 (.slice A' n' c'), hg.holds hh, h.r.mod hm (fun g cs _ hw => hne g cs hw) hh, h.inF, h.big, h.ne⟩
theorem Ph.setx (h : Ph F B wz gx m Mx gp q0 q1 q2 q3 Ap np cp Ar N Mr cur) {M' j n c : Nat} (hj : j < m) {A' : Option Addr} (hf : gx ∈ F ∨ B ≤ gx) (hw : ∃ cs, Whole cur gx 26 cs) (hg : GwB cur F B A' n c) (hn : n ≤ M') (hM : Mx ≤ M') : Ph F B wz gx m M' gp q0 q1 q2 q3 Ap np cp Ar N Mr (cur.setCell ⟨gx, j, none⟩ (.slice A' n c)) := by
  obtain ⟨ds, hd⟩ := hw
  have hm : Mod [gx] cur (cur.setCell ⟨gx, j, none⟩ (.slice A' n c)) := (Mod.refl [gx] cur).store (p := ⟨gx, j, none⟩) (.inl (by simp)) _
  have hh := Holds.store cur ⟨gx, j, none⟩ rfl (.slice A' n c)
  exact ⟨h.mod.store (p := ⟨gx, j, none⟩) (by rw [h.big]; exact hf) _, h.x.set hj hg hn hM, h.p.far (q := ⟨gx, j, none⟩) (fun e => Whole.ne h.p hd (by decide) e) _, h.pd.holds hh, h.r.mod hm (fun g cs e _ hx => h.ne g e (List.mem_singleton.1 hx)) hh, h.inF, h.big, h.ne⟩
theorem Ph.setr {gr : Nat} (h : Ph F B wz gx m Mx gp q0 q1 q2 q3 Ap np cp (some ⟨gr, 0, none⟩) N Mr cur) {M' j n c : Nat} (hj : j < N) {A' : Option Addr} (hf : gr ∈ F ∨ B ≤ gr) (hw : ∃ cs, Whole cur gr 26 cs) (hg : GwB cur F B A' n c) (hn : n ≤ M') (hM : Mr ≤ M') : Ph F B wz gx m Mx gp q0 q1 q2 q3 Ap np cp (some ⟨gr, 0, none⟩) N M' (cur.setCell ⟨gr, j, none⟩ (.slice A' n c)) := by
  obtain ⟨ds, hd⟩ := hw
  have hm : Mod [gr] cur (cur.setCell ⟨gr, j, none⟩ (.slice A' n c)) := (Mod.refl [gr] cur).store (p := ⟨gr, j, none⟩) (.inl (by simp)) _
  have hh := Holds.store cur ⟨gr, j, none⟩ rfl (.slice A' n c)
  exact ⟨h.mod.store (p := ⟨gr, j, none⟩) (by rw [h.big]; exact hf) _, h.x.mod hm (fun g cs e _ hx => by cases e; exact h.ne gr rfl (List.mem_singleton.1 hx).symm) hh, h.p.far (q := ⟨gr, j, none⟩) (fun e => Whole.ne h.p hd (by decide) e) _, h.pd.holds hh, h.r.set hj hg hn hM, h.inF, h.big, h.ne⟩
end
end Go.Proofs.Ytlnahmgcjaodkaa.Own
