/- What the laws of layer 13 carry: an agenda and a list that it answered; two agendas; a list that is turned. -/
import Derived.Test.YtkgipdhbaiaaeaaAgAwake
import Derived.Test.YtkgipdhbaiaaeaaAgR1
import Derived.Lib.AppendZeros
namespace Go.Proofs.Ytkgipdhbaiaaeaa
open Go.RowKit Go.Sort
open AM (It HS g sw)
set_option linter.unusedVariables false
set_option linter.unusedSimpArgs false
set_option maxRecDepth 100000
/-- An agenda of the law's own, and a list of items that it has answered. -/
structure St2 (w0 w : World) (b : Nat) (M : List It) (v : Value) (L : List It) : Prop where
  st : St1 w0 w b M []
  row : w.ownsRow w0.heap.size 29 3 v L.length (flat L)
theorem row_mod {w w' : World} {base b n : Nat} {M xs : List It} {v : Value} (h : w.ownsRow base 29 3 v n (flat xs)) (ha : AgAt w b M) (hm : Mod [b] w w') : w'.ownsRow base 29 3 v n (flat xs) := hm.own h (fun k hk hf => by
  obtain ⟨hh, h1, _⟩ := ha
  have e : k = b := by simpa using hf
  subst e
  exact own_ne h h1.whole (by decide) hk)
section
variable {w0 w w' : World} {b : Nat} {M M' L : List It} {v : Value}
theorem St2.on (h : St2 w0 w b M v L) (hb : Below w.heap.size w w') : St2 w0 w' b M v L := ⟨h.st.on hb, (Mod.of_below hb []).own h.row (by simp)⟩
theorem St2.put (h : St2 w0 w b M v L) (ha : AgAt w' b M') (hm : Mod [b] w w') : St2 w0 w' b M' v L := ⟨h.st.put ha hm, row_mod h.row h.st.ag hm⟩
theorem St1.bare {Bs : List (Nat × It)} (h : St1 w0 w b M Bs) : St1 w0 w b M [] := ⟨h.below, h.ag, by simp, h.fresh⟩
end
theorem own_base {w : World} {base base' : Nat} {e : TypeId} {size : Nat} {v : Value} {k : Nat} {xs : List Value} (h : w.ownsRow base e size v k xs) (hb : base' ≤ base) : w.ownsRow base' e size v k xs := by
  refine ⟨h.1, ?_⟩
  rcases h.2 with h0 | ⟨g, cap, cur, e1, k1, hr⟩
  · exact .inl h0
  · exact .inr ⟨g, cap, cur, e1, Nat.le_trans hb k1, hr⟩
theorem g_eq {L : List It} {i : Nat} (hi : i < L.length) : L[i] = g L i := by
  have := AM.g_get hi
  rw [List.getElem?_eq_getElem hi] at this
  injection this
theorem drop_cons {L : List It} {i : Nat} (hi : i < L.length) : L.drop i = g L i :: L.drop (i + 1) := by
  rw [List.drop_eq_getElem_cons hi, g_eq hi]
theorem sub_its {w : World} {b o : Nat} {L : List It} (h : ItsAt w (some ⟨b, o, none⟩) L) (j : Nat) : ItsAt w (some ⟨b, o + j * 3, none⟩) (L.drop j) := fun h0 => by
  rw [List.length_drop] at h0
  obtain ⟨b', o', e, hb, hc⟩ := h (by omega)
  injection e with e
  injection e with e1 e2
  subst e1 e2
  refine ⟨b, _, rfl, hb, fun i x hx => ?_⟩
  rw [List.getElem?_drop] at hx
  have := hc (j + i) x hx
  rw [show o + (j + i) * 3 = o + j * 3 + i * 3 by omega] at this
  exact this
theorem sorted_at {L : List It} (h : AM.Good L) {i j : Nat} (hij : i < j) (hj : j < L.length) : AM.before (g L i) (g L j) = true := decide_eq_true (by
  have hs := List.pairwise_iff_getElem.1 h.sorted i j (by omega) hj hij
  rw [g_eq, g_eq] at hs
  exact hs)
/-- All that is in may be. -/
def Mays (L : List It) : Prop := ∀ x ∈ L, AM.may x = true
theorem Mays.put {L : List It} (h : Mays L) (x : It) : Mays (AM.put L x).1 := by
  unfold AM.put
  split
  · exact h
  · rename_i hm
    split
    · exact h
    · intro z hz
      rcases AM.ins_mem.1 hz with rfl | hz
      · cases e : AM.may z with | true => rfl | false => exact absurd e hm
      · exact h z (List.mem_filter.1 hz).1
theorem may_due {x : It} (h : AM.may x = true) : x.due ≤ 4611686018427387904 := by
  unfold AM.may at h
  simp only [Bool.and_eq_true, decide_eq_true_eq] at h
  exact h.1.1.2
theorem tk_all {x : It} {r : List It} (h : AM.may x = true) : tkL (x :: r) 4611686018427387904 = r ∧ tkV (x :: r) 4611686018427387904 = tup x true := by
  have := may_due h
  simp [tkL, tkV, this]
/-- Two agendas of the law's own. -/
structure Sx (w0 w : World) (s t : Nat) (L M : List It) : Prop where
  below : Below w0.heap.size w0 w
  sa : AgAt w s L
  ta : AgAt w t M
  ne : s ≠ t
  fs : w0.heap.size ≤ s
  ft : w0.heap.size ≤ t
section
variable {w0 w w' : World} {s t : Nat} {L L' M M' : List It}
theorem Sx.on (h : Sx w0 w s t L M) (hb : Below w.heap.size w w') : Sx w0 w' s t L M := ⟨below_on h.below hb, h.sa.below hb, h.ta.below hb, h.ne, h.fs, h.ft⟩
theorem Sx.puts (h : Sx w0 w s t L M) (ha : AgAt w' s L') (hm : Mod [s] w w') : Sx w0 w' s t L' M :=
  ⟨h.below.trans (hm.below h.below.size (by simpa using h.fs)), ha, h.ta.mod hm (by simpa using h.ne.symm), h.ne, h.fs, h.ft⟩
theorem Sx.putt (h : Sx w0 w s t L M) (ha : AgAt w' t M') (hm : Mod [t] w w') : Sx w0 w' s t L M' :=
  ⟨h.below.trans (hm.below h.below.size (by simpa using h.ft)), h.sa.mod hm (by simpa using h.ne), ha, h.ne, h.fs, h.ft⟩
end
/-- One item put behind a row, whatever it holds. -/
theorem app_row {W : World} {ops : Array Oper} {rest : List Oper} {o : Oper} {a : Act} {Q : Exit → Act → World → Prop} (hgd : o.guard = none) (s x : Operand)
    (ho : o.op = .call { callee := .builtin .append, args := #[s, x], argTypes := #[32, 32] }) {base : Nat} {v : Value} {xs : List It} (hown : W.ownsRow base 29 3 v xs.length (flat xs)) {p : Nat} {y : It}
    (hp : Whole W p 29 (three y)) (hl : xs.length ≤ 1000) (hb : base ≤ W.heap.size) (hs : a.eval s = v) (hx : a.eval x = .slice (some ⟨p, 0, none⟩) 1 1)
    (hK : ∀ v' w2, w2.ownsRow base 29 3 v' (xs ++ [y]).length (flat (xs ++ [y])) → Mod v.ownBlock.toList W w2 → (v'.ownBlock = v.ownBlock ∨ v'.ownBlock = some W.heap.size) → wpList Try.prog ops Q rest (a.put o.dst v') w2) : wpList Try.prog ops Q (o :: rest) a W := by
  obtain ⟨i0, z, hi, hz0, hz1, hz2, hzc⟩ := info_itz
  obtain ⟨v', w', hr, h2, h3, _, h5⟩ := run_append_own_at (P := Try.prog) W base 32 o.type 29 i0 z 3 24 Try.underlying32 hi hz0 hz1 hz2 hzc (by decide) v xs.length (flat xs) hown ⟨p, 0, none⟩ 1 1 (c3 y) rfl
    (World.news_of_block (cs := three y) (t := 29) (fr := (0, 0)) hp) (fun u hu => one_c3 (l := [y]) u (by unfold flat; simpa using hu)) (by unfold maxLen; omega) (by omega) hb
  refine Lib.wpList_append_run W hgd s x _ _ ho _ _ hs hx v' w' hr (hK v' w' ?_ ((Mod.refl _ W).grown h3 (fun k hk => .inl (by rw [hk]; simp))) h5)
  rw [List.length_append, flat_append, show flat [y] = c3 y by unfold flat; simp]
  exact h2
/-- One item stored in a row. -/
theorem set_row {w : World} {base pg n c i : Nat} {xs : List It} (h : w.ownsRow base 29 3 (.slice (some ⟨pg, 0, none⟩) n c) n (flat xs)) (hi : i < n) (y : It) :
    (((w.setCell ⟨pg, i * 3, none⟩ (.int .i64 y.due)).setCell ⟨pg, i * 3 + 1, none⟩ (.int .i64 y.kind)).setCell ⟨pg, i * 3 + 2, none⟩ (.int .i64 y.key)).ownsRow base 29 3 (.slice (some ⟨pg, 0, none⟩) n c) n (flat (xs.set i y)) := by
  have hl := h.1
  rw [flat_len] at hl
  rcases h.2 with ⟨e, _⟩ | ⟨g', cap, cur, e, hb, hh, h1, h2, h3, h4⟩
  · cases e
  · injection e with e1 _ e3
    injection e1 with e1
    injection e1 with e1
    subst e1 e3
    have hW : Whole w pg 29 cur := hh
    have hW3 := ((hW.store (i * 3) (.int .i64 y.due)).store (i * 3 + 1) (.int .i64 y.kind)).store (i * 3 + 2) (.int .i64 y.key)
    refine ⟨by rw [flat_len, List.length_set]; omega, .inr ⟨pg, c, _, rfl, hb, hW3, h1, h2, by simp [h3], ?_⟩⟩
    rw [flat_set, ← h4, Array.toList_setIfInBounds, Array.toList_setIfInBounds, Array.toList_setIfInBounds, List.take_set, List.take_set, List.take_set]
/-- What AgendaOwn carries behind its lists. -/
structure Pq (w0 w : World) (s t : Nat) (L S : List It) (v : Value) (ps : List It) (q : Value) : Prop where
  sx : Sx w0 w s t S L
  qq : w.ownsRow w0.heap.size 29 3 q L.length (flat L)
  pp : w.ownsRow w0.heap.size 29 3 v ps.length (flat ps)
  pq : ∀ k, v.ownBlock = some k → q.ownBlock ≠ some k
section
variable {w0 w w' : World} {s t : Nat} {L S S' ps : List It} {v q : Value}
theorem Pq.on (h : Pq w0 w s t L S v ps q) (hb : Below w.heap.size w w') : Pq w0 w' s t L S v ps q :=
  ⟨h.sx.on hb, (Mod.of_below hb []).own h.qq (by simp), (Mod.of_below hb []).own h.pp (by simp), h.pq⟩
theorem Pq.puts (h : Pq w0 w s t L S v ps q) (ha : AgAt w' s S') (hm : Mod [s] w w') : Pq w0 w' s t L S' v ps q :=
  ⟨h.sx.puts ha hm, row_mod h.qq h.sx.sa hm, row_mod h.pp h.sx.sa hm, h.pq⟩
theorem row_far {base n b k : Nat} {M xs : List It} {u : Value} (h : w.ownsRow base 29 3 u n (flat xs)) (ha : AgAt w b M) (hk : u.ownBlock = some k) : k ≠ b := by
  obtain ⟨hh, h1, _⟩ := ha
  exact fun e => own_ne h h1.whole (by decide) (by rw [hk, e])
/-- A call or a store that turns the first list alone. -/
theorem Pq.turn (h : Pq w0 w s t L S v ps q) {v' : Value} {ps' : List It} (hm : Mod v.ownBlock.toList w w') (hp : w'.ownsRow w0.heap.size 29 3 v' ps'.length (flat ps')) (hv : v'.ownBlock = v.ownBlock ∨ v'.ownBlock = some w.heap.size) : Pq w0 w' s t L S v' ps' q := by
  have hF : ∀ x ∈ v.ownBlock.toList, v.ownBlock = some x := fun x hx => by simpa using hx
  refine ⟨⟨h.sx.below.trans (hm.below h.sx.below.size (fun x hx => (h.pp.lt x (hF x hx)).1)), h.sx.sa.mod hm (fun hx => row_far h.pp h.sx.sa (hF s hx) rfl), h.sx.ta.mod hm (fun hx => row_far h.pp h.sx.ta (hF t hx) rfl), h.sx.ne, h.sx.fs, h.sx.ft⟩,
    hm.own h.qq (fun k hk hx => h.pq k (hF k hx) hk), hp, fun k hk => ?_⟩
  rcases hv with e | e
  · rw [e] at hk; exact h.pq k hk
  · rw [e] at hk
    injection hk with hk
    subst hk
    intro hq
    have := (h.qq.lt _ hq).2
    omega
end
theorem sorted_nodup {L : List It} (h : L.Pairwise AM.lt) : L.Nodup := h.imp (fun hab e => by subst e; exact AM.lt_irrefl _ hab)
/-- Two lists in order with the same members are one. -/
theorem same_mem {A B : List It} (ha : A.Pairwise AM.lt) (hb : B.Pairwise AM.lt) (h : ∀ x, x ∈ A ↔ x ∈ B) : A = B :=
  AM.same_list ha hb ((List.perm_ext_iff_of_nodup (sorted_nodup ha) (sorted_nodup hb)).2 h)
end Go.Proofs.Ytkgipdhbaiaaeaa
