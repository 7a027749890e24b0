/- What the law CallsOnce carries: calls, and the moments at which each was first sent, as the law has kept them. -/
import Derived.Test.YtnacchldecjcaaaCaC
import Derived.Test.YtnacchldecjcaaaCaArg
import Derived.Test.YtnacchldecjcaaaEV
namespace Go.Proofs.Ytnacchldecjcaaa
open Go.RowKit
open CA (Cl St)
open WM (Msg)
set_option linter.unusedVariables false
set_option linter.unusedSimpArgs false
set_option maxRecDepth 100000
structure K2 (w0 w : World) (g M : Nat) (s : St) (v : Value) (xs : List Int) : Prop where
  st : K1 w0 w g M s
  row : w.ownsRow w0.heap.size 3 1 v xs.length (i64s xs)
theorem own_map {w : World} {base : Nat} {e : TypeId} {size n : Nat} {v : Value} {xs : List Value} {M : Nat} {d : TypeDesc} {l : List (Value × Value)} (h : w.ownsRow base e size v n xs) (hM : MapAt w M d l) : v.ownBlock ≠ some M := by
  obtain ⟨es, c, hb, _⟩ := hM
  rcases h.2 with ⟨rfl, _⟩ | ⟨g', cap, cur, rfl, _, hh, _⟩
  · simp [Value.ownBlock]
  · intro he
    have e : g' = M := by simpa [Value.ownBlock] using he
    subst e
    rw [hb] at hh
    cases hh
section
variable {w0 w w' : World} {g M : Nat} {s s' : St} {v : Value} {xs : List Int}
theorem K2.on (h : K2 w0 w g M s v xs) (hb : Below w.heap.size w w') : K2 w0 w' g M s v xs := ⟨h.st.on hb, (Mod.of_below hb []).own h.row (by simp)⟩
theorem K2.box (h : K2 w0 w g M s v xs) (o : Obj) : K2 w0 (w.alloc o) g M s v xs := h.on ((Below.refl _ w).alloc (Nat.le_refl _) o)
theorem K2.at_w (h : K2 w0 w g M s v xs) (hb : Below w.heap.size w w') : CallsAt w' g M s := h.st.at_.below hb
theorem K2.far (h : K2 w0 w g M s v xs) : v.ownBlock ≠ some g ∧ v.ownBlock ≠ some M := ⟨own_ne h.row h.st.at_.cells (by decide), own_map h.row h.st.at_.map⟩
theorem K2.put2 (h : K2 w0 w g M s v xs) (ht : Turned w g M [g, M] s' w') : K2 w0 w' g M s' v xs :=
  ⟨h.st.put2 ht, ht.2.own h.row (fun k hk hf => by
    rcases (by simpa using hf : k = g ∨ k = M) with rfl | rfl
    · exact h.far.1 hk
    · exact h.far.2 hk)⟩
theorem K2.put1 (h : K2 w0 w g M s v xs) (ht : Turned w g M [M] s' w') : K2 w0 w' g M s' v xs :=
  ⟨h.st.put1 ht, ht.2.own h.row (fun k hk hf => by
    obtain rfl : k = M := by simpa using hf
    exact h.far.2 hk)⟩
/-- One number put behind the list. -/
theorem K2.app {w1 : World} {ops : Array Oper} {rest : List Oper} {o : Oper} {a : Act} {Q : Exit → Act → World → Prop} (h : K2 w0 w1 g M s v xs) (hgd : o.guard = none) (t x : Operand)
    (ho : o.op = .call { callee := .builtin .append, args := #[t, x], argTypes := #[37, 37] }) (hs : a.eval t = v) (k : Int) (hx : a.eval x = .slice (some ⟨w1.heap.size, 0, none⟩) 1 1) (hl : xs.length ≤ 1000)
    (hK : ∀ v' w2, K2 w0 w2 g M s v' (xs ++ [k]) → wpList Try.prog ops Q rest (a.put o.dst v') w2) : wpList Try.prog ops Q (o :: rest) a (w1.alloc (.cells #[.int .i64 k] 3)) := by
  obtain ⟨i0, hi, hz0, hz1, hz2⟩ := info_parts info_int
  refine wpList_append_own_at _ hgd t x 37 ho w0.heap.size 3 i0 (.int .i64 0) 1 8 Try.underlying37 hi hz0 hz1 hz2 rfl (by decide) v xs.length (i64s xs) hs (h.row.alloc _) ⟨w1.heap.size, 0, none⟩ 1 1 [.int .i64 k] hx rfl
    (World.news_of_block (cs := #[.int .i64 k]) (t := 3) (fr := (0, 0)) (heap_alloc_new w1 _)) (one_i64 (l := [k])) (by unfold maxLen; omega) (by omega) (by have := h.st.below.size; rw [World.size_alloc]; omega) ?_
  intro v' w2 hown hgrow _ _
  refine hK v' w2 ⟨?_, by rw [List.length_append, i64s_append]; exact hown⟩
  have hb := h.st.box (.cells #[.int .i64 k] 3)
  have hm : Mod v.ownBlock.toList (w1.alloc (.cells #[.int .i64 k] 3)) w2 := (Mod.refl _ _).grown hgrow (fun k hk => .inl (by rw [hk]; simp))
  refine ⟨hb.below.trans (hm.below hb.below.size (fun x hx => ?_)), hb.at_.mod hm ?_ ?_, hb.fg, hb.fM⟩
  · exact (h.row.lt x (by simpa using hx)).1
  · intro hg; exact h.far.1 (by simpa using hg)
  · intro hg; exact h.far.2 (by simpa using hg)
end
/-- What the law knows of the calls behind k rounds. -/
structure Sn (b : Int) (s : St) (xs : List Int) (k : Nat) : Prop where
  boot : s.boot = b
  next : s.next = (xs.length : Int) + 1
  len : xs.length ≤ k
  each : ∀ x ∈ s.on, xs[(x.seq - 1).toNat]? = some x.sent ∧ 1 ≤ x.tries ∧ x.tries ≤ (k : Int) + 1
theorem Sn.new (b : Int) : Sn b (CA.new b) [] 0 := ⟨rfl, rfl, Nat.le_refl _, by simp [CA.new]⟩
section
variable {b : Int} {s : St} {xs : List Int} {k : Nat}
theorem Sn.same (h : Sn b s xs k) : Sn b s xs (k + 1) := ⟨h.boot, h.next, by have := h.len; omega, fun x hx => by obtain ⟨h1, h2, h3⟩ := h.each x hx; exact ⟨h1, h2, by omega⟩⟩
theorem Sn.again (h : Sn b s xs k) (hk : k ≤ 1000) (q : Int) : Sn b (CA.again s q) xs (k + 1) := ⟨h.boot, h.next, by have := h.len; omega, fun x hx => by
  obtain ⟨y, hy, rfl⟩ := List.mem_map.1 (show x ∈ s.on.map (fun x => if x.seq = q then CA.more x else x) from hx)
  obtain ⟨h1, h2, h3⟩ := h.each y hy
  split
  · refine ⟨h1, ?_, ?_⟩
    · show 1 ≤ IntKind.i64.wrap (y.tries + 1)
      rw [IntWalk.i64_in _ (by omega)]; omega
    · show IntKind.i64.wrap (y.tries + 1) ≤ _
      rw [IntWalk.i64_in _ (by omega)]; omega
  · exact ⟨h1, h2, by omega⟩⟩
theorem Sn.close (h : Sn b s xs k) (q : Int) : Sn b (CA.close s q) xs (k + 1) := ⟨h.boot, h.next, by have := h.len; omega, fun x hx => by
  obtain ⟨h1, h2, h3⟩ := h.each x (List.mem_filter.1 hx).1
  exact ⟨h1, h2, by omega⟩⟩
theorem Sn.put (h : Sn b s xs k) (hi : CA.Inv s) (now : Int) (x : Cl) : Sn b (CA.put s now x) (xs ++ [now]) (k + 1) := by
  have hn := h.next
  refine ⟨h.boot, ?_, ?_, fun y hy => ?_⟩
  · show s.next + 1 = _
    rw [List.length_append, List.length_singleton]
    omega
  · rw [List.length_append, List.length_singleton]; have := h.len; omega
  · rcases List.mem_append.1 hy with hy | hy
    · obtain ⟨h1, h2, h3⟩ := h.each y hy
      have := hi.lo y hy
      exact ⟨by rw [List.getElem?_append_left (by omega)]; exact h1, h2, by omega⟩
    · rw [List.mem_singleton] at hy
      subst hy
      refine ⟨?_, by show (1 : Int) ≤ 1; omega, by show (1 : Int) ≤ _; omega⟩
      show (xs ++ [now])[(s.next - 1).toNat]? = some now
      rw [show (s.next - 1).toNat = xs.length by omega]
      simp
end
/-- A list of calls of one's own reads so. -/
theorem ClsAt.own {w : World} {base n c : Nat} {A : Option Addr} {xs : List Cl} (h : w.ownsRow base 32 10 (.slice A n c) n (flatC xs)) : ClsAt w A xs := fun h0 => by
  have hl := h.1
  rw [flatC_len] at hl
  have hn : n = xs.length := by omega
  rcases h.2 with ⟨_, h1⟩ | ⟨g, cap, cur, hv, _, hh, _, _, _, ht⟩
  · omega
  · injection hv with hA
    subst hA
    refine ⟨g, 0, rfl, (Array.getElem?_eq_some_iff.1 hh).1, fun j x hx k v hkv => ?_⟩
    have hk10 : k < 10 := (List.getElem?_eq_some_iff.1 hkv).1
    have h1 := flatC_at hx k hk10
    rw [hkv, ← ht] at h1
    rw [Nat.zero_add, cell_of_row w g _ cur _ (0, 0) hh]
    rw [List.getElem?_take] at h1
    split at h1
    · rw [← h1, Array.getElem?_toList]
    · cases h1
/-- The cells of one of them. -/
theorem ClsAt.ten {w : World} {A : Option Addr} {xs : List Cl} (h : ClsAt w A xs) {j : Nat} {x : Cl} (hx : xs[j]? = some x) : ∃ b o, A = some ⟨b, o, none⟩ ∧ b < w.heap.size ∧
    (w.cell? ⟨b, o + j * 10, none⟩ = some (.int .i64 x.seq) ∧ w.cell? ⟨b, o + j * 10 + 1, none⟩ = some (.int .i64 x.dst) ∧ w.cell? ⟨b, o + j * 10 + 2, none⟩ = some (.int .i64 x.verb) ∧ w.cell? ⟨b, o + j * 10 + 3, none⟩ = some (.string x.path) ∧ w.cell? ⟨b, o + j * 10 + 4, none⟩ = some (.int .i64 x.mode) ∧
    w.cell? ⟨b, o + j * 10 + 5, none⟩ = some (.int .i64 x.term) ∧ w.cell? ⟨b, o + j * 10 + 6, none⟩ = some (.int .i64 x.id) ∧ w.cell? ⟨b, o + j * 10 + 7, none⟩ = some (.bool x.fresh) ∧ w.cell? ⟨b, o + j * 10 + 8, none⟩ = some (.int .i64 x.sent) ∧ w.cell? ⟨b, o + j * 10 + 9, none⟩ = some (.int .i64 x.tries)) := by
  obtain ⟨b, o, e, hb, hc⟩ := h (by have := (List.getElem?_eq_some_iff.1 hx).1; omega)
  have k : ∀ k v, (c10 x)[k]? = some v → w.cell? ⟨b, o + j * 10 + k, none⟩ = some v := fun k v hv => by have := hc j x hx k v hv; rwa [← Nat.add_assoc] at this
  exact ⟨b, o, e, hb, k 0 _ rfl, k 1 _ rfl, k 2 _ rfl, k 3 _ rfl, k 4 _ rfl, k 5 _ rfl, k 6 _ rfl, k 7 _ rfl, k 8 _ rfl, k 9 _ rfl⟩
theorem get_of {s : St} (h : CA.Inv s) {x : Cl} (hx : x ∈ s.on) : CA.get s x.seq = x ∧ CA.has s x.seq = true := by
  have hh : CA.has s x.seq = true := CA.has_iff.2 ⟨x, hx, rfl⟩
  obtain ⟨h1, h2⟩ := CA.get_mem hh
  refine ⟨?_, hh⟩
  obtain ⟨i, hi, e1⟩ := List.getElem_of_mem h1
  obtain ⟨j, hj, e2⟩ := List.getElem_of_mem hx
  have : i = j := by
    have a1 : (s.on.map (·.seq))[i]'(by simpa using hi) = x.seq := by rw [List.getElem_map, e1, h2]
    have a2 : (s.on.map (·.seq))[j]'(by simpa using hj) = x.seq := by rw [List.getElem_map, e2]
    exact (List.getElem_inj h.ids).1 (a1.trans a2.symm)
  subst this
  rw [← e1, e2]
theorem dst_rng {x : Cl} (h : CA.mayBe x = true) : 0 ≤ x.dst ∧ x.dst ≤ 7 := by
  unfold CA.mayBe WM.valid WM.may at h
  simp only [Bool.and_eq_true, decide_eq_true_eq] at h
  obtain ⟨⟨hg, _⟩, _⟩ := h
  unfold WM.mayGo at hg
  simp only [CA.askM, Bool.and_eq_true] at hg
  have := hg.2
  simp at this
  have := WM.node_rng this.1
  omega
theorem asks_of {s : St} (h : CA.Inv s) {x : Cl} (hx : x ∈ s.on) (frm : Int) : CA.asks s frm x.seq = (WM.node frm && decide (frm ≠ x.dst)) := by
  obtain ⟨h1, h2⟩ := get_of h hx
  unfold CA.asks
  rw [h2, h1, Bool.true_and]
theorem ask_yes {s : St} (h : CA.Inv s) {x : Cl} (hx : x ∈ s.on) {frm : Int} (h0 : 0 ≤ frm ∧ frm < 8) (h1 : frm ≠ x.dst) : CA.asks s frm x.seq = true ∧ CA.ask s frm x.seq = CA.askM x frm s.boot x.seq (CA.low s) := by
  have ha : CA.asks s frm x.seq = true := by rw [asks_of h hx]; unfold WM.node; simp [h0, h1]
  refine ⟨ha, ?_⟩
  unfold CA.ask
  rw [if_pos ha, (get_of h hx).1]
theorem ask_self {s : St} (h : CA.Inv s) {x : Cl} (hx : x ∈ s.on) : CA.asks s x.dst x.seq = false ∧ CA.ask s x.dst x.seq = WM.zero := by
  have ha : CA.asks s x.dst x.seq = false := by rw [asks_of h hx]; simp
  refine ⟨ha, ?_⟩
  unfold CA.ask
  rw [if_neg (by rw [ha]; decide)]
theorem ask_valid {s : St} (h : CA.Inv s) {x : Cl} (hx : x ∈ s.on) {frm : Int} (h0 : 0 ≤ frm ∧ frm < 8) (h1 : frm ≠ x.dst) : WM.valid (CA.askM x frm s.boot x.seq (CA.low s)) = true := by
  have h2 := h.lo x hx
  have h3 := h.next
  rw [CA.valid_ask (h.may _ hx) (CA.count_of h.boot) (CA.count_of (by omega)) ⟨h.low_rng.1, h.low_le _ hx⟩]
  unfold WM.node
  simp [h0, h1]
end Go.Proofs.Ytnacchldecjcaaa
