/- slices.Insert of one grant into a list of the call's own. -/
import Derived.Test.YtboflkadabagfabBkW14
import Derived.Laws.IdiomCopy
import Derived.Lib.AppendZerosOnto
import Derived.ArgAppend
import Derived.Lib.SliceRun
import Derived.Lib.SlBuf
namespace Go.Proofs.Ytboflkadabagfab
open Go.RowKit
open BM (Gr Rc Bk g0 r0 b0)
set_option linter.unusedVariables false
set_option linter.unusedSimpArgs false
set_option maxRecDepth 100000
theorem run_copy6 (w : World) (ty : TypeId) (b o dLen dCap : Nat) (a : Addr) (sLen sCap n : Nat) (cs : List Value) (hn : n = Nat.min sLen dLen) (hl : cs.length = n * 6)
    (hsrc : ∀ j v, cs[j]? = some v → w.cell? (a.add j) = some v) (hc : ∀ j, j < cs.length → (w.cell? ⟨b, o + j, none⟩).isSome = true) (hf : ∀ j, j < cs.length → w.frozen? ⟨b, o + j, none⟩ = false) (h1 : ∀ v ∈ cs, v.oneCell' = true) :
    (Builtin.copy_ #[43, 43] ty #[.slice (some ⟨b, o, none⟩) dLen dCap, .slice (some a) sLen sCap]).run Try.prog w = .ok (goInt n) (w.setCells b o cs) := by
  obtain ⟨i0, hi, hz0, hz1, hz2⟩ := info_parts info_gr
  have hld := run_loadCells_list (P := Try.prog) w a cs hsrc
  have hst := run_storeCells_cells (P := Try.prog) b o cs 0 w (by simpa using hc) (by simpa using hf) h1
  rw [hl] at hld
  subst hn
  simp [Builtin.copy_, run_underlying Try.underlying43, Builtin.lenOf, Builtin.firstCells, sizeOf, typeInfo, hi, hz1, hld, hst]
theorem whole_cells {g : Nat} {t : TypeId} : ∀ (vs : List Value) (o : Nat) (w : World) (cs : Array Value), Whole w g t cs →
    ∃ cs', Whole (w.setCells g o vs) g t cs' ∧ cs'.size = cs.size ∧ Mod [g] w (w.setCells g o vs) ∧ ∀ i, cs'[i]? = if o ≤ i ∧ i < o + vs.length ∧ i < cs.size then vs[i - o]? else cs[i]?
  | [], o, w, cs, h => ⟨cs, h, rfl, Mod.refl _ _, fun i => by rw [if_neg (by simp; omega)]⟩
  | v :: r, o, w, cs, h => by
    obtain ⟨cs', h1, h2, h3, h4⟩ := whole_cells r (o + 1) _ _ (h.store o v)
    refine ⟨cs', h1, by rw [h2]; simp, ((Mod.refl [g] w).store (p := ⟨g, o, none⟩) (.inl (by simp)) v).trans h3 (by simp), fun i => ?_⟩
    rw [h4 i]
    simp only [Array.size_setIfInBounds, List.length_cons]
    by_cases h0 : o ≤ i ∧ i < o + (r.length + 1) ∧ i < cs.size
    · rw [if_pos h0]
      by_cases he : i = o
      · subst he
        rw [if_neg (by omega), Array.getElem?_setIfInBounds, if_pos rfl, if_pos h0.2.2, Nat.sub_self]
        rfl
      · rw [if_pos (by omega), show i - o = (i - (o + 1)) + 1 by omega]
        rfl
    · rw [if_neg h0, if_neg (by omega), Array.getElem?_setIfInBounds]
      by_cases he : o = i
      · subst he
        have hs : cs.size ≤ o := by omega
        rw [if_pos rfl, if_neg (by omega), Array.getElem?_eq_none hs]
      · rw [if_neg he]
theorem flat_one {ps : List (Gr × Value)} (h : ∀ p ∈ ps, p.2.oneCell' = true) : ∀ u ∈ flat ps, u.oneCell' = true := by
  intro u hu
  unfold flat at hu
  obtain ⟨p, hp, hu⟩ := List.mem_flatMap.1 hu
  exact six_one (h p hp) u hu
theorem OwnI.one {w : World} {base : Nat} {v : Value} {l : List Int} (h : OwnI w base v l) : v.oneCell' = true := by
  obtain ⟨A, c, rfl, _⟩ := own_shape h
  rfl
theorem OwnG.ones {w : World} {base : Nat} {v : Value} {ps : List (Gr × Value)} (h : OwnG w base v ps) : ∀ p ∈ ps, p.2.oneCell' = true := fun p hp => (h.st p hp).one
/-- The row's block: its cells. -/
theorem OwnG.whole {w : World} {base : Nat} {A : Option Addr} {n c : Nat} {ps : List (Gr × Value)} (h : OwnG w base (.slice A n c) ps) (h0 : 0 < ps.length) : ∃ g cur, A = some ⟨g, 0, none⟩ ∧ base ≤ g ∧ Whole w g 26 cur ∧ cur.size = c * 6 ∧ cur.toList.take (ps.length * 6) = flat ps ∧ n = ps.length := by
  rcases h.row.2 with ⟨e, h1⟩ | ⟨g, cap, cur, hv, hb, hh, h1, h2, h3, h4⟩
  · have := flat_len ps
    rw [h1] at this
    simp at this
    omega
  · injection hv with e1 e2 e3
    subst e1 e2 e3
    exact ⟨g, cur, rfl, hb, hh, h3, h4, rfl⟩
theorem OwnG.ne {w : World} {base : Nat} {v : Value} {ps : List (Gr × Value)} (h : OwnG w base v ps) {g : Nat} {cur : Array Value} (hw : Whole w g 26 cur) : ∀ p ∈ ps, p.2.ownBlock ≠ some g := fun p hp => own_ne (h.st p hp) hw (by decide)
/-- One grant more behind a list of the call's own. -/
theorem run_app_gr {W : World} {base : Nat} {v : Value} {ps : List (Gr × Value)} (ty : TypeId) (hown : OwnG W base v ps) {p : Nat} {g : Gr} {gv : Value} (h1 : gv.oneCell' = true) (hp : Whole W p 26 (six g gv)) (hl : ps.length ≤ 1000) (hb : base ≤ W.heap.size) (hgv : OwnI W base gv g.stamp) (hgw : GW g ∧ g.stamp.length * 8 ≤ 140737488355328 ∧ ∀ x ∈ g.stamp, In64 x) :
    ∃ v' w2, (Builtin.append_ #[43, 43] ty #[v, .slice (some ⟨p, 0, none⟩) 1 1]).run Try.prog W = .ok v' w2 ∧ OwnG w2 base v' (ps ++ [(g, gv)]) ∧ Mod v.ownBlock.toList W w2 := by
  obtain ⟨i0, hi, hz0, hz1, hz2⟩ := info_parts info_gr
  obtain ⟨v', w', hr, h2, h3, _, _⟩ := run_append_own_at (P := Try.prog) W base 43 ty 26 i0 (.agg z6) 6 72 Try.underlying43 hi hz0 hz1 hz2 rfl (by decide) v ps.length (flat ps) hown.row ⟨p, 0, none⟩ 1 1 (six g gv).toList rfl
    (World.news_of_block (cs := six g gv) (t := 26) (fr := (0, 0)) hp) (six_one h1) (by unfold maxLen; omega) (by omega) hb
  have hM : Mod v.ownBlock.toList W w' := (Mod.refl _ W).grown h3 (fun k hk => .inl (by rw [hk]; simp))
  have hst : ∀ q : Gr × Value, OwnI W base q.2 q.1.stamp → OwnI w' base q.2 q.1.stamp := fun q hq => hM.own hq (fun k hk hf => by
    have hvb : v.ownBlock = some k := by simpa using hf
    rcases hown.row.2 with ⟨e, _⟩ | ⟨g', cap, cur, hv, _, hh, _⟩
    · rw [e] at hvb; cases hvb
    · have e : g' = k := by rw [hv] at hvb; simpa [Value.ownBlock] using hvb
      subst e
      exact own_ne hq (show Whole W g' 26 cur from hh) (by decide) hk)
  refine ⟨v', w', hr, ⟨?_, ?_, ?_, ?_⟩, hM⟩
  · rw [List.length_append, flat_append]; exact h2
  · intro q hq
    rcases List.mem_append.1 hq with hq | hq
    · exact hst q (hown.st q hq)
    · rw [List.mem_singleton.1 hq]; exact hst (g, gv) hgv
  · intro q hq
    rcases List.mem_append.1 hq with hq | hq
    · exact hown.wide q hq
    · rw [List.mem_singleton.1 hq]; exact hgw
  · rw [List.length_append, List.length_singleton]; omega
theorem list_app_gr {W : World} {base : Nat} {v : Value} {ps : List (Gr × Value)} {ops : Array Oper} {rest : List Oper} {o : Oper} {a : Act} {Q : Exit → Act → World → Prop} (hgd : o.guard = none) (s x : Operand)
    (ho : o.op = .call { callee := .builtin .append, args := #[s, x], argTypes := #[43, 43] }) (hown : OwnG W base v ps) {p : Nat} {g : Gr} {gv : Value} (h1 : gv.oneCell' = true) (hp : Whole W p 26 (six g gv)) (hl : ps.length ≤ 1000) (hb : base ≤ W.heap.size) (hgv : OwnI W base gv g.stamp) (hgw : GW g ∧ g.stamp.length * 8 ≤ 140737488355328 ∧ ∀ x ∈ g.stamp, In64 x)
    (hsv : a.eval s = v) (hxv : a.eval x = .slice (some ⟨p, 0, none⟩) 1 1)
    (hK : ∀ v' w2, OwnG w2 base v' (ps ++ [(g, gv)]) → Mod v.ownBlock.toList W w2 → wpList Try.prog ops Q rest (a.put o.dst v') w2) : wpList Try.prog ops Q (o :: rest) a W := by
  obtain ⟨v', w2, hr, h2, h3⟩ := run_app_gr o.type hown h1 hp hl hb hgv hgw
  exact Lib.wpList_append_run W hgd s x _ _ ho _ _ hsv hxv v' w2 hr (hK v' w2 h2 h3)
/-- Where one grant goes in among others. -/
def put (ps : List (Gr × Value)) (at_ : Nat) (x : Gr × Value) : List (Gr × Value) := ps.take at_ ++ x :: ps.drop at_
/-- What Insert leaves. -/
def InsPost (w : World) (base : Nat) (ps : List (Gr × Value)) (at_ : Nat) (x : Gr × Value) (e : Ending) (w' : World) : Prop := ∃ v, e = .returned v ∧ OwnG w' base v (put ps at_ x) ∧ Below base w w'
set_option maxHeartbeats 4000000 in
theorem Insert_end {base : Nat} {A : Option Addr} {ps : List (Gr × Value)} {p : Nat} {g : Gr} {gv : Value} (w : World) (hown : OwnG w base (.slice A ps.length ps.length) ps) (hp : Whole w p 26 (six g gv)) (hl : ps.length ≤ 1000) (hb : base ≤ w.heap.size) (hgv : OwnI w base gv g.stamp) (hgw : GW g ∧ g.stamp.length * 8 ≤ 140737488355328 ∧ ∀ x ∈ g.stamp, In64 x) :
    Calls Try.prog 65 #[.slice A ps.length ps.length, .int .i64 (ps.length : Int), .slice (some ⟨p, 0, none⟩) 1 1] w (InsPost w base ps ps.length (g, gv)) := by
  have HO := Lib.hid hown; clear hown
  have HP := Lib.hid hp; clear hp
  have HG := Lib.hid hgv; clear hgv
  have HW := Lib.hid hgw; clear hgw
  go_enter Try.func65, Try.ntmps65
  go_wp2_with (at_builtin; refine list_app_gr rfl (.tmp 23) (.tmp 24) rfl HO.out HG.out.one HP.out hl hb HG.out HW.out rfl rfl ?_; intro v' w2 h2 h3; have H2 := Lib.hid h2; have H3 := Lib.hid h3; clear h2 h3)
  go_ret
  refine ⟨_, rfl, ?_, H3.out.below hb (fun x hx => (HO.out.row.lt x (by simpa using hx)).1)⟩
  unfold put
  rw [List.take_length, List.drop_length]
  exact H2.out
end Go.Proofs.Ytboflkadabagfab
