/- A list of records of the call's own. -/
import Derived.Test.YtboflkadabagfabBkW19
import Derived.Test.YtboflkadabagfabBkTM
import Derived.Test.YtboflkadabagfabBkW11
namespace Go.Proofs.Ytboflkadabagfab
open Go.RowKit
open BM (Gr Rc Bk g0 r0 b0)
set_option linter.unusedVariables false
set_option linter.unusedSimpArgs false
set_option maxRecDepth 100000
theorem twelve_one {r : Rc} {v u : Value} (h1 : v.oneCell' = true) (h2 : u.oneCell' = true) : ∀ x ∈ (twelve r v u).toList, x.oneCell' = true := by
  intro x hx
  unfold twelve at hx
  simp only [List.mem_cons, List.not_mem_nil, or_false] at hx
  rcases hx with rfl | rfl | rfl | rfl | rfl | rfl | rfl | rfl | rfl | rfl | rfl | rfl <;> first | rfl | assumption
theorem info_rec : (Try.prog.info? 28).map (fun i => (i.zero, i.size, i.bytes)) = some (some (.agg z12), 12, 136) := by kernel_rfl
def rflat (ps : List (Rc × Value × Value)) : List Value := ps.flatMap fun p => (twelve p.1 p.2.1 p.2.2).toList
theorem rflat_append (a b : List (Rc × Value × Value)) : rflat (a ++ b) = rflat a ++ rflat b := by unfold rflat; rw [List.flatMap_append]
theorem rflat_cons (p : Rc × Value × Value) (ps : List (Rc × Value × Value)) : rflat (p :: ps) = (twelve p.1 p.2.1 p.2.2).toList ++ rflat ps := rfl
theorem rflat_len : ∀ ps : List (Rc × Value × Value), (rflat ps).length = ps.length * 12
  | [] => rfl
  | p :: ps => by rw [rflat_cons, List.length_append, rflat_len ps, List.length_cons]; simp [twelve]; omega
theorem rflat_get : ∀ (ps : List (Rc × Value × Value)) (j i : Nat) (p : Rc × Value × Value), ps[j]? = some p → i < 12 → (rflat ps)[j * 12 + i]? = (twelve p.1 p.2.1 p.2.2)[i]?
  | [], j, i, p, h, _ => by simp at h
  | q :: ps, 0, i, p, h, hi => by
    simp at h
    subst h
    rw [rflat_cons, List.getElem?_append_left (by simp [twelve]; omega)]
    simp
  | q :: ps, j + 1, i, p, h, hi => by
    rw [List.getElem?_cons_succ] at h
    have hl : ((twelve q.1 q.2.1 q.2.2).toList).length = 12 := rfl
    rw [rflat_cons, List.getElem?_append_right (by omega), hl, show (j + 1) * 12 + i - 12 = j * 12 + i by omega]
    exact rflat_get ps j i p h hi
/-- A list of records of the call's own: each with two lists of its own. -/
structure OwnR (w : World) (base : Nat) (v : Value) (ps : List (Rc × Value × Value)) : Prop where
  row : w.ownsRow base 28 12 v ps.length (rflat ps)
  st : ∀ p ∈ ps, OwnI w base p.2.1 p.1.g.stamp ∧ OwnI w base p.2.2 p.1.stamp
  wide : ∀ p ∈ ps, RW p.1
section
variable {w w' : World} {base : Nat} {v : Value} {ps : List (Rc × Value × Value)} {F : List Nat}
theorem OwnR.nil : OwnR w base (.slice none 0 0) [] := ⟨World.ownsRow_nil _ _ _ _, by simp, by simp⟩
theorem OwnR.mod (h : OwnR w base v ps) (hm : Mod F w w') (hF : ∀ x ∈ F, x < base) : OwnR w' base v ps :=
  ⟨hm.own h.row (fun k hk hf => by have := (h.row.lt k hk).1; have := hF k hf; omega), fun p hp => ⟨hm.own (h.st p hp).1 (fun k hk hf => by have := ((h.st p hp).1.lt k hk).1; have := hF k hf; omega), hm.own (h.st p hp).2 (fun k hk hf => by have := ((h.st p hp).2.lt k hk).1; have := hF k hf; omega)⟩, h.wide⟩
theorem OwnR.below (h : OwnR w base v ps) (hb : Below w.heap.size w w') : OwnR w' base v ps := h.mod (Mod.of_below hb []) (by simp)
theorem OwnR.low {b2 : Nat} (h : OwnR w base v ps) (hb : b2 ≤ base) : OwnR w b2 v ps := ⟨own_low h.row hb, fun p hp => ⟨own_low (h.st p hp).1 hb, own_low (h.st p hp).2 hb⟩, h.wide⟩
theorem OwnR.one {p : Nat} {r : Rc} {gv sv : Value} (hb : base ≤ p) (hp : Whole w p 28 (twelve r gv sv)) (h1 : OwnI w base gv r.g.stamp) (h2 : OwnI w base sv r.stamp) (hr : RW r) : OwnR w base (.slice (some ⟨p, 0, none⟩) 1 1) [(r, gv, sv)] := by
  refine ⟨⟨rfl, .inr ⟨p, 1, twelve r gv sv, rfl, hb, hp, Nat.le_refl _, by unfold maxLen; omega, rfl, ?_⟩⟩, ?_, ?_⟩
  · show ((twelve r gv sv).toList).take 12 = (twelve r gv sv).toList ++ []
    rw [List.append_nil]; rfl
  · intro q hq; rw [List.mem_singleton.1 hq]; exact ⟨h1, h2⟩
  · intro q hq; rw [List.mem_singleton.1 hq]; exact hr
end
/-- One record more. -/
theorem run_app_rec {W : World} {base : Nat} {v : Value} {ps : List (Rc × Value × Value)} (ty : TypeId) (hown : OwnR W base v ps) {p : Nat} {r : Rc} {gv sv : Value} (hp : Whole W p 28 (twelve r gv sv)) (hl : ps.length ≤ 1000) (hb : base ≤ W.heap.size) (h1 : OwnI W base gv r.g.stamp) (h2 : OwnI W base sv r.stamp) (hr : RW r) :
    ∃ v' w2, (Builtin.append_ #[52, 52] ty #[v, .slice (some ⟨p, 0, none⟩) 1 1]).run Try.prog W = .ok v' w2 ∧ OwnR w2 base v' (ps ++ [(r, gv, sv)]) ∧ Mod v.ownBlock.toList W w2 := by
  obtain ⟨i0, hi, hz0, hz1, hz2⟩ := info_parts info_rec
  obtain ⟨v', w', hr', h2', h3, _, _⟩ := run_append_own_at (P := Try.prog) W base 52 ty 28 i0 (.agg z12) 12 136 Try.underlying52 hi hz0 hz1 hz2 rfl (by decide) v ps.length (rflat ps) hown.row ⟨p, 0, none⟩ 1 1 (twelve r gv sv).toList rfl
    (World.news_of_block (cs := twelve r gv sv) (t := 28) (fr := (0, 0)) hp) (twelve_one h1.one h2.one) (by unfold maxLen; omega) (by omega) hb
  have hM : Mod v.ownBlock.toList W w' := (Mod.refl _ W).grown h3 (fun k hk => .inl (by rw [hk]; simp))
  have hst : ∀ {q : Value} {l : List Int}, OwnI W base q l → OwnI w' base q l := fun hq => hM.own hq (fun k hk hf => by
    have hvb : v.ownBlock = some k := by simpa using hf
    rcases hown.row.2 with ⟨e, _⟩ | ⟨g', cap, cur, hv, _, hh, _⟩
    · rw [e] at hvb; cases hvb
    · have e : g' = k := by rw [hv] at hvb; simpa [Value.ownBlock] using hvb
      subst e
      exact own_ne hq (show Whole W g' 28 cur from hh) (by decide) hk)
  refine ⟨v', w', hr', ⟨?_, ?_, ?_⟩, hM⟩
  · rw [List.length_append, rflat_append]; exact h2'
  · intro q hq
    rcases List.mem_append.1 hq with hq | hq
    · exact ⟨hst (hown.st q hq).1, hst (hown.st q hq).2⟩
    · rw [List.mem_singleton.1 hq]; exact ⟨hst h1, hst h2⟩
  · intro q hq
    rcases List.mem_append.1 hq with hq | hq
    · exact hown.wide q hq
    · rw [List.mem_singleton.1 hq]; exact hr
theorem list_app_rec {W : World} {base : Nat} {v : Value} {ps : List (Rc × Value × Value)} {ops : Array Oper} {rest : List Oper} {o : Oper} {a : Act} {Q : Exit → Act → World → Prop} (hgd : o.guard = none) (s x : Operand)
    (ho : o.op = .call { callee := .builtin .append, args := #[s, x], argTypes := #[52, 52] }) (hown : OwnR W base v ps) {p : Nat} {r : Rc} {gv sv : Value} (hp : Whole W p 28 (twelve r gv sv)) (hl : ps.length ≤ 1000) (hb : base ≤ W.heap.size) (h1 : OwnI W base gv r.g.stamp) (h2 : OwnI W base sv r.stamp) (hr : RW r)
    (hsv : a.eval s = v) (hxv : a.eval x = .slice (some ⟨p, 0, none⟩) 1 1)
    (hK : ∀ v' w2, OwnR w2 base v' (ps ++ [(r, gv, sv)]) → Mod v.ownBlock.toList W w2 → wpList Try.prog ops Q rest (a.put o.dst v') w2) : wpList Try.prog ops Q (o :: rest) a W := by
  obtain ⟨v', w2, hr', h2', h3⟩ := run_app_rec o.type hown hp hl hb h1 h2 hr
  exact Lib.wpList_append_run W hgd s x _ _ ho _ _ hsv hxv v' w2 hr' (hK v' w2 h2' h3)
/-- A list of records that the call answers. -/
def DumpPost (w : World) (rs : List Rc) (e : Ending) (w' : World) : Prop := ∃ v ps, e = .returned v ∧ ps.map Prod.fst = rs ∧ OwnR w' w.heap.size v ps ∧ Below w.heap.size w w'
end Go.Proofs.Ytboflkadabagfab
