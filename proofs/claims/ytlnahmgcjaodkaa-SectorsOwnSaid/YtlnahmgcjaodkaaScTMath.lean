/- Torn tries behind the records: no scan tells of them; a cell of a list of lists is stored. -/
import Derived.Test.YtlnahmgcjaodkaaScBMath
namespace Go.Proofs.Ytlnahmgcjaodkaa
open Go.RowKit
open By
set_option linter.unusedVariables false
set_option linter.unusedSimpArgs false
/-- What stands behind the records: no sector of another number, and no last part. -/
structure Torn (g : Int) (n : Nat) (sp : List (List UInt8)) : Prop where
  len : sp.length = 5
  each : ∀ (j : Nat) (x : List UInt8) (p : SC.Pt), sp[j]? = some x → SC.Is x p → p.seq = n ∧ p.idx + 1 ≠ p.parts
  small : ∀ (j : Nat) (x : List UInt8), sp[j]? = some x → x.length = 64
theorem Torn.zeros (g : Int) (n : Nat) : Torn g n (List.replicate 5 (List.replicate 64 0)) :=
  ⟨by simp, fun j x p hx hp => by rw [List.eq_of_mem_replicate (List.mem_of_getElem? hx)] at hp; exact absurd hp (SC.zeros_no p), fun j x hx => by rw [List.eq_of_mem_replicate (List.mem_of_getElem? hx)]; simp⟩
theorem Torn.none {g : Int} {n : Nat} {sp : List (List UInt8)} (h : Torn g n sp) : ScansI g n sp [] 0 := .stop (fun d m k => by
  obtain ⟨a, b, e1, e2, hr⟩ := k
  exact SC.no_last (g := a) (s := b) (fun i x p hx hp _ _ => (h.each i x p hx hp).2) d m hr)
theorem Torn.put {g : Int} {n : Nat} {sp : List (List UInt8)} (h : Torn g n sp) {gn k : Nat} {d : List UInt8} (hg : 1 ≤ gn ∧ gn ≤ 1073741824) (hn : n ≤ 1073741824) (hd : d.length ≤ 188) (hk : k + 1 < SC.np d) : Torn g n (sp.set k (SC.lay (SC.part gn n d k))) :=
  ⟨by rw [List.length_set]; exact h.len, fun j x p hx hp => by
    by_cases e : j = k
    · subst e
      have hgood := SC.part_good hg hn hd (i := j) (by omega)
      rw [List.getElem?_set_self (by have := h.len; have : SC.np d ≤ 4 := by unfold SC.np; omega
                                     omega)] at hx
      cases hx
      have := hp.uniq ⟨hgood, rfl⟩
      subst this
      exact ⟨rfl, by show j + 1 ≠ SC.np d; omega⟩
    · rw [List.getElem?_set_ne (Ne.symm e)] at hx
      exact h.each j x p hx hp, fun j x hx => by
    by_cases e : j = k
    · subst e
      rw [List.getElem?_set_self (by have := h.len; have : SC.np d ≤ 4 := by unfold SC.np; omega
                                     omega)] at hx
      cases hx
      exact SC.lay_len (by have := (SC.part_good hg hn hd (i := j) (by omega)).len; omega)
    · rw [List.getElem?_set_ne (Ne.symm e)] at hx
      exact h.small j x hx⟩
/-- The first k parts are written. -/
def fillp (sp : List (List UInt8)) (ps : List (List UInt8)) (k : Nat) : List (List UInt8) := ps.take k ++ sp.drop k
theorem fillp_zero (sp ps : List (List UInt8)) : fillp sp ps 0 = sp := by simp [fillp]
theorem fillp_next {sp ps : List (List UInt8)} {k : Nat} {x : List UInt8} (h : ps[k]? = some x) (hk : k < sp.length) : (fillp sp ps k).set k x = fillp sp ps (k + 1) := by
  have hp := (List.getElem?_eq_some_iff.1 h).1
  unfold fillp
  have hl : (ps.take k).length = k := by rw [List.length_take]; omega
  rw [List.set_append_right _ _ (by omega), hl, Nat.sub_self, List.take_add_one, h, Option.toList_some, List.append_assoc, List.drop_eq_getElem_cons hk, List.set_cons_zero]
  rfl
theorem fillp_len {sp ps : List (List UInt8)} {k : Nat} (h1 : k ≤ ps.length) (h2 : k ≤ sp.length) : (fillp sp ps k).length = sp.length := by
  unfold fillp
  rw [List.length_append, List.length_take, List.length_drop]
  omega
/-- All parts are written: the record is there, and none behind it. -/
theorem Torn.done {g : Int} {n : Nat} {sp : List (List UInt8)} (h : Torn g n sp) {gn : Nat} {d : List UInt8} (hgn : (gn : Int) = g) (hg : 1 ≤ gn ∧ gn ≤ 1073741824) (hn : n ≤ 1073741824) (hd : d.length ≤ 188) : ScansI g n (fillp sp (SC.pack gn n d) (SC.np d)) [d] (SC.np d) := by
  have e : fillp sp (SC.pack gn n d) (SC.np d) = SC.pack gn n d ++ sp.drop (SC.np d) := by
    unfold fillp
    rw [List.take_of_length_le (by rw [SC.pack_len]; exact Nat.le_refl _)]
  rw [e]
  have hr := SC.rec_pack (g := gn) hg hn hd (sp.drop (SC.np d))
  have hdr : (SC.pack gn n d ++ sp.drop (SC.np d)).drop (SC.np d) = sp.drop (SC.np d) := List.drop_left' (SC.pack_len gn n d)
  have hst : ScansI g (n + 1) ((SC.pack gn n d ++ sp.drop (SC.np d)).drop (SC.np d)) [] 0 := .stop (fun d' m k => ?_)
  · exact ScansI.more (u := 0) ⟨gn, n, hgn, rfl, hr⟩ hst
  rw [hdr] at k
  have hm : 1 ≤ m := by obtain ⟨_, _, _, _, hr⟩ := k; exact hr.le.1
  obtain ⟨p, ⟨y, h1, h2, _, h4, _⟩, _⟩ := k.at (i := 0) hm
  rw [List.getElem?_drop] at h1
  have := (h.each _ y p h1 h2).1
  rw [this] at h4
  omega
/-- A header is stored: another list stands in its place. -/
theorem Lst.set {base : Nat} {rs : List (List UInt8)} {g c : Nat} {w : World} (h : Lst base rs (.slice (some ⟨g, 0, none⟩) rs.length c) w) {j : Nat} (hj : j < rs.length) {x : List UInt8} {u : Value} (hu : w.ownsRow base 5 1 u x.length (u8s x)) :
    Lst base (rs.set j x) (.slice (some ⟨g, 0, none⟩) rs.length c) (w.setCell ⟨g, j, none⟩ u) ∧ (∃ u0, w.cell? ⟨g, j, none⟩ = some u0) ∧ w.frozen? ⟨g, j, none⟩ = false ∧ base ≤ g := by
  obtain ⟨hs, h1, h2⟩ := h.ex
  have hlen : hs.length = rs.length := by have := h1.1; omega
  obtain ⟨cg, hwg⟩ := own_whole h1 (k := g) rfl
  have hbg := (h1.lt g rfl).1
  refine ⟨⟨hs.set j u, ?_, fun i y hy => ?_⟩, ⟨hs[j]'(by omega), ?_⟩, h1.frozenAt j, hbg⟩
  · rw [List.length_set]
    exact (h1.stored j u).1
  · have far : ∀ {v' : Value} {z : List UInt8}, w.ownsRow base 5 1 v' z.length (u8s z) → (w.setCell ⟨g, j, none⟩ u).ownsRow base 5 1 v' z.length (u8s z) := fun hz => own_far hz (q := ⟨g, j, none⟩) (own_ne hz hwg (by decide)) _
    by_cases e : i = j
    · subst e
      rw [List.getElem?_set_self hj] at hy
      cases hy
      exact ⟨u, by rw [List.getElem?_set_self (by omega)], far hu⟩
    · rw [List.getElem?_set_ne (Ne.symm e)] at hy
      obtain ⟨v', k1, k2⟩ := h2 i y hy
      exact ⟨v', by rw [List.getElem?_set_ne (Ne.symm e)]; exact k1, far k2⟩
  · rw [h1.cellAt j (by omega)]
    exact List.getElem?_eq_getElem _
theorem app_rdy2 {base : Nat} {rs : List (List UInt8)} {v : Value} {x : List UInt8} {u : Value} {w : World} (HR : Hid (Rdy base rs v x u w)) (H : Nat) (hH : w.heap.size = H) {ops : Array Oper} {rest : List Oper} {o : Oper} {a : Act} {Q : Exit → Act → World → Prop} (hgd : o.guard = none) (s y : Operand) (ho : o.op = .call { callee := .builtin .append, args := #[s, y], argTypes := #[22, 22] })
    (hsv : a.eval s = v) (hyv : a.eval y = .slice (some ⟨H, 0, none⟩) 1 1) (hu : u.oneCell' = true)
    (hK : ∀ v' w2, Hid (Lst base (rs ++ [x]) v' w2) → Hid (Below base w w2) → wpList Try.prog ops Q rest (a.put o.dst v') w2) : wpList Try.prog ops Q (o :: rest) a (w.alloc (.cells #[u] 26)) := by
  subst hH
  exact app_rdy HR hgd s y ho hsv hyv hu hK
theorem rowsAt_front {w : World} {A : Option Addr} {l m : List (List UInt8)} (h : RowsAt w A (l ++ m)) : RowsAt w A l := fun h0 => by
  obtain ⟨b, o, e, hb, hc⟩ := h (by rw [List.length_append]; omega)
  exact ⟨b, o, e, hb, fun j x hx => hc j x (by rw [List.getElem?_append_left (List.getElem?_eq_some_iff.1 hx).1]; exact hx)⟩
end Go.Proofs.Ytlnahmgcjaodkaa
