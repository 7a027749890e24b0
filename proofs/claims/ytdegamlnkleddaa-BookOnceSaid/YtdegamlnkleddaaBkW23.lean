/- What a record leaves: the lists, and the state while the new list is put in its place. -/
import Derived.Test.YtdegamlnkleddaaBkW22
namespace Go.Proofs.Ytdegamlnkleddaa
open Go.RowKit
open BM (Gr Rc Bk g0 r0 b0)
set_option linter.unusedVariables false
set_option linter.unusedSimpArgs false
set_option maxRecDepth 100000
theorem take_ahead (l : List Gr) (id : Int) : l.take (ahead l id) = l.takeWhile (BM.less id) := by
  have h := @List.takeWhile_append_dropWhile _ (BM.less id) l
  unfold ahead
  conv => lhs; arg 2; rw [← h]
  exact List.take_left
theorem drop_ahead (l : List Gr) (id : Int) : l.drop (ahead l id) = l.dropWhile (BM.less id) := by
  have h := @List.takeWhile_append_dropWhile _ (BM.less id) l
  unfold ahead
  conv => lhs; arg 2; rw [← h]
  exact List.drop_left
theorem put_fst {ps : List (Gr × Value)} {l : List Gr} (hm : ps.map Prod.fst = l) (g : Gr) (gv : Value) : (put ps (ahead l g.id) (g, gv)).map Prod.fst = BM.ins g l := by
  unfold put BM.ins
  rw [List.map_append, List.map_cons, List.map_take, List.map_drop, hm, take_ahead, drop_ahead]
theorem there_get {l : List Gr} {id : Int} (hr : Rise l) (ht : BM.there id l = true) : ∃ a, l[ahead l id]? = some a ∧ a.id = id := by
  rw [there_at hr] at ht
  cases h : l[ahead l id]? with
  | none => rw [h] at ht; cases ht
  | some a => rw [h] at ht; exact ⟨a, rfl, by simpa using ht⟩
theorem split_at {l : List Gr} {k : Nat} {a : Gr} (h : l[k]? = some a) : l = l.take k ++ a :: l.drop (k + 1) := by
  obtain ⟨hk, he⟩ := List.getElem?_eq_some_iff.1 h
  subst he
  rw [List.getElem_cons_drop, List.take_append_drop]
theorem others {l : List Gr} {k : Nat} {a : Gr} (hr : Rise l) (h : l[k]? = some a) : (∀ x ∈ l.take k, x.id < a.id) ∧ ∀ x ∈ l.drop (k + 1), a.id < x.id := by
  refine ⟨fun x hx => ?_, fun x hx => ?_⟩
  · obtain ⟨i, hi⟩ := List.getElem?_of_mem hx
    rw [List.getElem?_take] at hi
    split at hi
    · exact hr i k x a hi h (by assumption)
    · cases hi
  · obtain ⟨i, hi⟩ := List.getElem?_of_mem hx
    rw [List.getElem?_drop] at hi
    exact hr k (k + 1 + i) a x h hi (by omega)
theorem without_eq {l : List Gr} {k : Nat} {a : Gr} (hr : Rise l) (h : l[k]? = some a) : BM.without a.id l = l.take k ++ l.drop (k + 1) := by
  obtain ⟨h1, h2⟩ := others hr h
  have e : BM.without a.id (l.take k ++ a :: l.drop (k + 1)) = l.take k ++ l.drop (k + 1) := by
    unfold BM.without
    rw [List.filter_append, List.filter_cons_of_neg (by simp), List.filter_eq_self.2 (fun x hx => by have := h1 x hx; simp; omega), List.filter_eq_self.2 (fun x hx => by have := h2 x hx; simp; omega)]
  rwa [← split_at h] at e
theorem fresh_eq {l : List Gr} {k : Nat} {a : Gr} (s : List Int) (hr : Rise l) (h : l[k]? = some a) : BM.fresh a.id s l = l.take k ++ { a with stamp := s } :: l.drop (k + 1) := by
  obtain ⟨h1, h2⟩ := others hr h
  have e : BM.fresh a.id s (l.take k ++ a :: l.drop (k + 1)) = l.take k ++ { a with stamp := s } :: l.drop (k + 1) := by
    unfold BM.fresh
    rw [List.map_append, List.map_cons, if_pos rfl]
    congr 1
    · refine (List.map_congr_left (g := id) fun x hx => ?_).trans (List.map_id _)
      have := h1 x hx
      rw [if_neg (by omega)]; rfl
    · congr 1
      refine (List.map_congr_left (g := id) fun x hx => ?_).trans (List.map_id _)
      have := h2 x hx
      rw [if_neg (by omega)]; rfl
  rwa [← split_at h] at e
theorem rem_fst {ps : List (Gr × Value)} {l : List Gr} {id : Int} (hm : ps.map Prod.fst = l) (hr : Rise l) (ht : BM.there id l = true) : (rem ps (ahead l id)).map Prod.fst = BM.without id l := by
  obtain ⟨a, h1, h2⟩ := there_get hr ht
  subst h2
  unfold rem
  rw [List.map_append, List.map_take, List.map_drop, hm, without_eq hr h1]
theorem Whole.low {w w' : World} {g B : Nat} {t : TypeId} {cs : Array Value} (h : Whole w g t cs) (hb : Below B w w') (hg : g < B) : Whole w' g t cs := (hb.block g hg).trans h
section
variable {w0 w w' : World} {b : Bk} {L s u : Value} {r : Rc} {ps : List (Gr × Value)}
/-- A call that leaves what is below the list: the new list comes into its place. -/
theorem BhSt.put (h : BhSt w0 b L r s u ps w) (hf : FitR w0 s u r) (hb : Below (w0.heap.size + 3) w w') {L' : Value} {ps' : List (Gr × Value)} (hL : OwnG w' (w0.heap.size + 3) L' ps') (gs : List Gr) : BhSt w0 { b with gs := gs } L' r s u ps' (w'.setCell ⟨w0.heap.size, 3, none⟩ L') := by
  have hM : Mod [w0.heap.size] w' (w'.setCell ⟨w0.heap.size, 3, none⟩ L') := (Mod.refl _ w').store (p := ⟨w0.heap.size, 3, none⟩) (.inl (by simp)) L'
  have hB0 : Below w0.heap.size w0 w' := h.below.trans (hb.mono (by omega))
  have hs' := hb.size
  have hs := h.size
  have hB : Below w0.heap.size w0 (w'.setCell ⟨w0.heap.size, 3, none⟩ L') := hB0.trans (hM.below (by omega) (by simp))
  exact ⟨(h.kb.low hb (by omega)).store 3 L', hM.whole (h.kr.low hb (by omega)) (by simp), hM.whole (h.kz.low hb (by omega)) (by simp; omega), hL.mod hM (by simp), hf.below hB, h.fb, by simp; omega, hB⟩
theorem BhSt.bk (h : BhSt w0 b L r s u ps w) (hm : ps.map Prod.fst = b.gs) : FitB w L b := ⟨by have := h.own.hd; rwa [hm] at this, h.fb.1, h.fb.2.1, h.fb.2.2⟩
end
theorem ok_rise {b : Bk} (h : BM.okBk b = true) : Rise b.gs := stand_rise (BM.okBk_parts h).2.2.2.2
end Go.Proofs.Ytdegamlnkleddaa
