/- The document's own answers of layer 5: what is dropped; numbers laid in order. -/
import Derived.Test.YtpfljooceppcbaaDoorPsR3
namespace Go.Proofs.YtpfljooceppcbaaDoor
open Go.RowKit
open SE (Ent)
set_option linter.unusedVariables false
set_option maxRecDepth 100000
theorem drop_step {l : List Ent} {id : Int} {k : Nat} (h : k < l.length) : SE.drop (l.take (k + 1)) id = if l[k].id = id then SE.drop (l.take k) id else SE.drop (l.take k) id ++ [l[k]] := by
  unfold SE.drop
  rw [List.take_add_one, List.getElem?_eq_getElem h, Option.toList_some, List.filter_append]
  split
  · rename_i he
    rw [List.filter_cons_of_neg (by simpa using he), List.filter_nil, List.append_nil]
  · rename_i he
    rw [List.filter_cons_of_pos (by simpa using he), List.filter_nil]
theorem drop_has (l : List Ent) (id : Int) : decide ((SE.drop l id).length < l.length) = SE.has l id := by
  cases h : SE.has l id with
  | false =>
    have hn := SE.has_no h
    refine decide_eq_false ?_
    have e : SE.drop l id = l := List.filter_eq_self.2 fun x hx => by simpa using hn x hx
    rw [e]; omega
  | true =>
    obtain ⟨e, he, hid⟩ := SE.has_iff.1 h
    refine decide_eq_true ?_
    unfold SE.drop
    refine List.length_filter_lt_length_iff_exists.2 ⟨e, he, by simpa using hid⟩
/-! Numbers laid in order, in place. -/
theorem i64_at {l : List Int} {i : Nat} {x : Int} (h : l[i]? = some x) : (i64s l)[i]? = some (.int .i64 x) := by unfold i64s; rw [List.getElem?_map, h]; rfl
theorem rise_more {l : List Int} {i : Nat} (h : i < l.length) : SE.rise (l.take (i + 1)) = SE.insI (SE.rise (l.take i)) l[i] := by
  unfold SE.rise
  rw [List.take_add_one, List.getElem?_eq_getElem h, Option.toList_some, List.foldl_append]
  rfl
theorem insI_at {S : List Int} {x : Int} {k : Nat} (hk : k ≤ S.length) (h1 : ∀ y ∈ S.take k, y ≤ x) (h2 : ∀ y ∈ S.drop k, x < y) : SE.insI S x = S.take k ++ x :: S.drop k := by
  have e1 : S = S.take k ++ S.drop k := (List.take_append_drop k S).symm
  have hd : (S.drop k).takeWhile (fun y => decide (y ≤ x)) = [] := by
    cases hd : S.drop k with
    | nil => rfl
    | cons y r =>
      have := h2 y (by rw [hd]; simp)
      rw [List.takeWhile_cons, if_neg (by simpa using this)]
  have hd2 : (S.drop k).dropWhile (fun y => decide (y ≤ x)) = S.drop k := by
    have h3 := List.takeWhile_append_dropWhile (p := fun y => decide (y ≤ x)) (l := S.drop k)
    rw [hd, List.nil_append] at h3
    exact h3
  unfold SE.insI
  conv => lhs; rw [e1]
  rw [List.takeWhile_append_of_pos (fun y hy => by simpa using h1 y hy), List.dropWhile_append_of_pos (fun y hy => by simpa using h1 y hy), hd, hd2, List.append_nil]
/-- The list while a number sinks: it stands at place k of those before it. -/
def sink (S : List Int) (x : Int) (R : List Int) (k : Nat) : List Int := S.take k ++ x :: (S.drop k ++ R)
theorem sink_len {S : List Int} {x : Int} {R : List Int} {k : Nat} (hk : k ≤ S.length) : (sink S x R k).length = S.length + 1 + R.length := by
  unfold sink
  simp only [List.length_append, List.length_cons, List.length_take, List.length_drop]
  omega
theorem sink_at {S : List Int} {x : Int} {R : List Int} {k : Nat} (hk : k ≤ S.length) : (sink S x R k)[k]? = some x := by
  unfold sink
  rw [List.getElem?_append_right (by rw [List.length_take]; omega), List.length_take, show k - min k S.length = 0 by omega]
  rfl
theorem sink_prev {S : List Int} {x : Int} {R : List Int} {k : Nat} (hk : k + 1 ≤ S.length) : (sink S x R (k + 1))[k]? = some S[k] := by
  unfold sink
  rw [List.getElem?_append_left (by rw [List.length_take]; omega), List.getElem?_take, if_pos (by omega), List.getElem?_eq_getElem (by omega)]
theorem sink_step {S : List Int} {x : Int} {R : List Int} {k : Nat} (hk : k + 1 ≤ S.length) : ((sink S x R (k + 1)).set (k + 1) S[k]).set k x = sink S x R k := by
  have hlt : k < S.length := by omega
  have e1 : S.take (k + 1) = S.take k ++ [S[k]] := by rw [List.take_add_one, List.getElem?_eq_getElem hlt]; rfl
  have e2 : S.drop k = S[k] :: S.drop (k + 1) := List.drop_eq_getElem_cons hlt
  have hl : (S.take k).length = k := by rw [List.length_take]; omega
  unfold sink
  rw [e1, e2, List.append_assoc, List.set_append_right _ _ (by omega), hl, show k + 1 - k = 1 by omega, List.set_append_right _ _ (by omega), hl, Nat.sub_self]
  rfl
end Go.Proofs.YtpfljooceppcbaaDoor
