/- The document's own answers of layer 5: what stands over a path, what lies under it. -/
import Derived.Test.YtpfljooceppcbaaDoorPsR4
namespace Go.Proofs.YtpfljooceppcbaaDoor
open Go.RowKit
open SE (Ent)
set_option linter.unusedVariables false
set_option maxRecDepth 100000
/-- The Ids of those that a test takes. -/
def sel (l : List Ent) (f : Ent → Bool) : List Int := (l.filter f).map (·.id)
theorem sel_yes {l : List Ent} {f : Ent → Bool} {k : Nat} (h : k < l.length) (hf : f l[k] = true) : sel (l.take (k + 1)) f = sel (l.take k) f ++ [l[k].id] := by
  unfold sel
  rw [List.take_add_one, List.getElem?_eq_getElem h, Option.toList_some, List.filter_append, List.filter_cons_of_pos hf, List.filter_nil, List.map_append]
  rfl
theorem sel_no {l : List Ent} {f : Ent → Bool} {k : Nat} (h : k < l.length) (hf : f l[k] = false) : sel (l.take (k + 1)) f = sel (l.take k) f := by
  unfold sel
  rw [List.take_add_one, List.getElem?_eq_getElem h, Option.toList_some, List.filter_append, List.filter_cons_of_neg (by rw [hf]; decide), List.filter_nil, List.append_nil]
theorem sel_len (l : List Ent) (f : Ent → Bool) (k : Nat) : (sel (l.take k) f).length ≤ k := by
  unfold sel
  rw [List.length_map]
  exact Nat.le_trans (List.length_filter_le _ _) (by rw [List.length_take]; omega)
theorem Grew.keep {w w1 w2 : World} {xs : List Int} {v : Value} (g : Grew w xs v w1) (h : Below w1.heap.size w1 w2) : Grew w xs v w2 :=
  ⟨(Mod.of_below h []).own g.1 (by simp), below_on g.2 h⟩
/-- A list of numbers of the call's own is handed back. -/
def OneI (w : World) (xs : List Int) (e : Ending) (w' : World) : Prop := ∃ A n c, e = .returned (.slice A n c) ∧ Made w xs A n c w'
theorem one_of_grew {w w' : World} {xs : List Int} {A : Option Addr} {n c : Nat} (h : Grew w xs (.slice A n c) w') (h1 : n ≤ c) (h2 : c ≤ 9223372036854775807) : OneI w xs (.returned (.slice A n c)) w' := by
  have hn : n = xs.length := by
    have := h.1.1
    rcases h.1.2 with ⟨hv, h0⟩ | ⟨g, cap, cur, hv, _⟩
    · injection hv with _ hn _; omega
    · injection hv with _ hn _
  subst hn
  exact ⟨A, _, c, rfl, Lib.hid rfl, Lib.hid (IntsAt.own h.1), Lib.hid h.1, Lib.hid h.2, h1, h2⟩
end Go.Proofs.YtpfljooceppcbaaDoor
