/- The package's Pack. -/
import Derived.Test.YtlnahmgcjaodkaaScW8
namespace Go.Proofs.Ytlnahmgcjaodkaa
open Go.RowKit
open By
set_option linter.unusedVariables false
set_option linter.unusedSimpArgs false
set_option maxRecDepth 100000
/-- A list of sectors as Pack lays it: its headers in block g, each sector a whole block of its own. -/
def hdr64 (b : Nat) : Value := .slice (some ⟨b, 0, none⟩) 64 64
def packCells (bs : List Nat) (n : Nat) : Array Value := (bs.map hdr64 ++ List.replicate (n - bs.length) (Value.slice none 0 0)).toArray
structure Packed (base g : Nat) (bs : List Nat) (n : Nat) (xs : List (List UInt8)) (w : World) : Prop where
  row : Whole w g 26 (packCells bs n)
  ge : base ≤ g
  len : bs.length = xs.length
  le : bs.length ≤ n
  each : ∀ (j b : Nat) (x : List UInt8), bs[j]? = some b → xs[j]? = some x → base ≤ b ∧ Whole w b 5 (u8s x).toArray
  nodup : bs.Nodup
theorem packCells_set {bs : List Nat} {n b : Nat} (h : bs.length < n) : (packCells bs n).setIfInBounds bs.length (hdr64 b) = packCells (bs ++ [b]) n := by
  unfold packCells
  rw [List.setIfInBounds_toArray, List.set_append_right _ _ (by simp), List.length_map, Nat.sub_self, show n - bs.length = (n - (bs.length + 1)) + 1 by omega, List.replicate_succ, List.set_cons_zero, List.map_append, List.append_assoc, List.length_append]
  rfl
theorem packCells_nil (n : Nat) : madeCells #[.slice none 0 0] n = packCells [] n := by
  apply Array.ext'
  rw [toList_madeCells_one]
  unfold packCells
  simp
theorem packCells_at {bs : List Nat} {n k : Nat} (h : bs.length ≤ k) (hk : k < n) : (packCells bs n)[k]? = some (.slice none 0 0) := by
  unfold packCells
  rw [List.getElem?_toArray, List.getElem?_append_right (by simpa using h), List.length_map, List.getElem?_replicate, if_pos (by omega)]
theorem packCells_hdr {bs : List Nat} {n j b : Nat} (h : bs[j]? = some b) : (packCells bs n)[j]? = some (hdr64 b) := by
  unfold packCells
  have := (List.getElem?_eq_some_iff.1 h).1
  rw [List.getElem?_toArray, List.getElem?_append_left (by simpa using this), List.getElem?_map, h]
  rfl
theorem Packed.mod {base g n : Nat} {bs : List Nat} {xs : List (List UInt8)} {w w' : World} {F : List Nat} (h : Packed base g bs n xs w) (hm : Mod F w w') (hF : ∀ x ∈ F, x < base) : Packed base g bs n xs w' :=
  ⟨hm.whole h.row (fun hx => by have := hF _ hx; have := h.ge; omega), h.ge, h.len, h.le, fun j b x hb hx => ⟨(h.each j b x hb hx).1, hm.whole (h.each j b x hb hx).2 (fun hx' => by have := hF _ hx'; have := (h.each j b x hb hx).1; omega)⟩, h.nodup⟩
theorem Packed.below {base g n : Nat} {bs : List Nat} {xs : List (List UInt8)} {w w' : World} (h : Packed base g bs n xs w) (hb : Below w.heap.size w w') : Packed base g bs n xs w' := h.mod (F := []) (Mod.of_below hb []) (by simp)
theorem Packed.lt {base g n : Nat} {bs : List Nat} {xs : List (List UInt8)} {w : World} (h : Packed base g bs n xs w) {j b : Nat} (hb : bs[j]? = some b) : b < w.heap.size := by
  have hj := (List.getElem?_eq_some_iff.1 hb).1
  exact (h.each j b _ hb (List.getElem?_eq_getElem (by rw [← h.len]; exact hj))).2.lt
theorem Packed.push {base g n : Nat} {bs : List Nat} {xs : List (List UInt8)} {w w2 : World} (h : Packed base g bs n xs w) (hlt : bs.length < n) (hb : Below w.heap.size w w2) {b : Nat} (hbn : w.heap.size ≤ b) (hbase : base ≤ w.heap.size) {x : List UInt8} (hx : Whole w2 b 5 (u8s x).toArray) :
    Packed base g (bs ++ [b]) n (xs ++ [x]) (w2.setCell ⟨g, bs.length, none⟩ (hdr64 b)) := by
  have h2 := h.below hb
  refine ⟨?_, h.ge, by rw [List.length_append, List.length_append, h.len]; rfl, by rw [List.length_append]; exact hlt, fun j b' y hb' hy => ?_, ?_⟩
  · rw [← packCells_set hlt]
    exact h2.row.store bs.length (hdr64 b)
  · by_cases hj : j < bs.length
    · rw [List.getElem?_append_left hj] at hb'
      rw [List.getElem?_append_left (by rw [← h.len]; exact hj)] at hy
      obtain ⟨k1, k2⟩ := h2.each j b' y hb' hy
      exact ⟨k1, k2.far (q := ⟨g, bs.length, none⟩) (fun e => Whole.ne k2 h2.row (by decide) e) _⟩
    · have hjl : j = bs.length := by have := (List.getElem?_eq_some_iff.1 hb').1; rw [List.length_append, List.length_singleton] at this; omega
      subst hjl
      rw [List.getElem?_append_right (Nat.le_refl _), Nat.sub_self] at hb'
      rw [List.getElem?_append_right (by rw [h.len]; exact Nat.le_refl _), h.len, Nat.sub_self] at hy
      cases hb'
      cases hy
      exact ⟨by omega, hx.far (q := ⟨g, bs.length, none⟩) (fun e => Whole.ne hx h2.row (by decide) e) _⟩
  · rw [List.nodup_append]
    refine ⟨h.nodup, by simp, fun a ha b' hb' => ?_⟩
    rw [List.mem_singleton.1 hb']
    obtain ⟨j, hj⟩ := List.mem_iff_getElem?.1 ha
    have := h.lt hj
    omega
theorem Packed.rows {base g n : Nat} {bs : List Nat} {xs : List (List UInt8)} {w : World} (h : Packed base g bs n xs w) (hl : ∀ (j : Nat) (x : List UInt8), xs[j]? = some x → x.length = 64) : RowsAt w (some ⟨g, 0, none⟩) xs := fun _ =>
  ⟨g, 0, rfl, h.row.lt, fun j x hx => by
    have hj : j < bs.length := by rw [h.len]; exact (List.getElem?_eq_some_iff.1 hx).1
    obtain ⟨k1, k2⟩ := h.each j _ x (List.getElem?_eq_getElem hj) hx
    refine ⟨some ⟨bs[j], 0, none⟩, 64, ?_, Whole.reads k2, by rw [hl j x hx]; exact Nat.le_refl _, by decide⟩
    rw [Nat.zero_add, h.row.cell, packCells_hdr (List.getElem?_eq_getElem hj), hl j x hx]
    rfl⟩
end Go.Proofs.Ytlnahmgcjaodkaa
