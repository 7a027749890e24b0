/- Clocks in memory. -/
import Derived.Test.YtbcpphckjfbkbaaMem
import Derived.Test.YtbcpphckjfbkbaaInts
import Derived.Test.YtbcpphckjfbkbaaClkMath
namespace Go.Proofs.Ytbcpphckjfbkbaa
open Go.RowKit
open CK (Ck)
set_option linter.unusedVariables false
/-- The struct's cells: the array of eight times, how many are a clock's, true time, the drift. -/
def ckRow (c : Ck) : List Value := i64s (c.ts ++ List.replicate (8 - c.ts.length) 0) ++ [i64 c.ts.length, i64 c.tr, i64 c.dr]
def ckCells (c : Ck) : Array Value := (ckRow c).toArray
structure ClkAt (w : World) (g : Nat) (c : Ck) : Prop where
  mem : Whole w g 49 (ckCells c)
  ok : CK.Sound c
section
variable {w w' : World} {g : Nat} {c : Ck}
theorem ckRow_len (h : c.ts.length ≤ 8) : (i64s (c.ts ++ List.replicate (8 - c.ts.length) 0)).length = 8 := by
  rw [i64s_len, List.length_append, List.length_replicate]; omega
theorem cell_time {i : Nat} (hi : i < c.ts.length) : (ckCells c)[i]? = some (.int .i64 c.ts[i]) := by
  unfold ckCells ckRow
  rw [List.getElem?_toArray, List.getElem?_append_left (by rw [i64s_len, List.length_append]; omega)]
  unfold i64s
  rw [List.getElem?_map, List.getElem?_append_left hi, List.getElem?_eq_getElem hi]
  rfl
theorem cell_size (h : c.ts.length ≤ 8) : (ckCells c)[8]? = some (.int .i64 c.ts.length) := by
  unfold ckCells ckRow
  rw [List.getElem?_toArray, List.getElem?_append_right (by rw [ckRow_len h]; decide), ckRow_len h]
  rfl
theorem cell_true (h : c.ts.length ≤ 8) : (ckCells c)[9]? = some (.int .i64 c.tr) := by
  unfold ckCells ckRow
  rw [List.getElem?_toArray, List.getElem?_append_right (by rw [ckRow_len h]; decide), ckRow_len h]
  rfl
theorem cell_drift (h : c.ts.length ≤ 8) : (ckCells c)[10]? = some (.int .i64 c.dr) := by
  unfold ckCells ckRow
  rw [List.getElem?_toArray, List.getElem?_append_right (by rw [ckRow_len h]; decide), ckRow_len h]
  rfl
theorem set_time {i : Nat} (hi : i < c.ts.length) (h : c.ts.length ≤ 8) (x : Int) : (ckCells c).setIfInBounds i (.int .i64 x) = ckCells ⟨c.ts.set i x, c.tr, c.dr⟩ := by
  unfold ckCells ckRow
  rw [List.setIfInBounds_toArray]
  congr 1
  rw [List.set_append_left _ _ (by rw [ckRow_len h]; omega)]
  simp only [List.length_set]
  unfold i64s
  rw [← List.set_append_left _ _ hi, List.map_set]
  rfl
theorem set_true (h : c.ts.length ≤ 8) (x : Int) : (ckCells c).setIfInBounds 9 (.int .i64 x) = ckCells ⟨c.ts, x, c.dr⟩ := by
  unfold ckCells ckRow
  rw [List.setIfInBounds_toArray]
  congr 1
  rw [List.set_append_right _ _ (by rw [ckRow_len h]; decide), ckRow_len h]
  rfl
theorem set_drift (h : c.ts.length ≤ 8) (x : Int) : (ckCells c).setIfInBounds 10 (.int .i64 x) = ckCells ⟨c.ts, c.tr, x⟩ := by
  unfold ckCells ckRow
  rw [List.setIfInBounds_toArray]
  congr 1
  rw [List.set_append_right _ _ (by rw [ckRow_len h]; decide), ckRow_len h]
  rfl
theorem ClkAt.mod {F : List Nat} (h : ClkAt w g c) (hm : Mod F w w') (hn : g ∉ F) : ClkAt w' g c := ⟨hm.whole h.mem hn, h.ok⟩
theorem ClkAt.below (h : ClkAt w g c) (hb : Below w.heap.size w w') : ClkAt w' g c := h.mod (Mod.of_below hb []) (by simp)
theorem ClkAt.lt (h : ClkAt w g c) : g < w.heap.size := h.mem.lt
theorem ClkAt.size (h : ClkAt w g c) : w.cell? ⟨g, 8, none⟩ = some (.int .i64 c.ts.length) := (h.mem.cell 8).trans (cell_size h.ok.le)
theorem ClkAt.tr (h : ClkAt w g c) : w.cell? ⟨g, 9, none⟩ = some (.int .i64 c.tr) := (h.mem.cell 9).trans (cell_true h.ok.le)
theorem ClkAt.dr (h : ClkAt w g c) : w.cell? ⟨g, 10, none⟩ = some (.int .i64 c.dr) := (h.mem.cell 10).trans (cell_drift h.ok.le)
theorem ClkAt.time (h : ClkAt w g c) {i : Nat} (hi : i < c.ts.length) : w.cell? ⟨g, i, none⟩ = some (.int .i64 c.ts[i]) := (h.mem.cell i).trans (cell_time hi)
end
end Go.Proofs.Ytbcpphckjfbkbaa
