/- The document's own answers of layer 5: which entry stands ahead, what is put in, what is dropped. -/
import Derived.Test.YtbgcjbekbeobnaaGreatDoorPsR1
namespace Go.Proofs.YtbgcjbekbeobnaaGreatDoor
open Go.RowKit
open SE (Ent)
set_option linter.unusedVariables false
set_option maxRecDepth 100000
/-- Numbers and a text as they may come in. -/
def Fair (e : Ent) : Prop := (-9223372036854775808 ≤ e.id ∧ e.id ≤ 9223372036854775807) ∧ e.path.size ≤ 140737488351232 ∧ (-9223372036854775808 ≤ e.mode ∧ e.mode ≤ 9223372036854775807) ∧ (-9223372036854775808 ≤ e.who ∧ e.who ≤ 9223372036854775807)
theorem before_neg {a b : Ent} (h : PM.cmp (SE.p a) (SE.p b) = -1) : SE.before a b = true := by unfold SE.before; rw [h]; rfl
theorem before_pos {a b : Ent} (h : PM.cmp (SE.p a) (SE.p b) = 1) : SE.before a b = false := by unfold SE.before; rw [h]; rfl
theorem before_zero {a b : Ent} (h : PM.cmp (SE.p a) (SE.p b) = 0) : SE.before a b = decide (a.id < b.id) := by unfold SE.before; rw [h]; rfl
set_option maxHeartbeats 1000000 in
theorem before_any (a b : Ent) (w : World) (ha : a.path.size ≤ 140737488351232) :
    Calls Tryz.prog 47 #[agg a, agg b] w fun e w' => e = .returned (.bool (SE.before a b)) ∧ Below w.heap.size w w' := by
  have HC := Lib.hid (fun w' => RCompare_any a.path b.path w' ha)
  have hr := PM.cmp_range a.path.data.toList b.path.data.toList
  have HN := Lib.hid (fun h => before_neg (a := a) (b := b) h)
  have HP := Lib.hid (fun h => before_pos (a := a) (b := b) h)
  have HZ := Lib.hid (fun h => before_zero (a := a) (b := b) h)
  obtain ⟨i1, p1, m1, o1⟩ := a
  obtain ⟨i2, p2, m2, o2⟩ := b
  unfold agg
  simp only at HC hr ⊢
  go_enter Tryz.func47, Tryz.ntmps47
  go_wp2_with fail
  refine (HC.out _).mono ?_
  rintro e w2 ⟨rfl, hb⟩
  have HB := Lib.hid (Below.trans (((Below.refl w.heap.size w).alloc (Nat.le_refl _) (Obj.cells #[Value.int IntKind.i64 i1, Value.string p1, Value.int IntKind.i64 m1, Value.int IntKind.i64 o1] 29)).alloc (by rw [World.size_alloc]; omega) (Obj.cells #[Value.int IntKind.i64 i2, Value.string p2, Value.int IntKind.i64 m2, Value.int IntKind.i64 o2] 29)) (hb.mono (by rw [World.size_alloc, World.size_alloc]; omega)))
  have c1 : w2.cell? ⟨w.heap.size, 0, none⟩ = some (.int .i64 i1) := by
    refine (hb.cell (p := ⟨w.heap.size, 0, none⟩) (by rw [World.size_alloc, World.size_alloc]; show w.heap.size < _; omega)).trans ?_
    exact World.cell?_alloc2_first _ _ _ _
  have c2 : w2.cell? ⟨w.heap.size + 1, 0, none⟩ = some (.int .i64 i2) := by
    refine (hb.cell (p := ⟨w.heap.size + 1, 0, none⟩) (by rw [World.size_alloc, World.size_alloc]; show w.heap.size + 1 < _; omega)).trans ?_
    exact World.cell?_alloc2_new _ _ _ _
  clear hb
  rcases hr with hn | hn | hn
  · have HE := Lib.hid (HN.out hn)
    rw [hn]
    clear hn
    go_wp2_with fail
    go_ret
    exact ⟨ret_bool HE.out.symm, HB.out⟩
  · have HE := Lib.hid (HZ.out hn)
    rw [hn]
    clear hn
    go_wp2_with fail
    go_ret
    exact ⟨ret_bool HE.out.symm, HB.out⟩
  · have HE := Lib.hid (HP.out hn)
    rw [hn]
    clear hn
    go_wp2_with fail
    go_ret
    exact ⟨ret_bool HE.out.symm, HB.out⟩
end Go.Proofs.YtbgcjbekbeobnaaGreatDoor
