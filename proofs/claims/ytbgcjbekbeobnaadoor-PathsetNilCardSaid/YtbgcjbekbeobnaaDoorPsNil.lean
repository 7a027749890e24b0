/- A nil set refuses every entry and has none: the walk, over any Sets. -/
import Derived.Test.YtbgcjbekbeobnaaDoorPsL5
namespace Go.Proofs.YtbgcjbekbeobnaaDoor.ahead
open Go.RowKit
open SE (Ent)
set_option linter.unusedVariables false
set_option maxRecDepth 100000
set_option maxHeartbeats 4000000 in
theorem nil_walk (S : Sets) (e : Ent) (w : World) (hx : HasMax w) (hE : Fair e) :
    Calls Tryd.prog 7 #[agg e] w fun x w' => x = .returned (.bool true) ∧ Below w.heap.size w w' := by
  have HO := Lib.hid hE; clear hE
  have HX := Lib.hid (fun o => hx.below ((Below.refl _ w).alloc (Nat.le_refl _) o)); clear hx
  have hq := HO.out.2.1
  have HBX := Lib.hid (fun w2 hb => boxed (w := w) (w2 := w2) e hb)
  unfold agg
  go_enter Tryd.func7, Tryd.ntmps7
  go_wp2_with fail
  refine (awake_any S _ (HX.out _)).mono ?_
  rintro x w1 ⟨rfl, hb⟩
  have HB := Lib.hid hb; clear hb
  obtain ⟨⟨x0, x1, x2, x3⟩, _, _⟩ := HBX.out _ HB.out
  rw [Nat.zero_add] at x1 x2 x3
  go_wp2_with fail
  refine (S.getNil _ _).mono ?_
  rintro x w2 ⟨rfl, hb⟩
  have HB := Lib.hid (below_on HB.out hb); clear hb x0 x1 x2 x3
  have HZ := Lib.hid ((Below.refl w2.heap.size w2).alloc (Nat.le_refl _) (Obj.cells (four noEnt).toArray 29))
  have HN := Lib.hid (fun w3 hb => boxed (w := w2) (w2 := w3) noEnt hb)
  have HC := Lib.hid (Below.refl (w2.alloc (Obj.cells (four noEnt).toArray 29)).heap.size (w2.alloc (Obj.cells (four noEnt).toArray 29)))
  have HB := Lib.hid (below_on HB.out HZ.out)
  obtain ⟨x0, x1, x2, x3⟩ : EntCells (w2.alloc (Obj.cells #[.int .i64 0, .string ByteArray.empty, .int .i64 0, .int .i64 0] 29)) w.heap.size 0 e := (HBX.out _ HB.out).1
  rw [Nat.zero_add] at x1 x2 x3
  unfold agg noEnt
  go_wp2_with fail
  refine (S.putNil _ e HO.out).mono ?_
  rintro x w3 ⟨rfl, hb⟩
  have HB := Lib.hid (below_on HB.out hb)
  have HC := Lib.hid (below_on HC.out hb); clear hb x0 x1 x2 x3
  obtain ⟨⟨x0, x1, x2, x3⟩, _, _⟩ := HBX.out _ HB.out
  rw [Nat.zero_add] at x1 x2 x3
  go_wp2_with fail
  refine (S.dropNil _ _).mono ?_
  rintro x w4 ⟨rfl, hb⟩
  have HB := Lib.hid (below_on HB.out hb)
  have HC := Lib.hid (below_on HC.out hb); clear hb x0 x1 x2 x3
  obtain ⟨⟨x0, x1, x2, x3⟩, _, _⟩ := HBX.out _ HB.out
  rw [Nat.zero_add] at x1 x2 x3
  obtain ⟨⟨z0, z1, z2, z3⟩, _, _⟩ := HN.out _ HC.out
  rw [Nat.zero_add] at z1 z2 z3
  replace z0 : w4.cell? ⟨w2.heap.size, 0, none⟩ = some (.int .i64 0) := z0
  replace z1 : w4.cell? ⟨w2.heap.size, 1, none⟩ = some (.string ByteArray.empty) := z1
  replace z2 : w4.cell? ⟨w2.heap.size, 2, none⟩ = some (.int .i64 0) := z2
  replace z3 : w4.cell? ⟨w2.heap.size, 3, none⟩ = some (.int .i64 0) := z3
  go_wp2_with fail
  refine (S.lenNil _).mono ?_
  rintro x w5 ⟨rfl, hb⟩
  have HB := Lib.hid (below_on HB.out hb)
  have HC := Lib.hid (below_on HC.out hb); clear hb x0 x1 x2 x3
  obtain ⟨⟨x0, x1, x2, x3⟩, _, _⟩ := HBX.out _ HB.out
  rw [Nat.zero_add] at x1 x2 x3
  clear z0 z1 z2 z3
  go_wp2_with fail
  refine (S.listNil _).mono ?_
  rintro x w6 ⟨A, n, c, rfl, hn, _, _, hb0, _, _⟩
  have hb := hb0.out
  have hn := hn.out
  simp only [List.length_nil] at hn
  subst hn
  clear hb0
  have HB := Lib.hid (below_on HB.out hb)
  have HC := Lib.hid (below_on HC.out hb); clear hb x0 x1 x2 x3
  obtain ⟨⟨x0, x1, x2, x3⟩, _, _⟩ := HBX.out _ HB.out
  rw [Nat.zero_add] at x1 x2 x3
  go_wp2_with fail
  refine (S.clashNil _ e.path e.mode e.who ((HX.out _).below HB.out) hq).mono ?_
  rintro x w7 ⟨A, n, c, rfl, hn, _, _, hb0, _, _⟩
  have hb := hb0.out
  have hn := hn.out
  simp only [List.length_nil] at hn
  subst hn
  clear hb0
  have HB := Lib.hid (below_on HB.out hb)
  have HC := Lib.hid (below_on HC.out hb); clear hb x0 x1 x2 x3
  obtain ⟨⟨x0, x1, x2, x3⟩, _, _⟩ := HBX.out _ HB.out
  rw [Nat.zero_add] at x1 x2 x3
  go_wp2_with fail
  refine (S.overNil _ e.path ((HX.out _).below HB.out) hq).mono ?_
  rintro x w8 ⟨A, n, c, rfl, hn, _, _, hb0, _, _⟩
  have hb := hb0.out
  have hn := hn.out
  simp only [List.length_nil] at hn
  subst hn
  clear hb0
  have HB := Lib.hid (below_on HB.out hb)
  have HC := Lib.hid (below_on HC.out hb); clear hb x0 x1 x2 x3
  obtain ⟨⟨x0, x1, x2, x3⟩, _, _⟩ := HBX.out _ HB.out
  rw [Nat.zero_add] at x1 x2 x3
  go_wp2_with fail
  refine (S.underNil _ e.path ((HX.out _).below HB.out) hq).mono ?_
  rintro x w9 ⟨A, n, c, rfl, hn, _, _, hb0, _, _⟩
  have hb := hb0.out
  have hn := hn.out
  simp only [List.length_nil] at hn
  subst hn
  clear hb0
  have HB := Lib.hid (below_on HB.out hb)
  have HC := Lib.hid (below_on HC.out hb); clear hb x0 x1 x2 x3
  obtain ⟨⟨x0, x1, x2, x3⟩, _, _⟩ := HBX.out _ HB.out
  rw [Nat.zero_add] at x1 x2 x3
  go_wp2_with fail
  go_ret
  exact ⟨rfl, (HBX.out _ HB.out).2.1⟩
end Go.Proofs.YtbgcjbekbeobnaaDoor.ahead
