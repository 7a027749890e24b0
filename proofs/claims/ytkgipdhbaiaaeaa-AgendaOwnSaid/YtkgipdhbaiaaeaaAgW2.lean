/- The agenda's queue as container/heap asks for it: Len, Less, Swap, Push, Pop. -/
import Derived.Test.YtkgipdhbaiaaeaaAgW1
import Derived.BigRegion
import Derived.Handy
namespace Go.Proofs.Ytkgipdhbaiaaeaa
open Go.RowKit Go.Sort
open AM (It HS g sw)
set_option linter.unusedVariables false
set_option linter.unusedSimpArgs false
set_option maxRecDepth 100000
theorem AgH.drew {w : World} {b n : Nat} {h : List It} (H : AgH w b h n) : AgH w.drew b h n := ⟨H.whole, H.len, H.n32⟩
theorem mod3 (w : World) (b a0 a1 a2 : Nat) (v0 v1 v2 : Value) : Mod [b] w (((w.setCell ⟨b, a0, none⟩ v0).setCell ⟨b, a1, none⟩ v1).setCell ⟨b, a2, none⟩ v2) :=
  (((Mod.refl [b] w).store (.inl (by simp)) v0).store (.inl (by simp)) v1).store (.inl (by simp)) v2
section
variable {w : World} {b n i j : Nat} {h : List It}
set_option maxHeartbeats 1000000 in
theorem qLen (H : AgH w b h n) : Calls Try.prog 80 #[.pointer (some ⟨b, 0, none⟩)] w fun e w' => e = .returned (.int .i64 (n : Int)) ∧ w' = w := by
  have h1 := H.num
  clear H
  go_enter Try.func80, Try.ntmps80
  go_wp2_with fail
  go_ret
  exact ⟨rfl, rfl⟩
set_option maxHeartbeats 1000000 in
theorem qPush (H : AgH w b h n) (hn : n < 32) (x : It) : Calls Try.prog 83 #[.pointer (some ⟨b, 0, none⟩), .iface 29 (agg x)] w fun e w' => (∃ v, e = .returned v) ∧ AgH w' b (h.set n x) (n + 1) ∧ Mod [b] w w' := by
  have h1 := H.num
  obtain ⟨i0, i1, i2⟩ := H.item (i := n) hn
  have f0 := H.frozen (n * 3)
  have f1 := H.frozen (n * 3 + 1)
  have f2 := H.frozen (n * 3 + 2)
  have h2 : ((n : Int) < 32) := by omega
  have h3 : ((0 : Int) ≤ (n : Int)) := by omega
  have HH := Lib.hid H
  clear H
  have ht : ∀ v w, (Instr.typeAssert (.iface 29 v) 20 29 false).run Try.prog w = .ok v w := fun v w => by kernel_rfl
  unfold agg
  go_enter Try.func83, Try.ntmps83
  go_wp2_with fail
  go_region
  have H1 := Lib.hid (HH.out.put hn x).drew
  have HM := Lib.hid (mod3 w b (n * 3) (n * 3 + 1) (n * 3 + 2) (.int .i64 x.due) (.int .i64 x.kind) (.int .i64 x.key)).drew
  generalize hW : ((((w.setCell ⟨b, n * 3, none⟩ (.int .i64 x.due)).setCell ⟨b, n * 3 + 1, none⟩ (.int .i64 x.kind)).setCell ⟨b, n * 3 + 2, none⟩ (.int .i64 x.key)).drew) = w1 at H1 HM ⊢
  clear hW h1 i0 i1 i2 f0 f1 f2 HH ht
  have h1 := H1.out.num
  have f3 := H1.out.frozen 96
  have hw : IntKind.i64.wrap ((n : Int) + 1) = (n : Int) + 1 := IntWalk.i64_in _ (by omega)
  go_wp2_with fail
  go_end0
  refine ⟨⟨_, rfl⟩, H1.out.count (m := n + 1) (by omega), HM.out.store (.inl (by simp)) _⟩
set_option maxHeartbeats 1000000 in
theorem qPop (H : AgH w b h n) (hn : 0 < n) : Calls Try.prog 82 #[.pointer (some ⟨b, 0, none⟩)] w fun e w' => (∃ v, e = .returned v) ∧ AgH w' b (h.set (n - 1) default) (n - 1) ∧ Mod [b] w w' := by
  obtain ⟨m, rfl⟩ : ∃ m, n = m + 1 := ⟨n - 1, by omega⟩
  have hm : m < 32 := by have := H.n32; omega
  have h1 := H.num
  have f3 := H.frozen 96
  have HH := Lib.hid H
  clear H
  rw [Nat.add_sub_cancel]
  have hw : IntKind.i64.wrap (((m + 1 : Nat) : Int) - 1) = (m : Int) := by rw [IntWalk.i64_in _ (by omega)]; omega
  go_enter Try.func82, Try.ntmps82
  go_wp2_with fail
  have H1 := Lib.hid (HH.out.count (m := m) (by omega))
  have HM := Lib.hid ((Mod.refl [b] w).store (p := ⟨b, 96, none⟩) (.inl (by simp)) (.int .i64 (m : Int)))
  generalize hW : w.setCell ⟨b, 96, none⟩ (.int .i64 (m : Int)) = w1 at H1 HM ⊢
  clear hW h1 f3 HH hw
  have h1 := H1.out.num
  obtain ⟨i0, i1, i2⟩ := H1.out.item (i := m) hm
  have nb : ¬ b = w1.heap.size := by have := H1.out.lt; omega
  have nb2 : ¬ w1.heap.size = b := by have := H1.out.lt; omega
  have lb := H1.out.lt
  have h2 : ((m : Int) < 32) := by omega
  have h3 : ((0 : Int) ≤ (m : Int)) := by omega
  go_region
  have HB := Lib.hid (((Below.refl _ w1).alloc (Nat.le_refl _) (.cells #[.int .i64 (g h m).due, .int .i64 (g h m).kind, .int .i64 (g h m).key] 29)).drew)
  have HX := Lib.hid (Whole.drewN (Whole.new w1 29 #[.int .i64 (g h m).due, .int .i64 (g h m).kind, .int .i64 (g h m).key]) 1)
  have H2 := Lib.hid (H1.out.below HB.out)
  have HM2 := Lib.hid (HM.out.trans (Mod.of_below HB.out []) (by simp))
  have HX2 : Hid (Whole (w1.alloc (.cells #[.int .i64 (g h m).due, .int .i64 (g h m).kind, .int .i64 (g h m).key] 29)).drew w1.heap.size 29 #[.int .i64 (g h m).due, .int .i64 (g h m).kind, .int .i64 (g h m).key]) := HX
  clear HX
  generalize hW : (w1.alloc (.cells #[.int .i64 (g h m).due, .int .i64 (g h m).kind, .int .i64 (g h m).key] 29)).drew = w2 at H2 HM2 HX2 ⊢
  clear hW HB H1 HM h1 i0 i1 i2
  generalize w1.heap.size = bx at HX2 nb nb2 lb ⊢
  have h1 := H2.out.num
  obtain ⟨i0, i1, i2⟩ := H2.out.item (i := m) hm
  have f0 := H2.out.frozen (m * 3)
  have f1 := H2.out.frozen (m * 3 + 1)
  have f2 := H2.out.frozen (m * 3 + 2)
  go_wp2_with fail
  go_region
  have H3 := Lib.hid (H2.out.put hm default).drew
  have hM3 := (mod3 w2 b (m * 3) (m * 3 + 1) (m * 3 + 2) (.int .i64 0) (.int .i64 0) (.int .i64 0)).drew
  have HM3 := Lib.hid (HM2.out.trans hM3 (fun x hx => .inl hx))
  have HX3 := Lib.hid (hM3.whole HX2.out (by simpa using nb2))
  clear hM3
  generalize hW : (((w2.setCell ⟨b, m * 3, none⟩ (.int .i64 0)).setCell ⟨b, m * 3 + 1, none⟩ (.int .i64 0)).setCell ⟨b, m * 3 + 2, none⟩ (.int .i64 0)).drew = w3 at HM3 HX3 ⊢
  have H3' : Hid (AgH w3 b (h.set m default) m) := Lib.hid (hW ▸ H3.out)
  clear hW H3 H2 HM2 HX2 h1 i0 i1 i2 f0 f1 f2
  have x0 := HX3.out.cell 0
  have x1 := HX3.out.cell 1
  have x2 := HX3.out.cell 2
  have x0' : w3.cell? ⟨bx, 0, none⟩ = some (.int .i64 (g h m).due) := x0
  have x1' : w3.cell? ⟨bx, 1, none⟩ = some (.int .i64 (g h m).kind) := x1
  have x2' : w3.cell? ⟨bx, 2, none⟩ = some (.int .i64 (g h m).key) := x2
  clear x0 x1 x2
  go_wp2_with fail
  go_ret
  exact ⟨⟨_, rfl⟩, H3'.out, HM3.out⟩
set_option maxHeartbeats 1000000 in
theorem qLess (H : AgH w b h n) (hi : i < 32) (hj : j < 32) : Calls Try.prog 81 #[.pointer (some ⟨b, 0, none⟩), .int .i64 (i : Int), .int .i64 (j : Int)] w fun e w' => e = .returned (.bool (AM.before (g h i) (g h j))) ∧ Below w.heap.size w w' := by
  obtain ⟨i0, i1, i2⟩ := H.item hi
  obtain ⟨j0, j1, j2⟩ := H.item hj
  have h2 : ((i : Int) < 32) := by omega
  have h3 : ((0 : Int) ≤ (i : Int)) := by omega
  have h4 : ((j : Int) < 32) := by omega
  have h5 : ((0 : Int) ≤ (j : Int)) := by omega
  clear H
  obtain ⟨r, hr⟩ : ∃ r, AM.before (g h i) (g h j) = r := ⟨_, rfl⟩
  rw [hr]
  have HR := Lib.hid hr
  clear hr
  go_enter Try.func81, Try.ntmps81
  go_wp2_with fail
  go_still_tail 12, (by kernel_rfl)
  change wpList _ _ _ _ _ w.drew
  have HC := Lib.hid (compare_any (g h i) (g h j) w.drew)
  unfold agg at HC
  go_wp2_with fail
  refine HC.out.mono ?_
  rintro e w1 ⟨rfl, q, os, rfl⟩
  have HB := Lib.hid (below_of_drew (grow_below w.drew q os))
  have HE : decide (AM.cf (g h i) (g h j) < 0) = r := by
    rw [← HR.out]
    unfold AM.before
    exact decide_eq_decide.2 (AM.cf_neg _ _)
  clear HR HC
  generalize AM.cf (g h i) (g h j) = t at *
  generalize grow (w.drew.drewN q) os = w2 at *
  go_wp2_with fail
  go_ret
  exact ⟨rfl, HB.out⟩
set_option maxHeartbeats 1000000 in
theorem qSwap_ne (H : AgH w b h n) (hi : i < 32) (hj : j < 32) (hij : i ≠ j) : Calls Try.prog 84 #[.pointer (some ⟨b, 0, none⟩), .int .i64 (i : Int), .int .i64 (j : Int)] w fun e w' => (∃ v, e = .returned v) ∧ AgH w' b (sw h i j) n ∧ Mod [b] w w' := by
  obtain ⟨i0, i1, i2⟩ := H.item hi
  obtain ⟨j0, j1, j2⟩ := H.item hj
  have f0 := H.frozen (i * 3)
  have f1 := H.frozen (i * 3 + 1)
  have f2 := H.frozen (i * 3 + 2)
  have k0 := H.frozen (j * 3)
  have k1 := H.frozen (j * 3 + 1)
  have k2 := H.frozen (j * 3 + 2)
  have h2 : ((i : Int) < 32) := by omega
  have h3 : ((0 : Int) ≤ (i : Int)) := by omega
  have h4 : ((j : Int) < 32) := by omega
  have h5 : ((0 : Int) ≤ (j : Int)) := by omega
  have n00 : ¬ i * 3 = j * 3 := by omega
  have m00 : ¬ j * 3 = i * 3 := by omega
  have n01 : ¬ i * 3 = j * 3 + 1 := by omega
  have m01 : ¬ j * 3 = i * 3 + 1 := by omega
  have n02 : ¬ i * 3 = j * 3 + 2 := by omega
  have m02 : ¬ j * 3 = i * 3 + 2 := by omega
  have n10 : ¬ i * 3 + 1 = j * 3 := by omega
  have m10 : ¬ j * 3 + 1 = i * 3 := by omega
  have n11 : ¬ i * 3 + 1 = j * 3 + 1 := by omega
  have m11 : ¬ j * 3 + 1 = i * 3 + 1 := by omega
  have n12 : ¬ i * 3 + 1 = j * 3 + 2 := by omega
  have m12 : ¬ j * 3 + 1 = i * 3 + 2 := by omega
  have n20 : ¬ i * 3 + 2 = j * 3 := by omega
  have m20 : ¬ j * 3 + 2 = i * 3 := by omega
  have n21 : ¬ i * 3 + 2 = j * 3 + 1 := by omega
  have m21 : ¬ j * 3 + 2 = i * 3 + 1 := by omega
  have n22 : ¬ i * 3 + 2 = j * 3 + 2 := by omega
  have m22 : ¬ j * 3 + 2 = i * 3 + 2 := by omega
  have nij : ¬ i = j := hij
  have nji : ¬ j = i := fun e => hij e.symm
  have HH := Lib.hid H
  clear H hij
  go_enter Try.func84, Try.ntmps84
  go_wp2_with fail
  go_region
  have H1 := Lib.hid ((HH.out.put (i := i) (by omega) (g h j)).put (i := j) (by omega) (g h i)).drew
  have HM := Lib.hid ((mod3 w b (i * 3) (i * 3 + 1) (i * 3 + 2) (.int .i64 (g h j).due) (.int .i64 (g h j).kind) (.int .i64 (g h j).key)).trans (mod3 _ b (j * 3) (j * 3 + 1) (j * 3 + 2) (.int .i64 (g h i).due) (.int .i64 (g h i).kind) (.int .i64 (g h i).key)) (fun x hx => .inl hx)).drew
  generalize hW : ((((((w.setCell ⟨b, i * 3, none⟩ (.int .i64 (g h j).due)).setCell ⟨b, i * 3 + 1, none⟩ (.int .i64 (g h j).kind)).setCell ⟨b, i * 3 + 2, none⟩ (.int .i64 (g h j).key)).setCell ⟨b, j * 3, none⟩ (.int .i64 (g h i).due)).setCell ⟨b, j * 3 + 1, none⟩ (.int .i64 (g h i).kind)).setCell ⟨b, j * 3 + 2, none⟩ (.int .i64 (g h i).key)).drew = w1 at H1 HM ⊢
  clear hW
  go_wp2_with fail
  go_end0
  exact ⟨⟨_, rfl⟩, H1.out, HM.out⟩
set_option maxHeartbeats 1000000 in
theorem qSwap_eq (H : AgH w b h n) (hi : i < 32) : Calls Try.prog 84 #[.pointer (some ⟨b, 0, none⟩), .int .i64 (i : Int), .int .i64 (i : Int)] w fun e w' => (∃ v, e = .returned v) ∧ AgH w' b (sw h i i) n ∧ Mod [b] w w' := by
  obtain ⟨i0, i1, i2⟩ := H.item hi
  have f0 := H.frozen (i * 3)
  have f1 := H.frozen (i * 3 + 1)
  have f2 := H.frozen (i * 3 + 2)
  have h2 : ((i : Int) < 32) := by omega
  have h3 : ((0 : Int) ≤ (i : Int)) := by omega
  have HH := Lib.hid H
  clear H
  go_enter Try.func84, Try.ntmps84
  go_wp2_with fail
  go_region
  have H1 := Lib.hid ((HH.out.put (i := i) (by omega) (g h i)).put (i := i) (by omega) (g h i)).drew
  have HM := Lib.hid ((mod3 w b (i * 3) (i * 3 + 1) (i * 3 + 2) (.int .i64 (g h i).due) (.int .i64 (g h i).kind) (.int .i64 (g h i).key)).trans (mod3 _ b (i * 3) (i * 3 + 1) (i * 3 + 2) (.int .i64 (g h i).due) (.int .i64 (g h i).kind) (.int .i64 (g h i).key)) (fun x hx => .inl hx)).drew
  generalize hW : ((((((w.setCell ⟨b, i * 3, none⟩ (.int .i64 (g h i).due)).setCell ⟨b, i * 3 + 1, none⟩ (.int .i64 (g h i).kind)).setCell ⟨b, i * 3 + 2, none⟩ (.int .i64 (g h i).key)).setCell ⟨b, i * 3, none⟩ (.int .i64 (g h i).due)).setCell ⟨b, i * 3 + 1, none⟩ (.int .i64 (g h i).kind)).setCell ⟨b, i * 3 + 2, none⟩ (.int .i64 (g h i).key)).drew = w1 at H1 HM ⊢
  clear hW
  go_wp2_with fail
  go_end0
  exact ⟨⟨_, rfl⟩, H1.out, HM.out⟩
end
end Go.Proofs.Ytkgipdhbaiaaeaa
