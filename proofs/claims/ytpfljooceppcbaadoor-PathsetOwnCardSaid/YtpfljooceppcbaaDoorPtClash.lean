/- Clash of a set: two lists put together, laid in order, one of each, and those struck that go together with what is asked. -/
import Derived.Test.YtpfljooceppcbaaDoorPtOver
import Derived.Lib.AppendZeros
namespace Go.Proofs.YtpfljooceppcbaaDoor
open Go.RowKit
open SE (Ent)
open PM (str)
open PT (blk ids set cut kidPairs lies Agrees segs)
set_option linter.unusedVariables false
set_option maxRecDepth 100000
theorem isMode_any (m : Int) (w : World) : Calls Tryd.prog 19 #[.int .i64 m] w fun e w' => e = .returned (.bool (SE.okMode m)) ∧ w' = w := by
  by_cases h1 : m = 1
  · subst h1
    go_enter Tryd.func19, Tryd.ntmps19
    go_wp2_with fail
    go_ret
    exact ⟨rfl, rfl⟩
  · have d1 : (m == 1) = false := beq_eq_false_iff_ne.2 h1
    go_enter Tryd.func19, Tryd.ntmps19
    go_wp2_with fail
    all_goals
      go_ret
      refine ⟨ret_bool ?_, rfl⟩
      unfold SE.okMode
      simp_all <;> rfl
theorem goTogether_any (a b : Int) (w : World) : Calls Tryd.prog 33 #[.int .i64 a, .int .i64 b] w fun e w' => e = .returned (.bool (SE.together a b)) ∧ w' = w := by
  by_cases h1 : a = 1
  · subst h1
    go_enter Tryd.func33, Tryd.ntmps33
    go_wp2_with fail
    all_goals
      go_ret
      refine ⟨ret_bool ?_, rfl⟩
      unfold SE.together
      simp_all <;> rfl
  · have d1 : (a == 1) = false := beq_eq_false_iff_ne.2 h1
    go_enter Tryd.func33, Tryd.ntmps33
    go_wp2_with fail
    all_goals
      go_ret
      refine ⟨ret_bool ?_, rfl⟩
      unfold SE.together
      simp_all
/-- slices.Grow of nil. -/
theorem Grow_nil (n : Nat) (hn : n ≤ 1048576) (w : World) : Calls Tryd.prog 45 #[.slice none 0 0, .int .i64 (n : Int)] w fun e w' => ∃ v, e = .returned v ∧ Grew w [] v w' := by
  by_cases h0 : n = 0
  · subst h0
    go_enter Tryd.func45, Tryd.ntmps45
    go_wp2_with fail
    go_ret
    exact ⟨_, rfl, Grew.nil w⟩
  · obtain ⟨i0, hi, hz0, hz1, hz2⟩ := info_parts info_int'
    have hr := fun ty => Lib.run_append_nil_zeros (P := Tryd.prog) w 36 3 ty 3 i0 (.int .i64 0) .i64 .i64 Tryd.underlying36 Tryd.underlying3 hi hz0 n (by omega) (by omega) (by omega) (by rw [hz2]; omega)
    have HR := Lib.hid hr
    have hge := grownCap_ge w n 0 3
    have hle := grownCap_le_maxLen w n 0 3 (by unfold maxLen; omega)
    generalize hcap : grownCap w n 0 3 = cap at *
    clear hr hcap
    have hpos : (0 : Int) < (n : Int) := by omega
    have hnn : ¬ (n : Int) < 0 := by omega
    go_enter Tryd.func45, Tryd.ntmps45
    go_wp2_with (at_builtin; refine Lib.wpList_append_run _ rfl _ _ _ _ rfl _ _ rfl rfl _ _ (HR.out _) ?_)
    go_ret
    refine ⟨_, rfl, ⟨rfl, .inr ⟨w.heap.size, cap, _, rfl, Nat.le_refl _, heap_alloc_new w _, Nat.zero_le _, hle, ?_, by simp [i64s]⟩⟩, ((Below.refl _ w).alloc (Nat.le_refl _) _).drew⟩
    rw [Array.size_append, size_zeroCells, size_zeroCells]
    simp
    omega
set_option maxHeartbeats 4000000 in
/-- slices.Concat of two lists. -/
theorem Concat_two (B c1 c2 : Nat) (A1 A2 : Option Addr) (xs ys : List Int) (w : World) (hB : B < w.heap.size) (h1 : w.cell? ⟨B, 0, none⟩ = some (.slice A1 xs.length c1)) (h2 : w.cell? ⟨B, 1, none⟩ = some (.slice A2 ys.length c2)) (hx : IntsAt w A1 xs) (hy : IntsAt w A2 ys) (hlx : xs.length ≤ 64) (hly : ys.length ≤ 64) :
    Calls Tryd.prog 28 #[.slice (some ⟨B, 0, none⟩) 2 2] w fun e w' => ∃ v, e = .returned v ∧ Grew w (xs ++ ys) v w' := by
  have HX := Lib.hid hx; have HY := Lib.hid hy
  have H1 := Lib.hid (fun (wr : World) (hb : Below w.heap.size w wr) => (hb.cell (p := ⟨B, 0, none⟩) hB).trans h1)
  have H2 := Lib.hid (fun (wr : World) (hb : Below w.heap.size w wr) => (hb.cell (p := ⟨B, 1, none⟩) hB).trans h2)
  have hg0 := Grow_nil (xs.length + ys.length) (by omega) w
  rw [Int.natCast_add] at hg0
  have HG0 := Lib.hid hg0; clear hg0
  clear hx hy
  generalize hn1 : xs.length = n1 at *
  generalize hn2 : ys.length = n2 at *
  have HN1 := Lib.hid hn1; have HN2 := Lib.hid hn2
  clear hn1 hn2
  go_enter Tryd.func28, Tryd.ntmps28
  go_wp2_with fail
  go_loopw [3, 5, 11] (fun v3 _ v11 wr => Hid (wr = w) ∧ ((v11 = .int .i64 0 ∧ v3 = .int .i64 0) ∨ (v11 = .int .i64 1 ∧ v3 = .int .i64 (n1 : Int)) ∨ (v11 = .int .i64 2 ∧ v3 = .int .i64 ((n1 : Int) + n2)))) (fun _ _ v11 _ => 2 - (intOf v11).toNat)
  case atStart => exact ⟨Lib.hid rfl, .inl ⟨rfl, rfl⟩⟩
  case round =>
    obtain ⟨HW, hc⟩ := hrel
    have hw := HW.out
    subst hw
    rcases hc with ⟨rfl, rfl⟩ | ⟨rfl, rfl⟩ | ⟨rfl, rfl⟩
    · go_wp2_with fail
      go_roundw
      case rel => exact ⟨Lib.hid trivial, .inr (.inl ⟨rfl, rfl⟩)⟩
      case measure => simp [intOf]
    · go_wp2_with fail
      go_roundw
      case rel => exact ⟨Lib.hid trivial, .inr (.inr ⟨rfl, rfl⟩)⟩
      case measure => simp [intOf]
    · go_wp2_with fail
      refine HG0.out.mono ?_
      rintro e w1 ⟨v1, rfl, hg1⟩
      have HG1 := Lib.hid hg1; clear hg1
      go_wp2_with fail
      go_loopw [6, 8, 27] (fun v6 _ v27 wx => ∃ zs, Hid (Grew wr zs v6 wx) ∧ ((v27 = .int .i64 0 ∧ zs = []) ∨ (v27 = .int .i64 1 ∧ zs = xs) ∨ (v27 = .int .i64 2 ∧ zs = xs ++ ys))) (fun _ _ v27 _ => 2 - (intOf v27).toNat)
      case atStart => exact ⟨[], HG1, .inl ⟨rfl, rfl⟩⟩
      case round =>
        rename_i wx
        obtain ⟨zs, HG, hc⟩ := hrel
        rcases hc with ⟨rfl, rfl⟩ | ⟨rfl, rfl⟩ | ⟨rfl, rfl⟩
        · have g1 := H1.out _ HG.out.2
          have HI := Lib.hid (HX.out.below HG.out.2)
          go_wp2_with (at_builtin; refine app_more rfl (.tmp 31) (.tmp 32) rfl HN1.out.symm HG.out HI.out rfl rfl (by have := HN1.out; simp; omega) ?_; intro v2 w2 hg2 _ _; rw [List.nil_append] at hg2; have HG2 := Lib.hid hg2; clear hg2)
          go_roundw
          case rel => exact ⟨xs, HG2, .inr (.inl ⟨rfl, rfl⟩)⟩
          case measure => simp [intOf]
        · have g1 := H2.out _ HG.out.2
          have HI := Lib.hid (HY.out.below HG.out.2)
          go_wp2_with (at_builtin; refine app_more rfl (.tmp 31) (.tmp 32) rfl HN2.out.symm HG.out HI.out rfl rfl (by have := HN1.out; have := HN2.out; omega) ?_; intro v2 w2 hg2 _ _; have HG2 := Lib.hid hg2; clear hg2)
          go_roundw
          case rel => exact ⟨_, HG2, .inr (.inr ⟨rfl, rfl⟩)⟩
          case measure => simp [intOf]
        · go_wp2_with fail
          go_ret
          exact ⟨_, rfl, HG.out⟩
end Go.Proofs.YtpfljooceppcbaaDoor
