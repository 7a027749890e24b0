/- Over, Under and Clash tell just the entries above a path, below it and against it: the walk, over any Sets. -/
import Derived.Test.YtbgcjbekbeobnaaDoorPsKMath
import Derived.Test.YtbgcjbekbeobnaaDoorPathsW2
namespace Go.Proofs.YtbgcjbekbeobnaaDoor.ahead
open Go.RowKit
open SE (Ent)
set_option linter.unusedVariables false
set_option maxRecDepth 100000
theorem in_same (A : Option Addr) (c : Nat) (l : List Int) (x : Int) (w : World) (hA : IntsAt w A l) (hl : l.length ≤ c) (hc : c ≤ 9223372036854775807) :
    Calls Tryd.prog 19 #[.slice A l.length c, .int .i64 x] w fun e w' => e = .returned (.bool (decide (x ∈ l))) ∧ w' = w := (in_any A c l x w hA hl hc).mono fun e w' ⟨h1, h2⟩ => ⟨h1, h2.symm⟩
set_option maxHeartbeats 16000000 in
theorem kinds_walk (S : Sets) (A : Option Addr) (c : Nat) (l : List Ent) (q : ByteArray) (who : Int) (w : World) (hx : HasMax w) (hA : EntsAt w A l) (hl : l.length ≤ c) (hc : c ≤ 9223372036854775807) (hF : ∀ e ∈ l, Fair e) (hq : q.size ≤ 140737488351232) :
    Calls Tryd.prog 4 #[.slice A l.length c, .string q, .int .i64 who] w fun x w' => x = .returned (.bool true) ∧ Below w.heap.size w w' := by
  have HX := Lib.hid hx; clear hx
  have HA := Lib.hid hA; clear hA
  have HF := Lib.hid hF; clear hF
  go_enter Tryd.func4, Tryd.ntmps4
  go_wp2_with fail
  refine (awake_any S _ HX.out).mono ?_
  rintro x w1 ⟨rfl, hb⟩
  have HB1 := Lib.hid hb; clear hb
  go_wp2_with fail
  refine (filled_any S w A c l w1 HX.out HA.out hl hc HF.out HB1.out).mono ?_
  rintro x w2 ⟨g, rfl, HM⟩
  generalize fill l = L at HM
  clear HA HF HB1
  unfold ptr
  have hinv := HM.out.inv
  obtain ⟨l1, e1, f1, s1, z1⟩ := over_facts hinv q.data.toList
  obtain ⟨l2, e2, f2, s2, z2⟩ := under_facts hinv q.data.toList
  obtain ⟨l3, e3, f3, s3, z3, _⟩ := clash_facts hinv q.data.toList 2 who
  obtain ⟨l4, e4, f4, s4, z4, _⟩ := clash_facts hinv q.data.toList 1 who
  obtain ⟨l5, e5, _, _, _, z5⟩ := clash_facts hinv q.data.toList 0 who
  obtain ⟨l6, e6, _, _, _, z6⟩ := clash_facts hinv q.data.toList 3 who
  have z5 := z5 rfl
  have z6 := z6 rfl
  subst z5 z6
  have E1 := Lib.hid e1; have E2 := Lib.hid e2; have E3 := Lib.hid e3; have E4 := Lib.hid e4; have E5 := Lib.hid e5; have E6 := Lib.hid e6
  have F1 := Lib.hid f1; have F2 := Lib.hid f2; have F3 := Lib.hid f3; have F4 := Lib.hid f4
  have Z1 := Lib.hid z1; have Z2 := Lib.hid z2; have Z3 := Lib.hid z3; have Z4 := Lib.hid z4
  have HI := Lib.hid hinv
  have h64 := hinv.len
  clear e1 e2 e3 e4 e5 e6 f1 f2 f3 f4 z1 z2 z3 z4 hinv
  go_wp2_with fail
  have k1 := HM.out.over q hq
  rw [E1.out] at k1
  refine k1.mono ?_
  clear k1
  rintro x w3 ⟨A1, c1, rfl, I1, a1, b1, HM, _⟩
  go_wp2_with fail
  have k1 := HM.out.under q hq
  rw [E2.out] at k1
  refine k1.mono ?_
  clear k1
  rintro x w4 ⟨A2, c2, rfl, I2, a2, b2, HM, hb⟩
  have I1 := Lib.hid (I1.out.below hb.out); clear hb
  go_wp2_with fail
  have k1 := HM.out.clash q 2 who hq
  rw [E3.out] at k1
  refine k1.mono ?_
  clear k1
  rintro x w5 ⟨A3, c3, rfl, I3, a3, b3, HM, hb⟩
  have I1 := Lib.hid (I1.out.below hb.out); have I2 := Lib.hid (I2.out.below hb.out); clear hb
  go_wp2_with fail
  have k1 := HM.out.clash q 1 who hq
  rw [E4.out] at k1
  refine k1.mono ?_
  clear k1
  rintro x w6 ⟨A4, c4, rfl, I4, a4, b4, HM, hb⟩
  have I1 := Lib.hid (I1.out.below hb.out); have I2 := Lib.hid (I2.out.below hb.out); have I3 := Lib.hid (I3.out.below hb.out); clear hb
  go_wp2_with fail
  refine (HM.out.list).mono ?_
  rintro x w7 ⟨A7, c7, rfl, I7, a7, b7, HM, hb⟩
  have I1 := Lib.hid (I1.out.below hb.out); have I2 := Lib.hid (I2.out.below hb.out); have I3 := Lib.hid (I3.out.below hb.out); have I4 := Lib.hid (I4.out.below hb.out); clear hb
  go_wp2_with fail
  go_loopw [13, 14, 15, 16, 17, 39] (fun _ _ _ _ _ i wx => ∃ k : Nat, i = .int .i64 (k : Int) ∧ k ≤ L.length ∧ Hid (Below w7.heap.size w7 wx)) (fun _ _ _ _ _ i _ => L.length - (intOf i).toNat)
  case atStart => exact ⟨0, rfl, by omega, Lib.hid (Below.refl _ _)⟩
  case round =>
    obtain ⟨k, rfl, hk, HB⟩ := hrel
    by_cases hlt : k < L.length
    · obtain ⟨b, o, eA, hbl, hca⟩ := I7.out (by omega)
      subst eA
      obtain ⟨x0, x1, x2, x3⟩ := (hca k L[k] (List.getElem?_eq_getElem hlt)).below hbl HB.out
      have hm := List.getElem_mem hlt
      have g1 := F1.out _ hm
      have g2 := F2.out _ hm
      have g3 := F3.out _ hm
      have g4 := F4.out _ hm
      have hmo := HI.out.modes _ hm
      have hok : PM.okB (SE.p L[k]) = true := HI.out.paths _ hm
      have hfs := (HM.out.fair _ hm).2.1
      clear hca hm
      generalize L[k] = x at x0 x1 x2 x3 g1 g2 g3 g4 hmo hfs hok
      obtain ⟨xi, xp, xm, xw⟩ := x
      simp only at x0 x1 x2 x3 g1 g2 g3 g4 hfs
      unfold SE.p at g1 g2 hok
      unfold SE.against SE.lap SE.p at g3 g4
      simp only at g1 g2 g3 g4 hok
      have hmo : xm = 1 ∨ xm = 2 := by unfold SE.okMode at hmo; simpa using hmo
      have HC1 := Lib.hid (fun w => Covers_any xp q w (by omega) (by omega))
      have HC2 := Lib.hid (fun w => Covers_any q xp w (by omega) (by omega))
      have HBA := Lib.hid (below_on HB.out ((Below.refl wr.heap.size wr).alloc (Nat.le_refl _) (Obj.cells #[.int .i64 xi, .string xp, .int .i64 xm, .int .i64 xw] 29)))
      have J := Lib.hid (fun n => (⟨in_same A1 c1 l1 xi ((wr.alloc (Obj.cells #[.int .i64 xi, .string xp, .int .i64 xm, .int .i64 xw] 29)).drewN n) (I1.out.below (below_drewN HBA.out n)) a1 b1, in_same A2 c2 l2 xi ((wr.alloc (Obj.cells #[.int .i64 xi, .string xp, .int .i64 xm, .int .i64 xw] 29)).drewN n) (I2.out.below (below_drewN HBA.out n)) a2 b2, in_same A3 c3 l3 xi ((wr.alloc (Obj.cells #[.int .i64 xi, .string xp, .int .i64 xm, .int .i64 xw] 29)).drewN n) (I3.out.below (below_drewN HBA.out n)) a3 b3, in_same A4 c4 l4 xi ((wr.alloc (Obj.cells #[.int .i64 xi, .string xp, .int .i64 xm, .int .i64 xw] 29)).drewN n) (I4.out.below (below_drewN HBA.out n)) a4 b4⟩ : _ ∧ _ ∧ _ ∧ _))
      clear HB
      have hpq : PM.cov xp.data.toList q.data.toList = true → PM.cov q.data.toList xp.data.toList = true → xp = q := fun h1 h2 => ByteArray.ext (Array.ext' (PM.cov_anti h1 h2))
      have hnp : xp = q → PM.cov xp.data.toList q.data.toList = true ∧ PM.cov q.data.toList xp.data.toList = true := fun h => by subst h; exact ⟨(PM.cov_self _).trans hok, (PM.cov_self _).trans hok⟩
      rw [g1, g2, g3, g4] at J
      clear g1 g2 g3 g4 hok
      generalize ha : PM.cov xp.data.toList q.data.toList = va at J HC1 hpq hnp
      generalize hb : PM.cov q.data.toList xp.data.toList = vb at J HC2 hpq hnp
      clear ha hb
      have h1m : SE.okMode 1 = true := rfl
      have h2m : SE.okMode 2 = true := rfl
      rw [h1m, h2m] at J
      clear h1m h2m
      cases va with
      | true =>
        cases vb with
        | true =>
          have hx := hpq rfl rfl
          subst hx
          clear hpq hnp
          by_cases hw : xw = who
          · subst hw
            rcases hmo with rfl | rfl
            · have r3 : (true && (true || true) && decide (xw ≠ xw) && !SE.together 1 2) = false := by simp [SE.together]
              have r4 : (true && (true || true) && decide (xw ≠ xw) && !SE.together 1 1) = false := by simp [SE.together]
              rw [r3, r4] at J
              clear r3 r4
              have Q1 := Lib.hid (fun n => (J.out n).1)
              have Q2 := Lib.hid (fun n => (J.out n).2.1)
              have Q3 := Lib.hid (fun n => (J.out n).2.2.1)
              have Q4 := Lib.hid (fun n => (J.out n).2.2.2)
              clear J
              go_wp2_with fail
              go_quiet ((go_at_call 19; with_reducible first | exact Calls.quiet_of_same (Q1.out _) | exact Calls.quiet_of_same (Q2.out _) | exact Calls.quiet_of_same (Q3.out _) | exact Calls.quiet_of_same (Q4.out _)))
              have HB9 := Lib.hid (below_drewN HBA.out nq)
              go_wp2_with (first
                | (go_at_call 20; with_reducible refine (HC1.out _).mono ?_; rintro e w' ⟨rfl, rfl⟩)
                | (go_at_call 20; with_reducible refine (HC2.out _).mono ?_; rintro e w' ⟨rfl, rfl⟩))
              go_wp2_with fail
              refine And.intro ?_ ?_
              · exact ⟨k + 1, rfl, by omega, HB9⟩
              · simp only [intOf]; omega
            · have r3 : (true && (true || true) && decide (xw ≠ xw) && !SE.together 2 2) = false := by simp [SE.together]
              have r4 : (true && (true || true) && decide (xw ≠ xw) && !SE.together 2 1) = false := by simp [SE.together]
              rw [r3, r4] at J
              clear r3 r4
              have Q1 := Lib.hid (fun n => (J.out n).1)
              have Q2 := Lib.hid (fun n => (J.out n).2.1)
              have Q3 := Lib.hid (fun n => (J.out n).2.2.1)
              have Q4 := Lib.hid (fun n => (J.out n).2.2.2)
              clear J
              go_wp2_with fail
              go_quiet ((go_at_call 19; with_reducible first | exact Calls.quiet_of_same (Q1.out _) | exact Calls.quiet_of_same (Q2.out _) | exact Calls.quiet_of_same (Q3.out _) | exact Calls.quiet_of_same (Q4.out _)))
              have HB9 := Lib.hid (below_drewN HBA.out nq)
              go_wp2_with (first
                | (go_at_call 20; with_reducible refine (HC1.out _).mono ?_; rintro e w' ⟨rfl, rfl⟩)
                | (go_at_call 20; with_reducible refine (HC2.out _).mono ?_; rintro e w' ⟨rfl, rfl⟩))
              go_wp2_with fail
              refine And.intro ?_ ?_
              · exact ⟨k + 1, rfl, by omega, HB9⟩
              · simp only [intOf]; omega
          · have dw : (xw != who) = true := by simpa using hw
            rcases hmo with rfl | rfl
            · have r3 : (true && (true || true) && decide (xw ≠ who) && !SE.together 1 2) = true := by simp [SE.together, hw]
              have r4 : (true && (true || true) && decide (xw ≠ who) && !SE.together 1 1) = false := by simp [SE.together, hw]
              rw [r3, r4] at J
              clear r3 r4
              have Q1 := Lib.hid (fun n => (J.out n).1)
              have Q2 := Lib.hid (fun n => (J.out n).2.1)
              have Q3 := Lib.hid (fun n => (J.out n).2.2.1)
              have Q4 := Lib.hid (fun n => (J.out n).2.2.2)
              clear J
              clear hw
              go_wp2_with fail
              go_quiet ((go_at_call 19; with_reducible first | exact Calls.quiet_of_same (Q1.out _) | exact Calls.quiet_of_same (Q2.out _) | exact Calls.quiet_of_same (Q3.out _) | exact Calls.quiet_of_same (Q4.out _)))
              have HB9 := Lib.hid (below_drewN HBA.out nq)
              go_wp2_with (first
                | (go_at_call 20; with_reducible refine (HC1.out _).mono ?_; rintro e w' ⟨rfl, rfl⟩)
                | (go_at_call 20; with_reducible refine (HC2.out _).mono ?_; rintro e w' ⟨rfl, rfl⟩))
              go_wp2_with fail
              refine And.intro ?_ ?_
              · exact ⟨k + 1, rfl, by omega, HB9⟩
              · simp only [intOf]; omega
            · have r3 : (true && (true || true) && decide (xw ≠ who) && !SE.together 2 2) = true := by simp [SE.together, hw]
              have r4 : (true && (true || true) && decide (xw ≠ who) && !SE.together 2 1) = true := by simp [SE.together, hw]
              rw [r3, r4] at J
              clear r3 r4
              have Q1 := Lib.hid (fun n => (J.out n).1)
              have Q2 := Lib.hid (fun n => (J.out n).2.1)
              have Q3 := Lib.hid (fun n => (J.out n).2.2.1)
              have Q4 := Lib.hid (fun n => (J.out n).2.2.2)
              clear J
              clear hw
              go_wp2_with fail
              go_quiet ((go_at_call 19; with_reducible first | exact Calls.quiet_of_same (Q1.out _) | exact Calls.quiet_of_same (Q2.out _) | exact Calls.quiet_of_same (Q3.out _) | exact Calls.quiet_of_same (Q4.out _)))
              have HB9 := Lib.hid (below_drewN HBA.out nq)
              go_wp2_with (first
                | (go_at_call 20; with_reducible refine (HC1.out _).mono ?_; rintro e w' ⟨rfl, rfl⟩)
                | (go_at_call 20; with_reducible refine (HC2.out _).mono ?_; rintro e w' ⟨rfl, rfl⟩))
              go_wp2_with fail
              refine And.intro ?_ ?_
              · exact ⟨k + 1, rfl, by omega, HB9⟩
              · simp only [intOf]; omega
        | false =>
          have hne : ¬ xp.toList = q.toList := fun h => by
            have h2 := hnp (ByteArray.ext (Array.ext' (by rw [← Lib.toList_data, ← Lib.toList_data]; exact h)))
            simp at h2
          have hne2 : (xp.toList == q.toList) = false := by simpa using hne
          clear hpq hnp hne
          by_cases hw : xw = who
          · subst hw
            rcases hmo with rfl | rfl
            · have r3 : (true && (true || false) && decide (xw ≠ xw) && !SE.together 1 2) = false := by simp [SE.together]
              have r4 : (true && (true || false) && decide (xw ≠ xw) && !SE.together 1 1) = false := by simp [SE.together]
              rw [r3, r4] at J
              clear r3 r4
              have Q1 := Lib.hid (fun n => (J.out n).1)
              have Q2 := Lib.hid (fun n => (J.out n).2.1)
              have Q3 := Lib.hid (fun n => (J.out n).2.2.1)
              have Q4 := Lib.hid (fun n => (J.out n).2.2.2)
              clear J
              go_wp2_with fail
              go_quiet ((go_at_call 19; with_reducible first | exact Calls.quiet_of_same (Q1.out _) | exact Calls.quiet_of_same (Q2.out _) | exact Calls.quiet_of_same (Q3.out _) | exact Calls.quiet_of_same (Q4.out _)))
              have HB9 := Lib.hid (below_drewN HBA.out nq)
              go_wp2_with (first
                | (go_at_call 20; with_reducible refine (HC1.out _).mono ?_; rintro e w' ⟨rfl, rfl⟩)
                | (go_at_call 20; with_reducible refine (HC2.out _).mono ?_; rintro e w' ⟨rfl, rfl⟩))
              go_wp2_with fail
              refine And.intro ?_ ?_
              · exact ⟨k + 1, rfl, by omega, HB9⟩
              · simp only [intOf]; omega
            · have r3 : (true && (true || false) && decide (xw ≠ xw) && !SE.together 2 2) = false := by simp [SE.together]
              have r4 : (true && (true || false) && decide (xw ≠ xw) && !SE.together 2 1) = false := by simp [SE.together]
              rw [r3, r4] at J
              clear r3 r4
              have Q1 := Lib.hid (fun n => (J.out n).1)
              have Q2 := Lib.hid (fun n => (J.out n).2.1)
              have Q3 := Lib.hid (fun n => (J.out n).2.2.1)
              have Q4 := Lib.hid (fun n => (J.out n).2.2.2)
              clear J
              go_wp2_with fail
              go_quiet ((go_at_call 19; with_reducible first | exact Calls.quiet_of_same (Q1.out _) | exact Calls.quiet_of_same (Q2.out _) | exact Calls.quiet_of_same (Q3.out _) | exact Calls.quiet_of_same (Q4.out _)))
              have HB9 := Lib.hid (below_drewN HBA.out nq)
              go_wp2_with (first
                | (go_at_call 20; with_reducible refine (HC1.out _).mono ?_; rintro e w' ⟨rfl, rfl⟩)
                | (go_at_call 20; with_reducible refine (HC2.out _).mono ?_; rintro e w' ⟨rfl, rfl⟩))
              go_wp2_with fail
              refine And.intro ?_ ?_
              · exact ⟨k + 1, rfl, by omega, HB9⟩
              · simp only [intOf]; omega
          · have dw : (xw != who) = true := by simpa using hw
            rcases hmo with rfl | rfl
            · have r3 : (true && (true || false) && decide (xw ≠ who) && !SE.together 1 2) = true := by simp [SE.together, hw]
              have r4 : (true && (true || false) && decide (xw ≠ who) && !SE.together 1 1) = false := by simp [SE.together, hw]
              rw [r3, r4] at J
              clear r3 r4
              have Q1 := Lib.hid (fun n => (J.out n).1)
              have Q2 := Lib.hid (fun n => (J.out n).2.1)
              have Q3 := Lib.hid (fun n => (J.out n).2.2.1)
              have Q4 := Lib.hid (fun n => (J.out n).2.2.2)
              clear J
              clear hw
              go_wp2_with fail
              go_quiet ((go_at_call 19; with_reducible first | exact Calls.quiet_of_same (Q1.out _) | exact Calls.quiet_of_same (Q2.out _) | exact Calls.quiet_of_same (Q3.out _) | exact Calls.quiet_of_same (Q4.out _)))
              have HB9 := Lib.hid (below_drewN HBA.out nq)
              go_wp2_with (first
                | (go_at_call 20; with_reducible refine (HC1.out _).mono ?_; rintro e w' ⟨rfl, rfl⟩)
                | (go_at_call 20; with_reducible refine (HC2.out _).mono ?_; rintro e w' ⟨rfl, rfl⟩))
              go_wp2_with fail
              refine And.intro ?_ ?_
              · exact ⟨k + 1, rfl, by omega, HB9⟩
              · simp only [intOf]; omega
            · have r3 : (true && (true || false) && decide (xw ≠ who) && !SE.together 2 2) = true := by simp [SE.together, hw]
              have r4 : (true && (true || false) && decide (xw ≠ who) && !SE.together 2 1) = true := by simp [SE.together, hw]
              rw [r3, r4] at J
              clear r3 r4
              have Q1 := Lib.hid (fun n => (J.out n).1)
              have Q2 := Lib.hid (fun n => (J.out n).2.1)
              have Q3 := Lib.hid (fun n => (J.out n).2.2.1)
              have Q4 := Lib.hid (fun n => (J.out n).2.2.2)
              clear J
              clear hw
              go_wp2_with fail
              go_quiet ((go_at_call 19; with_reducible first | exact Calls.quiet_of_same (Q1.out _) | exact Calls.quiet_of_same (Q2.out _) | exact Calls.quiet_of_same (Q3.out _) | exact Calls.quiet_of_same (Q4.out _)))
              have HB9 := Lib.hid (below_drewN HBA.out nq)
              go_wp2_with (first
                | (go_at_call 20; with_reducible refine (HC1.out _).mono ?_; rintro e w' ⟨rfl, rfl⟩)
                | (go_at_call 20; with_reducible refine (HC2.out _).mono ?_; rintro e w' ⟨rfl, rfl⟩))
              go_wp2_with fail
              refine And.intro ?_ ?_
              · exact ⟨k + 1, rfl, by omega, HB9⟩
              · simp only [intOf]; omega
      | false =>
        cases vb with
        | true =>
          have hne : ¬ xp.toList = q.toList := fun h => by
            have h2 := hnp (ByteArray.ext (Array.ext' (by rw [← Lib.toList_data, ← Lib.toList_data]; exact h)))
            simp at h2
          have hne2 : (xp.toList == q.toList) = false := by simpa using hne
          clear hpq hnp hne
          by_cases hw : xw = who
          · subst hw
            rcases hmo with rfl | rfl
            · have r3 : (true && (false || true) && decide (xw ≠ xw) && !SE.together 1 2) = false := by simp [SE.together]
              have r4 : (true && (false || true) && decide (xw ≠ xw) && !SE.together 1 1) = false := by simp [SE.together]
              rw [r3, r4] at J
              clear r3 r4
              have Q1 := Lib.hid (fun n => (J.out n).1)
              have Q2 := Lib.hid (fun n => (J.out n).2.1)
              have Q3 := Lib.hid (fun n => (J.out n).2.2.1)
              have Q4 := Lib.hid (fun n => (J.out n).2.2.2)
              clear J
              go_wp2_with fail
              go_quiet ((go_at_call 19; with_reducible first | exact Calls.quiet_of_same (Q1.out _) | exact Calls.quiet_of_same (Q2.out _) | exact Calls.quiet_of_same (Q3.out _) | exact Calls.quiet_of_same (Q4.out _)))
              have HB9 := Lib.hid (below_drewN HBA.out nq)
              go_wp2_with (first
                | (go_at_call 20; with_reducible refine (HC1.out _).mono ?_; rintro e w' ⟨rfl, rfl⟩)
                | (go_at_call 20; with_reducible refine (HC2.out _).mono ?_; rintro e w' ⟨rfl, rfl⟩))
              go_wp2_with fail
              refine And.intro ?_ ?_
              · exact ⟨k + 1, rfl, by omega, HB9⟩
              · simp only [intOf]; omega
            · have r3 : (true && (false || true) && decide (xw ≠ xw) && !SE.together 2 2) = false := by simp [SE.together]
              have r4 : (true && (false || true) && decide (xw ≠ xw) && !SE.together 2 1) = false := by simp [SE.together]
              rw [r3, r4] at J
              clear r3 r4
              have Q1 := Lib.hid (fun n => (J.out n).1)
              have Q2 := Lib.hid (fun n => (J.out n).2.1)
              have Q3 := Lib.hid (fun n => (J.out n).2.2.1)
              have Q4 := Lib.hid (fun n => (J.out n).2.2.2)
              clear J
              go_wp2_with fail
              go_quiet ((go_at_call 19; with_reducible first | exact Calls.quiet_of_same (Q1.out _) | exact Calls.quiet_of_same (Q2.out _) | exact Calls.quiet_of_same (Q3.out _) | exact Calls.quiet_of_same (Q4.out _)))
              have HB9 := Lib.hid (below_drewN HBA.out nq)
              go_wp2_with (first
                | (go_at_call 20; with_reducible refine (HC1.out _).mono ?_; rintro e w' ⟨rfl, rfl⟩)
                | (go_at_call 20; with_reducible refine (HC2.out _).mono ?_; rintro e w' ⟨rfl, rfl⟩))
              go_wp2_with fail
              refine And.intro ?_ ?_
              · exact ⟨k + 1, rfl, by omega, HB9⟩
              · simp only [intOf]; omega
          · have dw : (xw != who) = true := by simpa using hw
            rcases hmo with rfl | rfl
            · have r3 : (true && (false || true) && decide (xw ≠ who) && !SE.together 1 2) = true := by simp [SE.together, hw]
              have r4 : (true && (false || true) && decide (xw ≠ who) && !SE.together 1 1) = false := by simp [SE.together, hw]
              rw [r3, r4] at J
              clear r3 r4
              have Q1 := Lib.hid (fun n => (J.out n).1)
              have Q2 := Lib.hid (fun n => (J.out n).2.1)
              have Q3 := Lib.hid (fun n => (J.out n).2.2.1)
              have Q4 := Lib.hid (fun n => (J.out n).2.2.2)
              clear J
              clear hw
              go_wp2_with fail
              go_quiet ((go_at_call 19; with_reducible first | exact Calls.quiet_of_same (Q1.out _) | exact Calls.quiet_of_same (Q2.out _) | exact Calls.quiet_of_same (Q3.out _) | exact Calls.quiet_of_same (Q4.out _)))
              have HB9 := Lib.hid (below_drewN HBA.out nq)
              go_wp2_with (first
                | (go_at_call 20; with_reducible refine (HC1.out _).mono ?_; rintro e w' ⟨rfl, rfl⟩)
                | (go_at_call 20; with_reducible refine (HC2.out _).mono ?_; rintro e w' ⟨rfl, rfl⟩))
              go_wp2_with fail
              refine And.intro ?_ ?_
              · exact ⟨k + 1, rfl, by omega, HB9⟩
              · simp only [intOf]; omega
            · have r3 : (true && (false || true) && decide (xw ≠ who) && !SE.together 2 2) = true := by simp [SE.together, hw]
              have r4 : (true && (false || true) && decide (xw ≠ who) && !SE.together 2 1) = true := by simp [SE.together, hw]
              rw [r3, r4] at J
              clear r3 r4
              have Q1 := Lib.hid (fun n => (J.out n).1)
              have Q2 := Lib.hid (fun n => (J.out n).2.1)
              have Q3 := Lib.hid (fun n => (J.out n).2.2.1)
              have Q4 := Lib.hid (fun n => (J.out n).2.2.2)
              clear J
              clear hw
              go_wp2_with fail
              go_quiet ((go_at_call 19; with_reducible first | exact Calls.quiet_of_same (Q1.out _) | exact Calls.quiet_of_same (Q2.out _) | exact Calls.quiet_of_same (Q3.out _) | exact Calls.quiet_of_same (Q4.out _)))
              have HB9 := Lib.hid (below_drewN HBA.out nq)
              go_wp2_with (first
                | (go_at_call 20; with_reducible refine (HC1.out _).mono ?_; rintro e w' ⟨rfl, rfl⟩)
                | (go_at_call 20; with_reducible refine (HC2.out _).mono ?_; rintro e w' ⟨rfl, rfl⟩))
              go_wp2_with fail
              refine And.intro ?_ ?_
              · exact ⟨k + 1, rfl, by omega, HB9⟩
              · simp only [intOf]; omega
        | false =>
          have hne : ¬ xp.toList = q.toList := fun h => by
            have h2 := hnp (ByteArray.ext (Array.ext' (by rw [← Lib.toList_data, ← Lib.toList_data]; exact h)))
            simp at h2
          have hne2 : (xp.toList == q.toList) = false := by simpa using hne
          clear hpq hnp hne
          by_cases hw : xw = who
          · subst hw
            rcases hmo with rfl | rfl
            · have r3 : (true && (false || false) && decide (xw ≠ xw) && !SE.together 1 2) = false := by simp [SE.together]
              have r4 : (true && (false || false) && decide (xw ≠ xw) && !SE.together 1 1) = false := by simp [SE.together]
              rw [r3, r4] at J
              clear r3 r4
              have Q1 := Lib.hid (fun n => (J.out n).1)
              have Q2 := Lib.hid (fun n => (J.out n).2.1)
              have Q3 := Lib.hid (fun n => (J.out n).2.2.1)
              have Q4 := Lib.hid (fun n => (J.out n).2.2.2)
              clear J
              go_wp2_with fail
              go_quiet ((go_at_call 19; with_reducible first | exact Calls.quiet_of_same (Q1.out _) | exact Calls.quiet_of_same (Q2.out _) | exact Calls.quiet_of_same (Q3.out _) | exact Calls.quiet_of_same (Q4.out _)))
              have HB9 := Lib.hid (below_drewN HBA.out nq)
              go_wp2_with (first
                | (go_at_call 20; with_reducible refine (HC1.out _).mono ?_; rintro e w' ⟨rfl, rfl⟩)
                | (go_at_call 20; with_reducible refine (HC2.out _).mono ?_; rintro e w' ⟨rfl, rfl⟩))
              go_wp2_with fail
              refine And.intro ?_ ?_
              · exact ⟨k + 1, rfl, by omega, HB9⟩
              · simp only [intOf]; omega
            · have r3 : (true && (false || false) && decide (xw ≠ xw) && !SE.together 2 2) = false := by simp [SE.together]
              have r4 : (true && (false || false) && decide (xw ≠ xw) && !SE.together 2 1) = false := by simp [SE.together]
              rw [r3, r4] at J
              clear r3 r4
              have Q1 := Lib.hid (fun n => (J.out n).1)
              have Q2 := Lib.hid (fun n => (J.out n).2.1)
              have Q3 := Lib.hid (fun n => (J.out n).2.2.1)
              have Q4 := Lib.hid (fun n => (J.out n).2.2.2)
              clear J
              go_wp2_with fail
              go_quiet ((go_at_call 19; with_reducible first | exact Calls.quiet_of_same (Q1.out _) | exact Calls.quiet_of_same (Q2.out _) | exact Calls.quiet_of_same (Q3.out _) | exact Calls.quiet_of_same (Q4.out _)))
              have HB9 := Lib.hid (below_drewN HBA.out nq)
              go_wp2_with (first
                | (go_at_call 20; with_reducible refine (HC1.out _).mono ?_; rintro e w' ⟨rfl, rfl⟩)
                | (go_at_call 20; with_reducible refine (HC2.out _).mono ?_; rintro e w' ⟨rfl, rfl⟩))
              go_wp2_with fail
              refine And.intro ?_ ?_
              · exact ⟨k + 1, rfl, by omega, HB9⟩
              · simp only [intOf]; omega
          · have dw : (xw != who) = true := by simpa using hw
            rcases hmo with rfl | rfl
            · have r3 : (true && (false || false) && decide (xw ≠ who) && !SE.together 1 2) = false := by simp [SE.together, hw]
              have r4 : (true && (false || false) && decide (xw ≠ who) && !SE.together 1 1) = false := by simp [SE.together, hw]
              rw [r3, r4] at J
              clear r3 r4
              have Q1 := Lib.hid (fun n => (J.out n).1)
              have Q2 := Lib.hid (fun n => (J.out n).2.1)
              have Q3 := Lib.hid (fun n => (J.out n).2.2.1)
              have Q4 := Lib.hid (fun n => (J.out n).2.2.2)
              clear J
              clear hw
              go_wp2_with fail
              go_quiet ((go_at_call 19; with_reducible first | exact Calls.quiet_of_same (Q1.out _) | exact Calls.quiet_of_same (Q2.out _) | exact Calls.quiet_of_same (Q3.out _) | exact Calls.quiet_of_same (Q4.out _)))
              have HB9 := Lib.hid (below_drewN HBA.out nq)
              go_wp2_with (first
                | (go_at_call 20; with_reducible refine (HC1.out _).mono ?_; rintro e w' ⟨rfl, rfl⟩)
                | (go_at_call 20; with_reducible refine (HC2.out _).mono ?_; rintro e w' ⟨rfl, rfl⟩))
              go_wp2_with fail
              refine And.intro ?_ ?_
              · exact ⟨k + 1, rfl, by omega, HB9⟩
              · simp only [intOf]; omega
            · have r3 : (true && (false || false) && decide (xw ≠ who) && !SE.together 2 2) = false := by simp [SE.together, hw]
              have r4 : (true && (false || false) && decide (xw ≠ who) && !SE.together 2 1) = false := by simp [SE.together, hw]
              rw [r3, r4] at J
              clear r3 r4
              have Q1 := Lib.hid (fun n => (J.out n).1)
              have Q2 := Lib.hid (fun n => (J.out n).2.1)
              have Q3 := Lib.hid (fun n => (J.out n).2.2.1)
              have Q4 := Lib.hid (fun n => (J.out n).2.2.2)
              clear J
              clear hw
              go_wp2_with fail
              go_quiet ((go_at_call 19; with_reducible first | exact Calls.quiet_of_same (Q1.out _) | exact Calls.quiet_of_same (Q2.out _) | exact Calls.quiet_of_same (Q3.out _) | exact Calls.quiet_of_same (Q4.out _)))
              have HB9 := Lib.hid (below_drewN HBA.out nq)
              go_wp2_with (first
                | (go_at_call 20; with_reducible refine (HC1.out _).mono ?_; rintro e w' ⟨rfl, rfl⟩)
                | (go_at_call 20; with_reducible refine (HC2.out _).mono ?_; rintro e w' ⟨rfl, rfl⟩))
              go_wp2_with fail
              refine And.intro ?_ ?_
              · exact ⟨k + 1, rfl, by omega, HB9⟩
              · simp only [intOf]; omega
    · have hlk : ¬ k < L.length := hlt
      go_wp2_with fail
      have HM := Lib.hid (HM.out.below HB.out); clear HB
      have k1 := HM.out.clash q 0 who hq
      rw [E5.out] at k1
      refine k1.mono ?_
      clear k1
      rintro x w8 ⟨A8, c8, rfl, _, _, _, HM, _⟩
      go_wp2_with fail
      have k1 := HM.out.clash q 3 who hq
      rw [E6.out] at k1
      refine k1.mono ?_
      clear k1
      rintro x w9 ⟨A9, c9, rfl, _, _, _, HM, _⟩
      have d1 : decide ((l1.length : Int) ≤ (L.length : Int)) = true := decide_eq_true (by omega)
      have d3 : decide ((l3.length : Int) ≤ (L.length : Int)) = true := decide_eq_true (by omega)
      go_wp2_with fail
      refine (HM.out.len).mono ?_
      rintro x w10 ⟨rfl, HM, _⟩
      go_wp2_with fail
      refine (HM.out.len).mono ?_
      rintro x w11 ⟨rfl, HM, _⟩
      go_wp2_with fail
      have HV := Lib.hid (fun w => Valid_any q w (by omega))
      cases hv : PM.okB q.data.toList with
      | true =>
        rw [hv] at HV
        clear hv
        refine (HV.out _).mono ?_
        rintro x w12 ⟨rfl, rfl⟩
        go_wp2_with fail
        go_ret
        exact ⟨rfl, HM.out.on⟩
      | false =>
        have y1 : l1.length = 0 := by rw [Z1.out hv]; rfl
        have y2 : l2.length = 0 := by rw [Z2.out hv]; rfl
        have y3 : l3.length = 0 := by rw [Z3.out hv]; rfl
        have y4 : l4.length = 0 := by rw [Z4.out hv]; rfl
        rw [y1, y2, y3, y4]
        rw [hv] at HV
        clear hv y1 y2 y3 y4
        refine (HV.out _).mono ?_
        rintro x w12 ⟨rfl, rfl⟩
        go_wp2_with fail
        go_ret
        exact ⟨rfl, HM.out.on⟩
end Go.Proofs.YtbgcjbekbeobnaaDoor.ahead
