/- The walk of AgendaPlays: it answers true, and old memory stands. -/
import Derived.Test.YtkgipdhbaiaaeaaRows
import Derived.Test.YtkgipdhbaiaaeaaAgSt
import Derived.Test.YtkgipdhbaiaaeaaAgR2
import Derived.Test.YtkgipdhbaiaaeaaAgR3
import Derived.Test.YtkgipdhbaiaaeaaAgArg
import Derived.Test.YtkgipdhbaiaaeaaLawBare
import Derived.JoinedCond
import Derived.OpenShut
import Derived.Deep.CutBlock
namespace Go.Proofs.Ytkgipdhbaiaaeaa.lawAgendaPlays
open Go Go.RowKit Go.ChangeShapes Go.WideShapes Go.ChangeAt
set_option linter.unusedVariables false
set_option linter.unusedSimpArgs false
open AM (It HS g sw)
/-- The state between two calls: the agenda and the list hold the same. -/
def Nx (w1 : World) (b : Nat) (v : Value) (w : World) : Prop := ∃ L, Hid (St2 w1 w b L v L)
theorem grew_st {w1 w w' : World} {b : Nat} {M L L' : List It} {v v' : Value} (h : St2 w1 w b M v L) (hg : GrewI w L' v' w') : St2 w1 w' b M v' L' := ⟨h.st.on hg.2, own_base hg.1 h.st.below.size⟩
theorem list_of_st {w1 w : World} {b n c : Nat} {M L : List It} {A : Option Addr} (h : St2 w1 w b M (.slice A n c) L) (hn : L.length = n) : ItsAt w A L := ItsAt.own (by have h2 := h.row; rw [hn] at h2; exact h2)
theorem key_one {L : List It} (hg : AM.Good L) {x : It} {i : Nat} (hx : x ∈ L) (hi : i < L.length) (hk : AM.hit x.kind x.key (g L i) = true) : x = g L i := by
  obtain ⟨e1, e2⟩ := AM.hit_iff.1 hk
  have hp := hg.keys
  apply Decidable.byContradiction
  intro hne
  obtain ⟨a, ha, rfl⟩ := List.getElem_of_mem hx
  rw [← g_eq hi] at hne e1 e2
  have hab : a ≠ i := fun e2 => hne (by subst e2; rfl)
  rw [List.pairwise_iff_getElem] at hp
  rcases Nat.lt_or_gt_of_ne hab with h1 | h1
  · exact hp a i ha hi h1 ⟨e1.symm, e2.symm⟩
  · exact hp i a hi ha h1 ⟨e1, e2⟩
set_option maxRecDepth 100000 in
set_option maxHeartbeats 16000000 in
theorem walk (A : Option Addr) (c : Nat) (os : List Op) (w : World) (hO : OpsAt w A os) (hc : os.length ≤ c) (hm : c * 32 ≤ 140737488351232) (hb0 : ∀ o ∈ os, In64 o.kind ∧ ItW o.x) : Calls Try.prog 4 #[.slice A os.length c] w (LK.True_ w) := by
  obtain ⟨n, hn⟩ : ∃ n, os.length = n := ⟨_, rfl⟩
  have HN := Lib.hid hn
  rw [hn] at hc ⊢
  have HO := Lib.hid hO
  have HW := Lib.hid hb0
  have hn9 : n ≤ 4398046510976 := by omega
  clear hO hn hb0
  go_enter Try.func4, Try.ntmps4
  go_wp2_with fail
  refine (awake_any w).mono ?_
  rintro e w1 ⟨rfl, hb⟩
  have HB1 := Lib.hid hb
  clear hb
  go_wp2_with fail
  refine (New_any w1).mono ?_
  rintro e w2 ⟨rfl, e2⟩
  have HS := Lib.hid (show St2 w1 w2 w1.heap.size [] (.slice none 0 0) [] from ⟨by rw [e2]; exact St1.start w1, World.ownsRow_nil _ _ _ _⟩)
  obtain ⟨b, hbb⟩ : ∃ b, w1.heap.size = b := ⟨_, rfl⟩
  rw [hbb] at HS ⊢
  clear e2 hbb
  go_wp2_with fail
  go_loopw [4, 28] (fun lv i wx => ∃ k : Nat, i = .int .i64 (k : Int) ∧ k ≤ n ∧ Nx w1 b lv wx) (fun lv i _ => n - (intOf i).toNat)
  case atStart => exact ⟨0, rfl, Nat.zero_le _, [], HS⟩
  case round =>
    obtain ⟨k, rfl, hk, L, HS⟩ := hrel
    obtain ⟨LA, lc, hlv, _, _⟩ := own_shapeI HS.out.row
    subst hlv
    obtain ⟨m, hm1⟩ : ∃ m, L.length = m := ⟨_, rfl⟩
    have HM := Lib.hid hm1
    have hm32 : m ≤ 32 := by rw [← hm1]; exact HS.out.st.ag.good.le
    rw [hm1] at HS ⊢
    clear hm1
    by_cases hlt : k < n
    · have hw : IntKind.i64.wrap ((k : Int) + 1) = (k : Int) + 1 := IntWalk.i64_in _ (by omega)
      have d1 : (k : Int) < (n : Int) := by omega
      have d2 : (0 : Int) ≤ (k : Int) := by omega
      obtain ⟨bo, oo, hA, hbo, hxs⟩ := HO.out (by have := HN.out; omega)
      subst hA
      have hko : k < os.length := by rw [HN.out]; exact hlt
      obtain ⟨t0, t1, t2, t3⟩ := hxs k (os[k]'hko) (List.getElem?_eq_getElem hko)
      have hbb := below_on HB1.out HS.out.st.below
      have a0 := (hbb.cell (p := ⟨bo, oo + k * 4, none⟩) hbo).trans t0
      have a1 := (hbb.cell (p := ⟨bo, oo + k * 4 + 1, none⟩) hbo).trans t1
      have a2 := (hbb.cell (p := ⟨bo, oo + k * 4 + 2, none⟩) hbo).trans t2
      have a3 := (hbb.cell (p := ⟨bo, oo + k * 4 + 3, none⟩) hbo).trans t3
      clear hxs t0 t1 t2 t3 hbb hbo
      generalize os[k]'hko = o at a0 a1 a2 a3
      clear hko
      obtain ⟨kd, x⟩ := o
      simp only [] at a0 a1 a2 a3
      have HS3 := Lib.hid (HS.out.on ((Below.refl _ wr).alloc (Nat.le_refl _) (.cells #[.int .i64 kd, .int .i64 x.due, .int .i64 x.kind, .int .i64 x.key] 34)))
      have HOW := Lib.hid (Whole.new wr 34 #[.int .i64 kd, .int .i64 x.due, .int .i64 x.kind, .int .i64 x.key])
      go_upto_region 9 with (fail)
      clear a0 a1 a2 a3 HS
      generalize wr.heap.size = go at HOW ⊢
      generalize wr.alloc (.cells #[.int .i64 kd, .int .i64 x.due, .int .i64 x.kind, .int .i64 x.key] 34) = w3 at HS3 HOW ⊢
      have o0 : w3.cell? ⟨go, 0, none⟩ = some (.int .i64 kd) := HOW.out.cell 0
      have o1 : w3.cell? ⟨go, 1, none⟩ = some (.int .i64 x.due) := HOW.out.cell 1
      have o2 : w3.cell? ⟨go, 2, none⟩ = some (.int .i64 x.kind) := HOW.out.cell 2
      have o3 : w3.cell? ⟨go, 3, none⟩ = some (.int .i64 x.key) := HOW.out.cell 3
      have HS4 := Lib.hid (HS3.out.on ((Below.refl _ w3).alloc (Nat.le_refl _) (.cells (three x) 29)))
      have HXW := Lib.hid (Whole.new w3 29 (three x))
      have HOW4 := Lib.hid ((Mod.of_below ((Below.refl _ w3).alloc (Nat.le_refl _) (.cells (three x) 29)) []).whole HOW.out (by simp))
      unfold three at HS4 HXW HOW4
      go_upto_region 10 with (fail)
      clear o0 o1 o2 o3 HS3 HOW
      generalize w3.heap.size = gx at HXW ⊢
      generalize w3.alloc (.cells #[.int .i64 x.due, .int .i64 x.kind, .int .i64 x.key] 29) = w4 at HS4 HXW HOW4 ⊢
      have HX4 : Hid (Whole w4 gx 29 (three x)) := HXW
      clear HXW
      have o0 : w4.cell? ⟨go, 0, none⟩ = some (.int .i64 kd) := HOW4.out.cell 0
      obtain ⟨c0, c1, c2⟩ := three_cells HX4.out
      go_upto_block 2 with (fail)
      clear HOW4
      go_cut [4, 7, 9, 10, 11, 12, 13, 14, 15, 16, 17, 18, 19, 20, 21, 22] (fun t4 s7 t9 t10 t11 t12 t13 t14 t15 t16 t17 t18 t19 t20 t21 t22 wx => s7 = .bool true ∧ Nx w1 b t4 wx)
      case first =>
        by_cases n1 : kd = 1
        · subst n1
          as_aux_lemma =>
            go_wp2_with fail
            have HC := Lib.hid (RDrop (c := lc) x.kind x.key (list_of_st HS4.out HM.out) HM.out (by omega))
            refine HC.out.mono ?_
            rintro e w5 ⟨v5, rfl, hg⟩
            have HS5 := Lib.hid (grew_st HS4.out hg)
            have HX5 := Lib.hid ((Mod.of_below hg.2 []).whole HX4.out (by simp))
            clear hg HS4 HX4 c0 c1 c2 o0
            obtain ⟨c0, c1, c2⟩ := three_cells HX5.out
            go_wp2_with fail
            refine (Drop_any HS5.out.st.ag x.kind x.key).mono ?_
            rintro e w6 ⟨rfl, ha, hm6⟩
            have HS6 := Lib.hid (HS5.out.put ha hm6)
            clear ha hm6 HS5 HX5 c0 c1 c2
            generalize AM.has L x.kind x.key = hs
            go_wp2_with fail
            go_meet
            exact ⟨rfl, _, HS6⟩
        · by_cases n2 : kd = 2
          · subst n2
            as_aux_lemma =>
              go_wp2_with fail
              refine (Get_any HS4.out.st.ag x.kind x.key).mono ?_
              rintro e w5 ⟨hb5, hg⟩
              have HS5 := Lib.hid (HS4.out.on hb5)
              have HX5 := Lib.hid ((Mod.of_below hb5 []).whole HX4.out (by simp))
              clear hb5 HS4 HX4 c0 c1 c2 o0
              rcases hg with ⟨hn, rfl⟩ | ⟨y, hy, hy1, hy2, rfl⟩
              · have HF := Lib.hid (AM.has_false.1 hn)
                clear hn
                have HS6 := Lib.hid (HS5.out.on ((Below.refl _ w5).alloc (Nat.le_refl _) (.cells (three itz) 29)))
                have HG6 := Lib.hid (Whole.new w5 29 (three itz))
                have HX6 := Lib.hid ((Mod.of_below ((Below.refl _ w5).alloc (Nat.le_refl _) (.cells (three itz) 29)) []).whole HX5.out (by simp))
                obtain ⟨c0, c1, c2⟩ := three_cells HX6.out
                unfold tup agg itz
                unfold three itz at HS6 HG6 c0 c1 c2
                go_wp2_with fail
                clear HS5 HX5
                generalize w5.heap.size = gg at HG6 ⊢
                generalize w5.alloc (.cells #[.int .i64 0, .int .i64 0, .int .i64 0] 29) = w6 at HS6 HG6 HX6 c0 c1 c2 ⊢
                have HG6' : Hid (Whole w6 gg 29 (three itz)) := HG6
                clear HG6
                have HG6 := HG6'
                clear HG6'
                refine (RFind x.kind x.key (list_of_st HS6.out HM.out) HM.out (by omega)).mono ?_
                rintro e w7 ⟨hp, e7⟩
                obtain rfl := e7.symm
                clear e7
                rcases hp with ⟨i, hi, hh, _⟩ | ⟨_, rfl⟩
                · exact absurd (AM.hit_iff.1 hh) (HF.out _ (AM.g_mem (by rw [HM.out]; exact hi)))
                · obtain ⟨g0, g1, g2⟩ := three_cells HG6.out
                  simp only [itz] at g0 g1 g2
                  clear HX6 c0 c1 c2
                  go_wp2_with fail
                  go_quiet (fail)
                  have HS8 := Lib.hid (HS6.out.on (drewN_below w6 nq))
                  clear g0 g1 g2 HG6 HS6
                  generalize w6.drewN nq = w8 at HS8 ⊢
                  go_wp2_with fail
                  go_meet
                  exact ⟨rfl, _, HS8⟩
              · have HY := Lib.hid (And.intro hy (And.intro hy1 hy2))
                clear hy hy1 hy2
                have HS6 := Lib.hid (HS5.out.on ((Below.refl _ w5).alloc (Nat.le_refl _) (.cells (three y) 29)))
                have HG6 := Lib.hid (Whole.new w5 29 (three y))
                have HX6 := Lib.hid ((Mod.of_below ((Below.refl _ w5).alloc (Nat.le_refl _) (.cells (three y) 29)) []).whole HX5.out (by simp))
                obtain ⟨c0, c1, c2⟩ := three_cells HX6.out
                unfold tup agg
                unfold three at HS6 HG6 c0 c1 c2
                go_wp2_with fail
                clear HS5 HX5
                generalize w5.heap.size = gg at HG6 ⊢
                generalize w5.alloc (.cells #[.int .i64 y.due, .int .i64 y.kind, .int .i64 y.key] 29) = w6 at HS6 HG6 HX6 c0 c1 c2 ⊢
                have HG6' : Hid (Whole w6 gg 29 (three y)) := HG6
                clear HG6
                have HG6 := HG6'
                clear HG6'
                refine (RFind x.kind x.key (list_of_st HS6.out HM.out) HM.out (by omega)).mono ?_
                rintro e w7 ⟨hp, e7⟩
                obtain rfl := e7.symm
                clear e7
                rcases hp with ⟨i, hi, hh, rfl⟩ | ⟨hh, _⟩
                · have he : y = g L i := key_one HS6.out.st.ag.good HY.out.1 (by rw [HM.out]; exact hi) (by rw [HY.out.2.1, HY.out.2.2]; exact hh)
                  obtain ⟨g0, g1, g2⟩ := three_cells HG6.out
                  obtain ⟨lb2, lo2, hLA, hb9, l0, l1, l2⟩ := (list_of_st HS6.out HM.out).at (k := i) (by rw [HM.out]; exact hi)
                  subst hLA
                  rw [← he] at l0 l1 l2
                  clear hh he HX6 c0 c1 c2
                  have i0 : ((0 : Int) ≤ (i : Int)) := by omega
                  have i1 : ((i : Int) < (m : Int)) := by omega
                  have i2 : decide ((i : Int) < 0) = false := decide_eq_false (by omega)
                  have i3 : decide ((0 : Int) ≤ (i : Int)) = true := decide_eq_true (by omega)
                  go_wp2_with fail
                  go_quiet (fail)
                  have HS8 := Lib.hid (HS6.out.on (drewN_below w6 nq))
                  clear g0 g1 g2 l0 l1 l2 HG6 HS6 hb9
                  generalize w6.drewN nq = w8 at HS8 ⊢
                  go_wp2_with fail
                  go_meet
                  exact ⟨rfl, _, HS8⟩
                · obtain ⟨i, hi, e⟩ := List.getElem_of_mem HY.out.1
                  have := hh i (by rw [← HM.out]; exact hi)
                  rw [← g_eq hi, e] at this
                  rw [AM.hit_iff.2 ⟨HY.out.2.1, HY.out.2.2⟩] at this
                  cases this
          · by_cases n3 : kd = 3
            · subst n3
              as_aux_lemma =>
                go_wp2_with fail
                refine (First_any HS4.out.st.ag).mono ?_
                rintro e w5 ⟨hb5, hg⟩
                have HS5 := Lib.hid (HS4.out.on hb5)
                clear hb5 HS4 HX4 c0 c1 c2 o0
                cases L with
                | nil =>
                  have hg2 : e = .returned (tup itz false) := hg
                  subst hg2
                  have h0 : m = 0 := HM.out.symm
                  subst h0
                  clear hg
                  have HS6 := Lib.hid (HS5.out.on ((Below.refl _ w5).alloc (Nat.le_refl _) (.cells (three itz) 29)))
                  have HG6 := Lib.hid (Whole.new w5 29 (three itz))
                  unfold tup agg itz
                  unfold three itz at HS6 HG6
                  go_wp2_with fail
                  clear HS5
                  generalize w5.heap.size = gg at HG6 ⊢
                  generalize w5.alloc (.cells #[.int .i64 0, .int .i64 0, .int .i64 0] 29) = w6 at HS6 HG6 ⊢
                  have HG6' : Hid (Whole w6 gg 29 (three itz)) := HG6
                  clear HG6
                  have HG6 := HG6'
                  clear HG6'
                  obtain ⟨g0, g1, g2⟩ := three_cells HG6.out
                  simp only [itz] at g0 g1 g2
                  go_quiet (fail)
                  have HS8 := Lib.hid (HS6.out.on (drewN_below w6 nq))
                  clear g0 g1 g2 HG6 HS6
                  generalize w6.drewN nq = w8 at HS8 ⊢
                  go_wp2_with fail
                  go_meet
                  exact ⟨rfl, _, HS8⟩
                | cons y r =>
                  have hg2 : e = .returned (tup y true) := hg
                  subst hg2
                  clear hg
                  have hm0 : 0 < m := by have := HM.out; simp at this; omega
                  have hm1 : (0 : Int) < (m : Int) := by omega
                  have hm2 : ((m : Int) == 0) = false := by rw [beq_eq_false_iff_ne]; omega
                  have HS6 := Lib.hid (HS5.out.on ((Below.refl _ w5).alloc (Nat.le_refl _) (.cells (three y) 29)))
                  have HG6 := Lib.hid (Whole.new w5 29 (three y))
                  unfold tup agg
                  unfold three at HS6 HG6
                  go_wp2_with fail
                  clear HS5
                  generalize w5.heap.size = gg at HG6 ⊢
                  generalize w5.alloc (.cells #[.int .i64 y.due, .int .i64 y.kind, .int .i64 y.key] 29) = w6 at HS6 HG6 ⊢
                  have HG6' : Hid (Whole w6 gg 29 (three y)) := HG6
                  clear HG6
                  have HG6 := HG6'
                  clear HG6'
                  obtain ⟨g0, g1, g2⟩ := three_cells HG6.out
                  obtain ⟨lb2, lo2, hLA, hb9, l0, l1, l2⟩ := (list_of_st HS6.out HM.out).at (k := 0) (by simp)
                  subst hLA
                  have l0' : w6.cell? ⟨lb2, lo2, none⟩ = some (.int .i64 y.due) := l0
                  have l1' : w6.cell? ⟨lb2, lo2 + 1, none⟩ = some (.int .i64 y.kind) := l1
                  have l2' : w6.cell? ⟨lb2, lo2 + 2, none⟩ = some (.int .i64 y.key) := l2
                  clear l0 l1 l2
                  go_quiet (fail)
                  have HS8 := Lib.hid (HS6.out.on (drewN_below w6 nq))
                  clear g0 g1 g2 l0' l1' l2' HG6 HS6 hb9
                  generalize w6.drewN nq = w8 at HS8 ⊢
                  go_wp2_with fail
                  go_meet
                  exact ⟨rfl, _, HS8⟩
            · by_cases n4 : kd = 4
              · subst n4
                as_aux_lemma =>
                  go_wp2_with fail
                  refine (RTake x.due (list_of_st HS4.out HM.out) HM.out hm32 HS4.out.st.ag.good).mono ?_
                  rintro e w5 ⟨v5, rfl, hb5, hv5⟩
                  have HS5 := Lib.hid (show St2 w1 w5 b L v5 (tkL L x.due) from ⟨HS4.out.st.on hb5, by
                    rcases hv5 with ⟨rfl, e⟩ | h
                    · rw [e, HM.out]
                      have h2 := (Mod.of_below hb5 []).own HS4.out.row (by simp)
                      rw [HM.out] at h2
                      exact h2
                    · exact own_base h HS4.out.st.below.size⟩)
                  have HX5 := Lib.hid ((Mod.of_below hb5 []).whole HX4.out (by simp))
                  have HTV := Lib.hid (tkV_eq L x.due)
                  clear hb5 hv5 HS4 HX4 c0 c1 c2 o0
                  generalize tkI L x.due = y at HTV ⊢
                  generalize tkB L x.due = yb at HTV ⊢
                  have HS6 := Lib.hid (HS5.out.on ((Below.refl _ w5).alloc (Nat.le_refl _) (.cells (three y) 29)))
                  have HG6 := Lib.hid (Whole.new w5 29 (three y))
                  have HX6 := Lib.hid ((Mod.of_below ((Below.refl _ w5).alloc (Nat.le_refl _) (.cells (three y) 29)) []).whole HX5.out (by simp))
                  obtain ⟨c0, c1, c2⟩ := three_cells HX6.out
                  unfold agg
                  unfold three at HS6 HG6 c0 c1 c2
                  go_wp2_with fail
                  clear HS5 HX5 c0 c1 c2
                  generalize w5.heap.size = gg at HG6 ⊢
                  generalize w5.alloc (.cells #[.int .i64 y.due, .int .i64 y.kind, .int .i64 y.key] 29) = w6 at HS6 HG6 HX6 ⊢
                  have HG6' : Hid (Whole w6 gg 29 (three y)) := HG6
                  clear HG6
                  refine (Take_any HS6.out.st.ag x.due).mono ?_
                  rintro e w7 ⟨rfl, ha, hm7⟩
                  rw [HTV.out]
                  have HS7 := Lib.hid ((HS6.out.put ha hm7).on ((Below.refl _ w7).alloc (Nat.le_refl _) (.cells (three y) 29)))
                  have HG7 := Lib.hid ((Mod.of_below ((Below.refl _ w7).alloc (Nat.le_refl _) (.cells (three y) 29)) []).whole (hm7.whole HG6'.out (by simpa using HS6.out.st.ag.ne HG6'.out)) (by simp))
                  have HT7 := Lib.hid (Whole.new w7 29 (three y))
                  clear ha hm7 HS6 HX6 HG6'
                  obtain ⟨g0, g1, g2⟩ := three_cells HG7.out
                  obtain ⟨h0, h1, h2⟩ := three_cells HT7.out
                  unfold tup agg
                  unfold three at HS7 g0 g1 g2 h0 h1 h2
                  go_wp2_with fail
                  clear g0 g1 g2 h0 h1 h2 HG7 HT7
                  generalize w7.alloc (.cells #[.int .i64 y.due, .int .i64 y.kind, .int .i64 y.key] 29) = w8 at HS7 ⊢
                  go_meet
                  exact ⟨rfl, _, HS7⟩
              · by_cases n5 : kd = 5
                · subst n5
                  as_aux_lemma =>
                    go_wp2_with fail
                    refine (List_any HS4.out.st.ag).mono ?_
                    rintro e w5 ⟨v1, rfl, ho1, hb1⟩
                    obtain ⟨A1, c1', hv1, _, _⟩ := own_shapeI ho1
                    subst hv1
                    have HS5 := Lib.hid (HS4.out.on hb1)
                    have HI1 := Lib.hid (ItsAt.own ho1)
                    have HI2 := Lib.hid (list_of_st HS5.out HM.out)
                    rw [HM.out]
                    clear ho1 hb1 HS4 HX4 c0 c1 c2 o0
                    go_wp2_with fail
                    refine (RSame HI1.out HI2.out HM.out HM.out (by omega)).mono ?_
                    rintro e w6 ⟨he, hb6⟩
                    have he2 : e = .returned (.bool true) := by rw [he, decide_eq_true rfl]
                    subst he2
                    have HS6 := Lib.hid (HS5.out.on hb6)
                    clear he hb6 HI1 HI2 HS5
                    go_wp2_with fail
                    go_meet
                    exact ⟨rfl, L, HS6⟩
                · have q1 : (kd == 1) = false := by rw [beq_eq_false_iff_ne]; exact n1
                  have q2 : (kd == 2) = false := by rw [beq_eq_false_iff_ne]; exact n2
                  have q3 : (kd == 3) = false := by rw [beq_eq_false_iff_ne]; exact n3
                  have q4 : (kd == 4) = false := by rw [beq_eq_false_iff_ne]; exact n4
                  have q5 : (kd == 5) = false := by rw [beq_eq_false_iff_ne]; exact n5
                  as_aux_lemma =>
                    go_wp2_with fail
                    have HC := Lib.hid (RPut x (list_of_st HS4.out HM.out) HM.out hm32 (c := lc))
                    unfold agg at HC
                    refine HC.out.mono ?_
                    rintro e w5 ⟨v5, rfl, hb5, hv5⟩
                    have HS5 := Lib.hid (show St2 w1 w5 b L v5 (AM.put L x).1 from ⟨HS4.out.st.on hb5, by
                      rcases hv5 with ⟨rfl, e⟩ | h
                      · rw [e, HM.out]
                        have h2 := (Mod.of_below hb5 []).own HS4.out.row (by simp)
                        rw [HM.out] at h2
                        exact h2
                      · exact own_base h HS4.out.st.below.size⟩)
                    have HX5 := Lib.hid ((Mod.of_below hb5 []).whole HX4.out (by simp))
                    clear hb5 hv5 HS4 HX4 c0 c1 c2 o0 HC
                    obtain ⟨c0, c1, c2⟩ := three_cells HX5.out
                    go_wp2_with fail
                    have HC := Lib.hid (Put_any HS5.out.st.ag x)
                    unfold agg at HC
                    refine HC.out.mono ?_
                    rintro e w6 ⟨rfl, ha, hm6⟩
                    have HS6 := Lib.hid (HS5.out.put ha hm6)
                    clear ha hm6 HS5 HX5 c0 c1 c2 HC
                    generalize (AM.put L x).2 = er at *
                    go_wp2_with fail
                    go_meet
                    exact ⟨rfl, _, HS6⟩
      case rest =>
        obtain ⟨rfl, L2, HS5⟩ := hcut
        obtain ⟨LB, lb, hlv, _, _⟩ := own_shapeI HS5.out.row
        subst hlv
        obtain ⟨m2, hm2⟩ : ∃ m, L2.length = m := ⟨_, rfl⟩
        obtain ⟨hh, k1, k2⟩ := HS5.out.st.ag
        rw [hm2] at HS5 k1 ⊢
        clear k2
        go_wp2_with fail
        refine (Len_any k1).mono ?_
        rintro e w6 ⟨rfl, q, e1⟩
        have hb : Below wc.heap.size wc w6 := by rw [e1]; exact drewN_below wc q
        have HS6 := Lib.hid (HS5.out.on hb)
        clear hb e1 k1 HS5
        go_wp2_with fail
        go_roundw
        case rel => exact ⟨k + 1, rfl, by omega, L2, HS6⟩
        case measure => simp [intOf]; omega
    · have d1 : decide ((k : Int) < (n : Int)) = false := by simp; omega
      go_wp2_with fail
      refine (List_any HS.out.st.ag).mono ?_
      rintro e w4 ⟨v1, rfl, ho1, hb1⟩
      obtain ⟨A1, c1, hv1, _, _⟩ := own_shapeI ho1
      subst hv1
      have HS4 := Lib.hid (HS.out.on hb1)
      have HI1 := Lib.hid (ItsAt.own ho1)
      have HI2 := Lib.hid (list_of_st HS4.out HM.out)
      rw [HM.out]
      clear ho1 hb1 HS
      go_wp2_with fail
      refine (RSame HI1.out HI2.out HM.out HM.out (by omega)).mono ?_
      rintro e w6 ⟨he, hb6⟩
      have he2 : e = .returned (.bool true) := by rw [he, decide_eq_true rfl]
      subst he2
      have HB6 := Lib.hid (below_on HB1.out (below_on HS4.out.st.below hb6))
      clear he hb6
      go_wp2_with fail
      go_ret
      exact ⟨rfl, HB6.out⟩

end Go.Proofs.Ytkgipdhbaiaaeaa.lawAgendaPlays
