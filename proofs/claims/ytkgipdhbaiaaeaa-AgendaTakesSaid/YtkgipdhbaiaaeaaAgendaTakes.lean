/- What is due comes out in order, each once, and what is left is due later; for every list of items and every time. -/
import Derived.Test.YtkgipdhbaiaaeaaRows
import Derived.Test.YtkgipdhbaiaaeaaAgSt
import Derived.Test.YtkgipdhbaiaaeaaAgR3
import Derived.Test.YtkgipdhbaiaaeaaAgArg
import Derived.Test.YtkgipdhbaiaaeaaEach
import Derived.Test.YtkgipdhbaiaaeaaLawBare
import Derived.JoinedCond
import Derived.OpenShut
import Derived.Deep.CutBlock
namespace Go.Proofs.Ytkgipdhbaiaaeaa.lawAgendaTakes
open Go Go.RowKit Go.ChangeShapes Go.WideShapes Go.ChangeAt
set_option linter.unusedVariables false
set_option linter.unusedSimpArgs false
open AM (It HS g sw)
set_option maxRecDepth 100000 in
set_option maxHeartbeats 16000000 in
theorem walk (A : Option Addr) (c : Nat) (xs : List It) (now : Int) (w : World) (hP : ItsAt w A xs) (hc : xs.length ≤ c) (hm : c * 24 ≤ 140737488351232) (hl : ∀ x ∈ xs, ItW x) (hr : -9223372036854775808 ≤ now ∧ now ≤ 9223372036854775807) : Calls Try.prog 5 #[.slice A xs.length c, .int .i64 now] w (LK.True_ w) := by
  obtain ⟨n, hn⟩ : ∃ n, xs.length = n := ⟨_, rfl⟩
  have HN := Lib.hid hn
  rw [hn] at hc ⊢
  have HP := Lib.hid hP
  have hn9 : n ≤ 5864062014806 := by omega
  clear hP hl hn hr
  go_enter Try.func5, Try.ntmps5
  go_wp2_with fail
  refine (awake_any w).mono ?_
  rintro e w1 ⟨rfl, hb⟩
  have HB1 := Lib.hid hb
  have HP1 := Lib.hid (HP.out.below hb)
  clear hb HP
  go_wp2_with fail
  refine (New_any w1).mono ?_
  rintro e w2 ⟨rfl, e2⟩
  have HS := Lib.hid (St1.start w1)
  rw [← e2] at HS
  obtain ⟨b, hbb⟩ : ∃ b, w1.heap.size = b := ⟨_, rfl⟩
  rw [hbb] at HS ⊢
  clear e2 hbb
  go_wp2_with fail
  go_loopw [21] (fun i wx => ∃ (k : Nat) (L : List It), i = .int .i64 (k : Int) ∧ k ≤ n ∧ Hid (St1 w1 wx b L [])) (fun i _ => n - (intOf i).toNat)
  case atStart => exact ⟨0, [], rfl, Nat.zero_le _, HS⟩
  case round =>
    obtain ⟨k, L, rfl, hk, HS⟩ := hrel
    by_cases hlt : k < n
    · have hw : IntKind.i64.wrap ((k : Int) + 1) = (k : Int) + 1 := IntWalk.i64_in _ (by omega)
      have d1 : (k : Int) < (n : Int) := by omega
      have d2 : (0 : Int) ≤ (k : Int) := by omega
      obtain ⟨bb, o, hA, hb, i0, i1, i2⟩ := (HP1.out.below HS.out.below).at (k := k) (by rw [HN.out]; exact hlt)
      subst hA
      have HSX := Lib.hid (HS.out.box (g xs k))
      unfold three at HSX
      go_wp2_with fail
      clear i0 i1 i2
      generalize wr.alloc (.cells #[.int .i64 (g xs k).due, .int .i64 (g xs k).kind, .int .i64 (g xs k).key] 29) = w3 at HSX ⊢
      have HC := Lib.hid (Put_any HSX.out.ag (g xs k))
      unfold agg at HC
      refine HC.out.mono ?_
      rintro e w4 ⟨rfl, ha, hm4⟩
      have HS4 := Lib.hid (HSX.out.put ha hm4)
      clear ha hm4 HSX HC HS
      go_wp2_with fail
      go_roundw
      case rel => exact ⟨k + 1, _, rfl, by omega, Lib.hid ⟨HS4.out.below, HS4.out.ag, by simp, HS4.out.fresh⟩⟩
      case measure => simp [intOf]; omega
    · have d1 : decide ((k : Int) < (n : Int)) = false := by simp; omega
      have HG := Lib.hid HS.out.ag.good
      go_wp2_with fail
      refine (List_any HS.out.ag).mono ?_
      rintro e w3 ⟨v, rfl, ho, hb⟩
      have HS3 := Lib.hid (show St2 w1 w3 b L v L from ⟨HS.out.on hb, own_base ho HS.out.below.size⟩)
      obtain ⟨LA, lc, rfl, hlc0, _⟩ := own_shapeI ho
      clear ho hb HS
      obtain ⟨m, hm1⟩ : ∃ m, L.length = m := ⟨_, rfl⟩
      have HM := Lib.hid hm1
      have hm32 : m ≤ 32 := by rw [← hm1]; exact HG.out.le
      obtain ⟨hh, k1, k2⟩ := HS3.out.st.ag
      rw [hm1] at HS3 k1 hlc0 ⊢
      clear k2 hm1
      go_wp2_with fail
      refine (Len_any k1).mono ?_
      rintro e w4 ⟨rfl, q, e1⟩
      have hb : Below w3.heap.size w3 w4 := by rw [e1]; exact drewN_below w3 q
      have HS4 := Lib.hid (HS3.out.on hb)
      clear hb HS3 k1 e1
      have d2 : decide (32 < (m : Int)) = false := by simp; omega
      go_wp2_with fail
      go_loopw [43] (fun i wx => ∃ jx : Nat, i = .int .i64 (jx : Int) ∧ jx ≤ m ∧ Hid (St2 w1 wx b (L.drop jx) (.slice LA m lc) L)) (fun i _ => m - (intOf i).toNat)
      case atStart => exact ⟨0, rfl, Nat.zero_le _, HS4⟩
      case round =>
        obtain ⟨jx, rfl, hj, HS⟩ := hrel
        by_cases hjm : jx < m
        · have hw : IntKind.i64.wrap ((jx : Int) + 1) = (jx : Int) + 1 := IntWalk.i64_in _ (by omega)
          have d3 : (jx : Int) < (m : Int) := by omega
          have d4 : (0 : Int) ≤ (jx : Int) := by omega
          go_upto_region 16 with (fail)
          go_cut [60] from 46 to 59 (fun b60 wx => b60 = .bool false ∧ Hid (St2 w1 wx b (L.drop jx) (.slice LA m lc) L))
          case first =>
            by_cases hj0 : jx = 0
            · subst hj0
              go_quiet (fail)
              have HSQ := Lib.hid (HS.out.on (drewN_below wr nq))
              generalize wr.drewN nq = wq at HSQ ⊢
              go_wp2_with fail
              go_meet
              exact ⟨rfl, HSQ⟩
            · have g1 : decide ((0 : Int) < (jx : Int)) = true := by simp; omega
              have g2 : (0 : Int) < (jx : Int) := by omega
              have g6 : 0 < jx := by omega
              have g7 : decide (0 < jx) = true := by simp; omega
              have g3 : IntKind.i64.wrap ((jx : Int) - 1) = ((jx - 1 : Nat) : Int) := by rw [IntWalk.i64_in _ (by omega)]; omega
              have g4 : (0 : Int) ≤ ((jx - 1 : Nat) : Int) := by omega
              have g5 : ((jx - 1 : Nat) : Int) < (m : Int) := by omega
              obtain ⟨lg, lo, hLA, hb, i0, i1, i2⟩ := (ItsAt.own (by have h := HS.out.row; rw [HM.out] at h; exact h) : ItsAt wr LA L).at (k := jx) (by rw [HM.out]; exact hjm)
              obtain ⟨lg', lo', hLA', hb', j0, j1, j2⟩ := (ItsAt.own (by have h := HS.out.row; rw [HM.out] at h; exact h) : ItsAt wr LA L).at (k := jx - 1) (by rw [HM.out]; omega)
              subst hLA
              injection hLA' with e
              injection e with e1 e2
              subst e1 e2
              have HBF := Lib.hid (show AM.before (g L (jx - 1)) (g L jx) = true from decide_eq_true (by
                have hs := List.pairwise_iff_getElem.1 HG.out.sorted (jx - 1) jx (by rw [HM.out]; omega) (by rw [HM.out]; exact hjm) (by omega)
                have e1 := AM.g_get (h := L) (i := jx - 1) (by rw [HM.out]; omega)
                have e2 := AM.g_get (h := L) (i := jx) (by rw [HM.out]; exact hjm)
                rw [List.getElem?_eq_getElem (by rw [HM.out]; omega)] at e1 e2
                injection e1 with e1
                injection e2 with e2
                rw [e1, e2] at hs
                exact hs))
              generalize hjj : ((jx - 1 : Nat) : Int) = jm at g3 g4 g5
              have hjx : jm.toNat = jx - 1 := by omega
              go_still_tail 12, (by kernel_rfl)
              change wpList _ _ _ _ _ wr.drew
              have HC := Lib.hid (RBefore (g L (jx - 1)) (g L jx) wr.drew)
              rw [HBF.out] at HC
              unfold agg at HC
              go_wp2_with fail
              refine HC.out.mono ?_
              rintro e w5 ⟨rfl, hb5⟩
              have HSQ := Lib.hid (HS.out.on (below_of_drew hb5))
              clear hb5 HC i0 i1 i2 j0 j1 j2
              go_wp2_with fail
              go_meet
              exact ⟨rfl, HSQ⟩
          case rest =>
            obtain ⟨rfl, HSC⟩ := hcut
            clear HS
            have HLD := Lib.hid (drop_cons (L := L) (i := jx) (by rw [HM.out]; exact hjm))
            go_wp2_with fail
            refine (First_any HSC.out.st.ag).mono ?_
            rintro e w5 ⟨hb, he⟩
            rw [HLD.out] at he
            have he2 : e = .returned (tup (g L jx) true) := he
            subst he2
            have HS5 := Lib.hid (HSC.out.on hb)
            clear hb he HSC
            have HS6 := Lib.hid (HS5.out.on ((Below.refl _ w5).alloc (Nat.le_refl _) (.cells (three (g L jx)) 29)))
            have HF6 := Lib.hid (Whole.new w5 29 (three (g L jx)))
            obtain ⟨lg, lo, hLA, hb, i0, i1, i2⟩ := (ItsAt.own (by have h := HS6.out.row; rw [HM.out] at h; exact h) : ItsAt (w5.alloc (.cells (three (g L jx)) 29)) LA L).at (k := jx) (by rw [HM.out]; exact hjm)
            subst hLA
            obtain ⟨x0, x1, x2⟩ := three_cells HF6.out
            unfold tup agg
            unfold three at HS6 HF6 i0 i1 i2 x0 x1 x2 hb
            go_wp2_with fail
            generalize w5.alloc (.cells #[.int .i64 (g L jx).due, .int .i64 (g L jx).kind, .int .i64 (g L jx).key] 29) = w6 at HS6 HF6 i0 i1 i2 x0 x1 x2 hb ⊢
            generalize w5.heap.size = pf at HF6 x0 x1 x2 ⊢
            go_quiet (fail)
            have HS7 := Lib.hid (HS6.out.on (drewN_below w6 nq))
            clear HS5 HS6 HF6 i0 i1 i2 x0 x1 x2 hb
            generalize w6.drewN nq = w7 at HS7 ⊢
            go_wp2_with fail
            refine (Take_any HS7.out.st.ag now).mono ?_
            rintro e w8 ⟨he, ha, hm8⟩
            rw [HLD.out] at he ha
            have HS8 := Lib.hid (HS7.out.put ha hm8)
            clear ha hm8 HS7
            by_cases hd : (g L jx).due ≤ now
            · have he2 : e = .returned (tup (g L jx) true) := by rw [he]; simp [tkV, hd]
              have ht : tkL (g L jx :: L.drop (jx + 1)) now = L.drop (jx + 1) := by simp [tkL, hd]
              rw [ht] at HS8
              subst he2
              have hd2 : decide ((g L jx).due ≤ now) = true := decide_eq_true hd
              clear he ht
              have HS9 := Lib.hid (HS8.out.on ((Below.refl _ w8).alloc (Nat.le_refl _) (.cells (three (g L jx)) 29)))
              have HF9 := Lib.hid (Whole.new w8 29 (three (g L jx)))
              obtain ⟨lg', lo', hLA', hb, i0, i1, i2⟩ := (ItsAt.own (by have h := HS9.out.row; rw [HM.out] at h; exact h) : ItsAt (w8.alloc (.cells (three (g L jx)) 29)) (some ⟨lg, lo, none⟩) L).at (k := jx) (by rw [HM.out]; exact hjm)
              injection hLA' with e
              injection e with e1 e2
              subst e1 e2
              obtain ⟨x0, x1, x2⟩ := three_cells HF9.out
              unfold tup agg
              unfold three at HS9 HF9 i0 i1 i2 x0 x1 x2 hb
              go_wp2_with fail
              generalize w8.alloc (.cells #[.int .i64 (g L jx).due, .int .i64 (g L jx).kind, .int .i64 (g L jx).key] 29) = w9 at HS9 HF9 i0 i1 i2 x0 x1 x2 hb ⊢
              generalize w8.heap.size = px at HF9 x0 x1 x2 ⊢
              have hlen : ((L.drop (jx + 1)).length : Int) = (m : Int) - (jx : Int) - 1 := by rw [List.length_drop, HM.out]; omega
              have HQ := Lib.hid (fun q : Nat => by
                obtain ⟨hh, k1, k2⟩ := (HS9.out.on (drewN_below w9 q)).st.ag
                have h := Len_any k1
                rw [hlen] at h
                exact h)
              have s1 : IntKind.i64.wrap ((m : Int) - (jx : Int)) = (m : Int) - (jx : Int) := IntWalk.i64_in _ (by omega)
              have s2 : IntKind.i64.wrap ((m : Int) - (jx : Int) - 1) = (m : Int) - (jx : Int) - 1 := IntWalk.i64_in _ (by omega)
              clear hlen
              go_quiet ((go_at_call 11; exact Calls.quiet_of (HQ.out _)))
              have HS10 := Lib.hid (HS9.out.on (drewN_below w9 nq))
              clear HS8 HS9 HF9 i0 i1 i2 x0 x1 x2 hb HQ
              generalize w9.drewN nq = w10 at HS10 ⊢
              go_wp2_with fail
              go_roundw
              case rel => exact ⟨jx + 1, rfl, by omega, HS10⟩
              case measure => simp [intOf]; omega
            · have he2 : e = .returned (tup itz false) := by rw [he]; simp [tkV, hd]
              have ht : tkL (g L jx :: L.drop (jx + 1)) now = L.drop jx := by rw [HLD.out]; simp [tkL, hd]
              rw [ht] at HS8
              subst he2
              have hd2 : decide ((g L jx).due ≤ now) = false := decide_eq_false hd
              clear he ht
              have HSZ := Lib.hid (HS8.out.on ((Below.refl _ w8).alloc (Nat.le_refl _) (.cells (three itz) 29)))
              have HXB := Lib.hid (Whole.new w8 29 (three itz))
              obtain ⟨lg', lo', hLA', hb, i0, i1, i2⟩ := (ItsAt.own (by have h := HSZ.out.row; rw [HM.out] at h; exact h) : ItsAt (w8.alloc (.cells (three itz) 29)) (some ⟨lg, lo, none⟩) L).at (k := jx) (by rw [HM.out]; exact hjm)
              injection hLA' with e
              injection e with e1 e2
              subst e1 e2
              unfold tup agg itz
              unfold three itz at HSZ HXB i0 i1 i2 hb
              go_wp2_with fail
              generalize w8.alloc (.cells #[.int .i64 0, .int .i64 0, .int .i64 0] 29) = w9 at HSZ HXB i0 i1 i2 hb ⊢
              generalize w8.heap.size = px at HXB ⊢
              have s1 : IntKind.i64.wrap ((m : Int) - (jx : Int)) = (m : Int) - (jx : Int) := IntWalk.i64_in _ (by omega)
              have HSJ := Lib.hid s1
              have HLN := Lib.hid (show (((L.drop jx).length : Nat) : Int) = (m : Int) - (jx : Int) by rw [List.length_drop, HM.out]; omega)
              have hlcj : ¬ lc = jx := by omega
              obtain ⟨D, hD⟩ : ∃ D, L.drop jx = D := ⟨_, rfl⟩
              have HD := Lib.hid hD
              rw [hD] at HSZ HLN
              have HDL := Lib.hid (show D.length = m - jx by rw [← hD, List.length_drop, HM.out])
              clear i0 i1 i2 hb HS8 hD
              have hKeep : ∀ (us : Nat → Value) (wa wb : World), Below wa.heap.size wa wb → ∀ j, known [fun us y => us 0 = .agg #[.int .i64 0, .int .i64 0, .int .i64 0], fun us y => us 1 = .agg #[.int .i64 0, .int .i64 0, .int .i64 0], fun us y => us 2 = .bool true, fun us y => us 3 = .bool true, fun us y => us 4 = .pointer (some ⟨b, 0, none⟩), fun us y => us 5 = .int .i64 ((m : Int) - (jx : Int)), fun us y => us 6 = .int .i64 (m : Int), fun us y => us 7 = .int .i64 (jx : Int), fun us y => us 8 = .int .i64 ((m : Int) - (jx : Int)), fun us y => us 9 = .bool true, fun us y => us 10 = .bool true, fun us y => us 11 = .bool true, fun us y => us 12 = .pointer (some ⟨b, 0, none⟩), fun us y => ∃ A13 c13, us 13 = .slice A13 D.length c13 ∧ y.ownsRow w1.heap.size 29 3 (.slice A13 D.length c13) D.length (flat D), fun us y => us 14 = .slice (some ⟨lg, lo, none⟩) m lc, fun us y => us 15 = .int .i64 (jx : Int), fun us y => us 16 = .slice (some ⟨lg, lo + jx * 3, none⟩) (m - jx) (lc - jx), fun us y => us 17 = .bool true, fun us y => us 18 = .bool true, fun us y => us 19 = .bool true] j us wa → known [fun us y => us 0 = .agg #[.int .i64 0, .int .i64 0, .int .i64 0], fun us y => us 1 = .agg #[.int .i64 0, .int .i64 0, .int .i64 0], fun us y => us 2 = .bool true, fun us y => us 3 = .bool true, fun us y => us 4 = .pointer (some ⟨b, 0, none⟩), fun us y => us 5 = .int .i64 ((m : Int) - (jx : Int)), fun us y => us 6 = .int .i64 (m : Int), fun us y => us 7 = .int .i64 (jx : Int), fun us y => us 8 = .int .i64 ((m : Int) - (jx : Int)), fun us y => us 9 = .bool true, fun us y => us 10 = .bool true, fun us y => us 11 = .bool true, fun us y => us 12 = .pointer (some ⟨b, 0, none⟩), fun us y => ∃ A13 c13, us 13 = .slice A13 D.length c13 ∧ y.ownsRow w1.heap.size 29 3 (.slice A13 D.length c13) D.length (flat D), fun us y => us 14 = .slice (some ⟨lg, lo, none⟩) m lc, fun us y => us 15 = .int .i64 (jx : Int), fun us y => us 16 = .slice (some ⟨lg, lo + jx * 3, none⟩) (m - jx) (lc - jx), fun us y => us 17 = .bool true, fun us y => us 18 = .bool true, fun us y => us 19 = .bool true] j us wb := by
                intro us wa wb hb j h
                match j, h with
                | 0, h => exact h
                | 1, h => exact h
                | 2, h => exact h
                | 3, h => exact h
                | 4, h => exact h
                | 5, h => exact h
                | 6, h => exact h
                | 7, h => exact h
                | 8, h => exact h
                | 9, h => exact h
                | 10, h => exact h
                | 11, h => exact h
                | 12, h => exact h
                | 13, h => (obtain ⟨A13, c13, e13, ho13⟩ : ∃ A13 c13, us 13 = .slice A13 D.length c13 ∧ wa.ownsRow w1.heap.size 29 3 (.slice A13 D.length c13) D.length (flat D) := h; exact (show ∃ A13 c13, us 13 = .slice A13 D.length c13 ∧ wb.ownsRow w1.heap.size 29 3 (.slice A13 D.length c13) D.length (flat D) from ⟨A13, c13, e13, (Mod.of_below hb []).own ho13 (by simp)⟩))
                | 14, h => exact h
                | 15, h => exact h
                | 16, h => exact h
                | 17, h => exact h
                | 18, h => exact h
                | 19, h => exact h
                | q + 20, h => exact trivial
              have HKEEP := Lib.hid hKeep
              clear hKeep
              refine region_each (known [fun us y => us 0 = .agg #[.int .i64 0, .int .i64 0, .int .i64 0], fun us y => us 1 = .agg #[.int .i64 0, .int .i64 0, .int .i64 0], fun us y => us 2 = .bool true, fun us y => us 3 = .bool true, fun us y => us 4 = .pointer (some ⟨b, 0, none⟩), fun us y => us 5 = .int .i64 ((m : Int) - (jx : Int)), fun us y => us 6 = .int .i64 (m : Int), fun us y => us 7 = .int .i64 (jx : Int), fun us y => us 8 = .int .i64 ((m : Int) - (jx : Int)), fun us y => us 9 = .bool true, fun us y => us 10 = .bool true, fun us y => us 11 = .bool true, fun us y => us 12 = .pointer (some ⟨b, 0, none⟩), fun us y => ∃ A13 c13, us 13 = .slice A13 D.length c13 ∧ y.ownsRow w1.heap.size 29 3 (.slice A13 D.length c13) D.length (flat D), fun us y => us 14 = .slice (some ⟨lg, lo, none⟩) m lc, fun us y => us 15 = .int .i64 (jx : Int), fun us y => us 16 = .slice (some ⟨lg, lo + jx * 3, none⟩) (m - jx) (lc - jx), fun us y => us 17 = .bool true, fun us y => us 18 = .bool true, fun us y => us 19 = .bool true]) (fun y => St2 w1 y b D (.slice (some ⟨lg, lo, none⟩) m lc) L ∧ Whole y px 29 #[.int .i64 0, .int .i64 0, .int .i64 0]) (fun y => True) [] [[], [], [0, 1], [0, 1, 2], [0, 1, 2, 3], [0, 1, 2, 3, 4], [0, 1, 2, 3], [0, 1, 2, 3], [0, 1, 2, 3, 6, 7], [0, 1, 2, 3, 4, 5, 6, 7, 8], [0, 1, 2, 3, 4, 5, 6, 7, 8, 9], [0, 1, 2, 3, 4, 5, 6, 7, 8, 9, 10], [0, 1, 2, 3, 4, 5, 6, 7, 8, 9, 10, 11], [0, 1, 2, 3, 4, 5, 6, 7, 8, 9, 10, 11, 12], [0, 1, 2, 3, 4, 5, 6, 7, 8, 9, 10, 11], [0, 1, 2, 3, 4, 5, 6, 7, 8, 9, 10, 11], [0, 1, 2, 3, 4, 5, 6, 7, 8, 9, 10, 11, 14, 15], [0, 1, 2, 3, 4, 5, 6, 7, 8, 9, 10, 11, 12, 13, 14, 15, 16], [0, 1, 2, 3, 4, 5, 6, 7, 8, 9, 10, 11, 12, 13, 14, 15, 16, 17], [0, 1, 2, 3, 4, 5, 6, 7, 8, 9, 10, 11, 12, 13, 14, 15, 16, 17, 18]] (by
                intro j us us' y h hF
                match j, h, hF with
                | 0, h, hF => (have hF : us 0 = .agg #[.int .i64 0, .int .i64 0, .int .i64 0] := hF; rw [h 0 (.inl rfl)] at hF; exact hF)
                | 1, h, hF => (have hF : us 1 = .agg #[.int .i64 0, .int .i64 0, .int .i64 0] := hF; rw [h 1 (.inl rfl)] at hF; exact hF)
                | 2, h, hF => (have hF : us 2 = .bool true := hF; rw [h 2 (.inl rfl)] at hF; exact hF)
                | 3, h, hF => (have hF : us 3 = .bool true := hF; rw [h 3 (.inl rfl)] at hF; exact hF)
                | 4, h, hF => (have hF : us 4 = .pointer (some ⟨b, 0, none⟩) := hF; rw [h 4 (.inl rfl)] at hF; exact hF)
                | 5, h, hF => (have hF : us 5 = .int .i64 ((m : Int) - (jx : Int)) := hF; rw [h 5 (.inl rfl)] at hF; exact hF)
                | 6, h, hF => (have hF : us 6 = .int .i64 (m : Int) := hF; rw [h 6 (.inl rfl)] at hF; exact hF)
                | 7, h, hF => (have hF : us 7 = .int .i64 (jx : Int) := hF; rw [h 7 (.inl rfl)] at hF; exact hF)
                | 8, h, hF => (have hF : us 8 = .int .i64 ((m : Int) - (jx : Int)) := hF; rw [h 8 (.inl rfl)] at hF; exact hF)
                | 9, h, hF => (have hF : us 9 = .bool true := hF; rw [h 9 (.inl rfl)] at hF; exact hF)
                | 10, h, hF => (have hF : us 10 = .bool true := hF; rw [h 10 (.inl rfl)] at hF; exact hF)
                | 11, h, hF => (have hF : us 11 = .bool true := hF; rw [h 11 (.inl rfl)] at hF; exact hF)
                | 12, h, hF => (have hF : us 12 = .pointer (some ⟨b, 0, none⟩) := hF; rw [h 12 (.inl rfl)] at hF; exact hF)
                | 13, h, hF => (have hF : ∃ A13 c13, us 13 = .slice A13 D.length c13 ∧ y.ownsRow w1.heap.size 29 3 (.slice A13 D.length c13) D.length (flat D) := hF; rw [h 13 (.inl rfl)] at hF; exact hF)
                | 14, h, hF => (have hF : us 14 = .slice (some ⟨lg, lo, none⟩) m lc := hF; rw [h 14 (.inl rfl)] at hF; exact hF)
                | 15, h, hF => (have hF : us 15 = .int .i64 (jx : Int) := hF; rw [h 15 (.inl rfl)] at hF; exact hF)
                | 16, h, hF => (have hF : us 16 = .slice (some ⟨lg, lo + jx * 3, none⟩) (m - jx) (lc - jx) := hF; rw [h 16 (.inl rfl)] at hF; exact hF)
                | 17, h, hF => (have hF : us 17 = .bool true := hF; rw [h 17 (.inl rfl)] at hF; exact hF)
                | 18, h, hF => (have hF : us 18 = .bool true := hF; rw [h 18 (.inl rfl)] at hF; exact hF)
                | 19, h, hF => (have hF : us 19 = .bool true := hF; rw [h 19 (.inl rfl)] at hF; exact hF)
                | q + 20, h, hF => exact trivial) (by kernel_rfl) rfl (by kernel_rfl) (by exact ⟨HSZ.out.on (Below.refl _ _).drew, (Mod.of_below (Below.refl _ _).drew []).whole HXB.out (by simp)⟩) (trivial) (Z := fun vs => Act.put (Act.put (Act.put (Act.put (Act.put (Act.put (Act.put (Act.put (Act.put (Act.put (Act.put (Act.put (Act.put (Act.put (Act.put (Act.put (Act.put (Act.put (Act.put (Act.put (_) (some 93) (vs 0)) (some 94) (vs 1)) (some 95) (vs 2)) (some 96) (vs 3)) (some 97) (vs 4)) (some 98) (vs 5)) (some 99) (vs 6)) (some 100) (vs 7)) (some 101) (vs 8)) (some 102) (vs 9)) (some 103) (vs 10)) (some 104) (vs 11)) (some 105) (vs 12)) (some 106) (vs 13)) (some 107) (vs 14)) (some 108) (vs 15)) (some 109) (vs 16)) (some 110) (vs 17)) (some 111) (vs 18)) (some 4) (vs 19)) (fun _ => rfl) ?_ ?_
              · skip
                refine EachAll.snoc (i := 19) (o := { dst := some 4, op := Op.assign (Operand.tmp 111), type := 4, pos := _, after := #[{ on := 18, ground := Ground.data }, { on := 17, ground := Ground.chain }, { on := 0, ground := Ground.phase }, { on := 1, ground := Ground.phase }, { on := 2, ground := Ground.phase }, { on := 3, ground := Ground.phase }, { on := 4, ground := Ground.phase }, { on := 5, ground := Ground.phase }, { on := 6, ground := Ground.phase }, { on := 7, ground := Ground.phase }, { on := 8, ground := Ground.phase }, { on := 9, ground := Ground.phase }, { on := 10, ground := Ground.phase }, { on := 11, ground := Ground.phase }, { on := 12, ground := Ground.phase }, { on := 13, ground := Ground.phase }, { on := 14, ground := Ground.phase }, { on := 15, ground := Ground.phase }, { on := 16, ground := Ground.phase }, { on := 17, ground := Ground.phase }, { on := 18, ground := Ground.phase }], guard := none }) (l := [0, 1, 2, 3, 4, 5, 6, 7, 8, 9, 10, 11, 12, 13, 14, 15, 16, 17, 18]) (A := fun vs => Act.put (Act.put (Act.put (Act.put (Act.put (Act.put (Act.put (Act.put (Act.put (Act.put (Act.put (Act.put (Act.put (Act.put (Act.put (Act.put (Act.put (Act.put (Act.put (_) (some 111) (vs 18)) (some 110) (vs 17)) (some 109) (vs 16)) (some 108) (vs 15)) (some 107) (vs 14)) (some 106) (vs 13)) (some 105) (vs 12)) (some 104) (vs 11)) (some 103) (vs 10)) (some 102) (vs 9)) (some 101) (vs 8)) (some 100) (vs 7)) (some 99) (vs 6)) (some 98) (vs 5)) (some 97) (vs 4)) (some 96) (vs 3)) (some 95) (vs 2)) (some 94) (vs 1)) (some 93) (vs 0)) ?_ rfl rfl (fun _ => rfl) ?_
                rotate_left
                · intro vs y hI hJ hA K hK
                  obtain ⟨hSt, hBx⟩ := hI
                  clear hJ
                  have e18 : vs 18 = .bool true := hA 18 (by decide)
                  clear hA
                  refine Box.mk ?_
                  try simp only [e18, allPut, puts, Act.put, List.setIfInBounds_toArray, List.set_cons_zero, List.set_cons_succ] at hK ⊢
                  go_simp
                  exact hK.out _ _ ⟨hSt, hBx⟩ (show (updv vs 19 _) 19 = .bool true from rfl) (fun _ _ _ h => h) (fun _ h => h)
                refine EachAll.snoc (i := 18) (o := { dst := some 111, op := Op.pick (Operand.tmp 104) (Operand.tmp 110) (Operand.const (Value.bool false)), type := 4, pos := _, after := #[{ on := 11, ground := Ground.data }, { on := 17, ground := Ground.data }], guard := none }) (l := [0, 1, 2, 3, 4, 5, 6, 7, 8, 9, 10, 11, 12, 13, 14, 15, 16, 17]) (A := fun vs => Act.put (Act.put (Act.put (Act.put (Act.put (Act.put (Act.put (Act.put (Act.put (Act.put (Act.put (Act.put (Act.put (Act.put (Act.put (Act.put (Act.put (Act.put (_) (some 110) (vs 17)) (some 109) (vs 16)) (some 108) (vs 15)) (some 107) (vs 14)) (some 106) (vs 13)) (some 105) (vs 12)) (some 104) (vs 11)) (some 103) (vs 10)) (some 102) (vs 9)) (some 101) (vs 8)) (some 100) (vs 7)) (some 99) (vs 6)) (some 98) (vs 5)) (some 97) (vs 4)) (some 96) (vs 3)) (some 95) (vs 2)) (some 94) (vs 1)) (some 93) (vs 0)) ?_ rfl rfl (fun _ => rfl) ?_
                rotate_left
                · intro vs y hI hJ hA K hK
                  obtain ⟨hSt, hBx⟩ := hI
                  clear hJ
                  have e11 : vs 11 = .bool true := hA 11 (by decide)
                  have e17 : vs 17 = .bool true := hA 17 (by decide)
                  clear hA
                  refine Box.mk ?_
                  try simp only [e11, e17, allPut, puts, Act.put, List.setIfInBounds_toArray, List.set_cons_zero, List.set_cons_succ] at hK ⊢
                  go_simp
                  exact hK.out _ _ ⟨hSt, hBx⟩ (show (updv vs 18 _) 18 = .bool true from rfl) (fun _ _ _ h => h) (fun _ h => h)
                refine EachAll.snoc (i := 17) (o := { dst := some 110, op := Op.call { callee := Callee.value (Operand.func 19), args := #[Operand.tmp 106, Operand.tmp 109], argTypes := #[32, 32] }, type := 4, pos := _, after := #[{ on := 13, ground := Ground.data }, { on := 16, ground := Ground.data }, { on := 13, ground := Ground.chain }, { on := 11, ground := Ground.guard }], guard := some (11, true) }) (l := [0, 1, 2, 3, 4, 5, 6, 7, 8, 9, 10, 11, 12, 13, 14, 15, 16]) (A := fun vs => Act.put (Act.put (Act.put (Act.put (Act.put (Act.put (Act.put (Act.put (Act.put (Act.put (Act.put (Act.put (Act.put (Act.put (Act.put (Act.put (Act.put (_) (some 109) (vs 16)) (some 108) (vs 15)) (some 107) (vs 14)) (some 106) (vs 13)) (some 105) (vs 12)) (some 104) (vs 11)) (some 103) (vs 10)) (some 102) (vs 9)) (some 101) (vs 8)) (some 100) (vs 7)) (some 99) (vs 6)) (some 98) (vs 5)) (some 97) (vs 4)) (some 96) (vs 3)) (some 95) (vs 2)) (some 94) (vs 1)) (some 93) (vs 0)) ?_ rfl rfl (fun _ => rfl) ?_
                rotate_left
                · intro vs y hI hJ hA K hK
                  obtain ⟨hSt, hBx⟩ := hI
                  clear hJ
                  have e11 : vs 11 = .bool true := hA 11 (by decide)
                  have hF13 : ∃ A13 c13, vs 13 = .slice A13 D.length c13 ∧ y.ownsRow w1.heap.size 29 3 (.slice A13 D.length c13) D.length (flat D) := hA 13 (by decide)
                  obtain ⟨A13, c13, e13, ho13⟩ := hF13
                  have e16 : vs 16 = .slice (some ⟨lg, lo + jx * 3, none⟩) (m - jx) (lc - jx) := hA 16 (by decide)
                  clear hA
                  refine Box.mk ?_
                  try simp only [e11, e13, e16, allPut, puts, Act.put, List.setIfInBounds_toArray, List.set_cons_zero, List.set_cons_succ] at hK ⊢
                  clear e16
                  go_simp
                  have hsub : ItsAt y (some ⟨lg, lo + jx * 3, none⟩) D := by rw [← HD.out]; exact sub_its (ItsAt.own (by have h := hSt.row; rw [HM.out] at h; exact h)) jx
                  with_reducible refine (RSame (c := c13) (d := lc - jx) (ItsAt.own ho13) hsub rfl HDL.out (by rw [HDL.out]; omega)).mono ?_
                  rintro e w5 ⟨he, hb⟩
                  have he2 : e = .returned (.bool true) := by rw [he, decide_eq_true rfl]
                  subst he2
                  go_simp
                  exact hK.out _ _ ⟨hSt.on hb, (Mod.of_below hb []).whole hBx (by simp)⟩ (show (updv vs 17 _) 17 = .bool true from rfl) (fun jj _ _ h => HKEEP.out vs y w5 hb jj h) (fun _ h => h)
                refine EachAll.snoc (i := 16) (o := { dst := some 109, op := Op.slice 32 (Operand.tmp 107) (some (Operand.tmp 108)) none none, type := 32, pos := _, after := #[{ on := 14, ground := Ground.data }, { on := 15, ground := Ground.data }, { on := 11, ground := Ground.guard }], guard := some (11, true) }) (l := [0, 1, 2, 3, 4, 5, 6, 7, 8, 9, 10, 11, 14, 15]) (A := fun vs => Act.put (Act.put (Act.put (Act.put (Act.put (Act.put (Act.put (Act.put (Act.put (Act.put (Act.put (Act.put (Act.put (Act.put (_) (some 108) (vs 15)) (some 107) (vs 14)) (some 104) (vs 11)) (some 103) (vs 10)) (some 102) (vs 9)) (some 101) (vs 8)) (some 100) (vs 7)) (some 99) (vs 6)) (some 98) (vs 5)) (some 97) (vs 4)) (some 96) (vs 3)) (some 95) (vs 2)) (some 94) (vs 1)) (some 93) (vs 0)) ?_ rfl rfl (fun _ => rfl) ?_
                rotate_left
                · intro vs y hI hJ hA K hK
                  obtain ⟨hSt, hBx⟩ := hI
                  clear hJ
                  have e11 : vs 11 = .bool true := hA 11 (by decide)
                  have e14 : vs 14 = .slice (some ⟨lg, lo, none⟩) m lc := hA 14 (by decide)
                  have e15 : vs 15 = .int .i64 (jx : Int) := hA 15 (by decide)
                  clear hA
                  refine Box.mk ?_
                  try simp only [e11, e14, e15, allPut, puts, Act.put, List.setIfInBounds_toArray, List.set_cons_zero, List.set_cons_succ] at hK ⊢
                  go_simp
                  exact hK.out _ _ ⟨hSt, hBx⟩ (show (updv vs 16 _) 16 = .slice (some ⟨lg, lo + jx * 3, none⟩) (m - jx) (lc - jx) from rfl) (fun _ _ _ h => h) (fun _ h => h)
                refine EachAll.snoc (i := 15) (o := { dst := some 108, op := Op.move (Operand.tmp 10), type := 3, pos := _, after := #[{ on := 11, ground := Ground.guard }], guard := some (11, true) }) (l := [0, 1, 2, 3, 4, 5, 6, 7, 8, 9, 10, 11]) (A := fun vs => Act.put (Act.put (Act.put (Act.put (Act.put (Act.put (Act.put (Act.put (Act.put (Act.put (Act.put (Act.put (_) (some 104) (vs 11)) (some 103) (vs 10)) (some 102) (vs 9)) (some 101) (vs 8)) (some 100) (vs 7)) (some 99) (vs 6)) (some 98) (vs 5)) (some 97) (vs 4)) (some 96) (vs 3)) (some 95) (vs 2)) (some 94) (vs 1)) (some 93) (vs 0)) ?_ rfl rfl (fun _ => rfl) ?_
                rotate_left
                · intro vs y hI hJ hA K hK
                  obtain ⟨hSt, hBx⟩ := hI
                  clear hJ
                  have e11 : vs 11 = .bool true := hA 11 (by decide)
                  clear hA
                  refine Box.mk ?_
                  try simp only [e11, allPut, puts, Act.put, List.setIfInBounds_toArray, List.set_cons_zero, List.set_cons_succ] at hK ⊢
                  go_simp
                  exact hK.out _ _ ⟨hSt, hBx⟩ (show (updv vs 15 _) 15 = .int .i64 (jx : Int) from rfl) (fun _ _ _ h => h) (fun _ h => h)
                refine EachAll.snoc (i := 14) (o := { dst := some 107, op := Op.move (Operand.tmp 8), type := 32, pos := _, after := #[{ on := 11, ground := Ground.guard }], guard := some (11, true) }) (l := [0, 1, 2, 3, 4, 5, 6, 7, 8, 9, 10, 11]) (A := fun vs => Act.put (Act.put (Act.put (Act.put (Act.put (Act.put (Act.put (Act.put (Act.put (Act.put (Act.put (Act.put (_) (some 104) (vs 11)) (some 103) (vs 10)) (some 102) (vs 9)) (some 101) (vs 8)) (some 100) (vs 7)) (some 99) (vs 6)) (some 98) (vs 5)) (some 97) (vs 4)) (some 96) (vs 3)) (some 95) (vs 2)) (some 94) (vs 1)) (some 93) (vs 0)) ?_ rfl rfl (fun _ => rfl) ?_
                rotate_left
                · intro vs y hI hJ hA K hK
                  obtain ⟨hSt, hBx⟩ := hI
                  clear hJ
                  have e11 : vs 11 = .bool true := hA 11 (by decide)
                  clear hA
                  refine Box.mk ?_
                  try simp only [e11, allPut, puts, Act.put, List.setIfInBounds_toArray, List.set_cons_zero, List.set_cons_succ] at hK ⊢
                  go_simp
                  exact hK.out _ _ ⟨hSt, hBx⟩ (show (updv vs 14 _) 14 = .slice (some ⟨lg, lo, none⟩) m lc from rfl) (fun _ _ _ h => h) (fun _ h => h)
                refine EachAll.snoc (i := 13) (o := { dst := some 106, op := Op.call { callee := Callee.value (Operand.func 20), args := #[Operand.tmp 105], argTypes := #[22] }, type := 32, pos := _, after := #[{ on := 12, ground := Ground.data }, { on := 11, ground := Ground.chain }, { on := 11, ground := Ground.guard }], guard := some (11, true) }) (l := [0, 1, 2, 3, 4, 5, 6, 7, 8, 9, 10, 11, 12]) (A := fun vs => Act.put (Act.put (Act.put (Act.put (Act.put (Act.put (Act.put (Act.put (Act.put (Act.put (Act.put (Act.put (Act.put (_) (some 105) (vs 12)) (some 104) (vs 11)) (some 103) (vs 10)) (some 102) (vs 9)) (some 101) (vs 8)) (some 100) (vs 7)) (some 99) (vs 6)) (some 98) (vs 5)) (some 97) (vs 4)) (some 96) (vs 3)) (some 95) (vs 2)) (some 94) (vs 1)) (some 93) (vs 0)) ?_ rfl rfl (fun _ => rfl) ?_
                rotate_left
                · intro vs y hI hJ hA K hK
                  obtain ⟨hSt, hBx⟩ := hI
                  clear hJ
                  have e11 : vs 11 = .bool true := hA 11 (by decide)
                  have e12 : vs 12 = .pointer (some ⟨b, 0, none⟩) := hA 12 (by decide)
                  clear hA
                  refine Box.mk ?_
                  try simp only [e11, e12, allPut, puts, Act.put, List.setIfInBounds_toArray, List.set_cons_zero, List.set_cons_succ] at hK ⊢
                  clear e12
                  go_simp
                  with_reducible refine (List_any hSt.st.ag).mono ?_
                  rintro e w5 ⟨v5, rfl, ho, hb⟩
                  obtain ⟨A5, c5, hv, _, _⟩ := own_shapeI ho
                  subst hv
                  go_simp
                  exact hK.out _ _ ⟨hSt.on hb, (Mod.of_below hb []).whole hBx (by simp)⟩ (show ∃ A13 c13, (updv vs 13 _) 13 = .slice A13 D.length c13 ∧ w5.ownsRow w1.heap.size 29 3 (.slice A13 D.length c13) D.length (flat D) from ⟨A5, c5, rfl, (own_base ho hSt.st.below.size)⟩) (fun jj _ _ h => HKEEP.out vs y w5 hb jj h) (fun _ h => h)
                refine EachAll.snoc (i := 12) (o := { dst := some 105, op := Op.move (Operand.tmp 5), type := 22, pos := _, after := #[{ on := 11, ground := Ground.guard }], guard := some (11, true) }) (l := [0, 1, 2, 3, 4, 5, 6, 7, 8, 9, 10, 11]) (A := fun vs => Act.put (Act.put (Act.put (Act.put (Act.put (Act.put (Act.put (Act.put (Act.put (Act.put (Act.put (Act.put (_) (some 104) (vs 11)) (some 103) (vs 10)) (some 102) (vs 9)) (some 101) (vs 8)) (some 100) (vs 7)) (some 99) (vs 6)) (some 98) (vs 5)) (some 97) (vs 4)) (some 96) (vs 3)) (some 95) (vs 2)) (some 94) (vs 1)) (some 93) (vs 0)) ?_ rfl rfl (fun _ => rfl) ?_
                rotate_left
                · intro vs y hI hJ hA K hK
                  obtain ⟨hSt, hBx⟩ := hI
                  clear hJ
                  have e11 : vs 11 = .bool true := hA 11 (by decide)
                  clear hA
                  refine Box.mk ?_
                  try simp only [e11, allPut, puts, Act.put, List.setIfInBounds_toArray, List.set_cons_zero, List.set_cons_succ] at hK ⊢
                  go_simp
                  exact hK.out _ _ ⟨hSt, hBx⟩ (show (updv vs 12 _) 12 = .pointer (some ⟨b, 0, none⟩) from rfl) (fun _ _ _ h => h) (fun _ h => h)
                refine EachAll.snoc (i := 11) (o := { dst := some 104, op := Op.move (Operand.tmp 103), type := 4, pos := _, after := #[{ on := 10, ground := Ground.data }, { on := 5, ground := Ground.chain }], guard := none }) (l := [0, 1, 2, 3, 4, 5, 6, 7, 8, 9, 10]) (A := fun vs => Act.put (Act.put (Act.put (Act.put (Act.put (Act.put (Act.put (Act.put (Act.put (Act.put (Act.put (_) (some 103) (vs 10)) (some 102) (vs 9)) (some 101) (vs 8)) (some 100) (vs 7)) (some 99) (vs 6)) (some 98) (vs 5)) (some 97) (vs 4)) (some 96) (vs 3)) (some 95) (vs 2)) (some 94) (vs 1)) (some 93) (vs 0)) ?_ rfl rfl (fun _ => rfl) ?_
                rotate_left
                · intro vs y hI hJ hA K hK
                  obtain ⟨hSt, hBx⟩ := hI
                  clear hJ
                  have e10 : vs 10 = .bool true := hA 10 (by decide)
                  clear hA
                  refine Box.mk ?_
                  try simp only [e10, allPut, puts, Act.put, List.setIfInBounds_toArray, List.set_cons_zero, List.set_cons_succ] at hK ⊢
                  go_simp
                  exact hK.out _ _ ⟨hSt, hBx⟩ (show (updv vs 11 _) 11 = .bool true from rfl) (fun _ _ _ h => h) (fun _ h => h)
                refine EachAll.snoc (i := 10) (o := { dst := some 103, op := Op.pick (Operand.tmp 96) (Operand.tmp 102) (Operand.const (Value.bool false)), type := 4, pos := _, after := #[{ on := 3, ground := Ground.data }, { on := 9, ground := Ground.data }], guard := none }) (l := [0, 1, 2, 3, 4, 5, 6, 7, 8, 9]) (A := fun vs => Act.put (Act.put (Act.put (Act.put (Act.put (Act.put (Act.put (Act.put (Act.put (Act.put (_) (some 102) (vs 9)) (some 101) (vs 8)) (some 100) (vs 7)) (some 99) (vs 6)) (some 98) (vs 5)) (some 97) (vs 4)) (some 96) (vs 3)) (some 95) (vs 2)) (some 94) (vs 1)) (some 93) (vs 0)) ?_ rfl rfl (fun _ => rfl) ?_
                rotate_left
                · intro vs y hI hJ hA K hK
                  obtain ⟨hSt, hBx⟩ := hI
                  clear hJ
                  have e3 : vs 3 = .bool true := hA 3 (by decide)
                  have e9 : vs 9 = .bool true := hA 9 (by decide)
                  clear hA
                  refine Box.mk ?_
                  try simp only [e3, e9, allPut, puts, Act.put, List.setIfInBounds_toArray, List.set_cons_zero, List.set_cons_succ] at hK ⊢
                  go_simp
                  exact hK.out _ _ ⟨hSt, hBx⟩ (show (updv vs 10 _) 10 = .bool true from rfl) (fun _ _ _ h => h) (fun _ h => h)
                refine EachAll.snoc (i := 9) (o := { dst := some 102, op := Op.binOp BinOp.eql 3 (Operand.tmp 98) (Operand.tmp 101) 3, type := 4, pos := _, after := #[{ on := 5, ground := Ground.data }, { on := 8, ground := Ground.data }, { on := 3, ground := Ground.guard }], guard := some (3, true) }) (l := [0, 1, 2, 3, 4, 5, 6, 7, 8]) (A := fun vs => Act.put (Act.put (Act.put (Act.put (Act.put (Act.put (Act.put (Act.put (Act.put (_) (some 101) (vs 8)) (some 100) (vs 7)) (some 99) (vs 6)) (some 98) (vs 5)) (some 97) (vs 4)) (some 96) (vs 3)) (some 95) (vs 2)) (some 94) (vs 1)) (some 93) (vs 0)) ?_ rfl rfl (fun _ => rfl) ?_
                rotate_left
                · intro vs y hI hJ hA K hK
                  obtain ⟨hSt, hBx⟩ := hI
                  clear hJ
                  have e3 : vs 3 = .bool true := hA 3 (by decide)
                  have e5 : vs 5 = .int .i64 ((m : Int) - (jx : Int)) := hA 5 (by decide)
                  have e8 : vs 8 = .int .i64 ((m : Int) - (jx : Int)) := hA 8 (by decide)
                  clear hA
                  refine Box.mk ?_
                  try simp only [e3, e5, e8, allPut, puts, Act.put, List.setIfInBounds_toArray, List.set_cons_zero, List.set_cons_succ] at hK ⊢
                  go_simp
                  exact hK.out _ _ ⟨hSt, hBx⟩ (show (updv vs 9 _) 9 = .bool true from rfl) (fun _ _ _ h => h) (fun _ h => h)
                refine EachAll.snoc (i := 8) (o := { dst := some 101, op := Op.binOp BinOp.sub 3 (Operand.tmp 99) (Operand.tmp 100) 3, type := 3, pos := _, after := #[{ on := 6, ground := Ground.data }, { on := 7, ground := Ground.data }, { on := 3, ground := Ground.guard }], guard := some (3, true) }) (l := [0, 1, 2, 3, 6, 7]) (A := fun vs => Act.put (Act.put (Act.put (Act.put (Act.put (Act.put (_) (some 100) (vs 7)) (some 99) (vs 6)) (some 96) (vs 3)) (some 95) (vs 2)) (some 94) (vs 1)) (some 93) (vs 0)) ?_ rfl rfl (fun _ => rfl) ?_
                rotate_left
                · intro vs y hI hJ hA K hK
                  obtain ⟨hSt, hBx⟩ := hI
                  clear hJ
                  have e3 : vs 3 = .bool true := hA 3 (by decide)
                  have e6 : vs 6 = .int .i64 (m : Int) := hA 6 (by decide)
                  have e7 : vs 7 = .int .i64 (jx : Int) := hA 7 (by decide)
                  clear hA
                  refine Box.mk ?_
                  try simp only [e3, e6, e7, allPut, puts, Act.put, List.setIfInBounds_toArray, List.set_cons_zero, List.set_cons_succ] at hK ⊢
                  have hsj := HSJ.out
                  go_simp
                  exact hK.out _ _ ⟨hSt, hBx⟩ (show (updv vs 8 _) 8 = .int .i64 ((m : Int) - (jx : Int)) from rfl) (fun _ _ _ h => h) (fun _ h => h)
                refine EachAll.snoc (i := 7) (o := { dst := some 100, op := Op.move (Operand.tmp 10), type := 3, pos := _, after := #[{ on := 3, ground := Ground.guard }], guard := some (3, true) }) (l := [0, 1, 2, 3]) (A := fun vs => Act.put (Act.put (Act.put (Act.put (_) (some 96) (vs 3)) (some 95) (vs 2)) (some 94) (vs 1)) (some 93) (vs 0)) ?_ rfl rfl (fun _ => rfl) ?_
                rotate_left
                · intro vs y hI hJ hA K hK
                  obtain ⟨hSt, hBx⟩ := hI
                  clear hJ
                  have e3 : vs 3 = .bool true := hA 3 (by decide)
                  clear hA
                  refine Box.mk ?_
                  try simp only [e3, allPut, puts, Act.put, List.setIfInBounds_toArray, List.set_cons_zero, List.set_cons_succ] at hK ⊢
                  go_simp
                  exact hK.out _ _ ⟨hSt, hBx⟩ (show (updv vs 7 _) 7 = .int .i64 (jx : Int) from rfl) (fun _ _ _ h => h) (fun _ h => h)
                refine EachAll.snoc (i := 6) (o := { dst := some 99, op := Op.move (Operand.tmp 9), type := 3, pos := _, after := #[{ on := 3, ground := Ground.guard }], guard := some (3, true) }) (l := [0, 1, 2, 3]) (A := fun vs => Act.put (Act.put (Act.put (Act.put (_) (some 96) (vs 3)) (some 95) (vs 2)) (some 94) (vs 1)) (some 93) (vs 0)) ?_ rfl rfl (fun _ => rfl) ?_
                rotate_left
                · intro vs y hI hJ hA K hK
                  obtain ⟨hSt, hBx⟩ := hI
                  clear hJ
                  have e3 : vs 3 = .bool true := hA 3 (by decide)
                  clear hA
                  refine Box.mk ?_
                  try simp only [e3, allPut, puts, Act.put, List.setIfInBounds_toArray, List.set_cons_zero, List.set_cons_succ] at hK ⊢
                  go_simp
                  exact hK.out _ _ ⟨hSt, hBx⟩ (show (updv vs 6 _) 6 = .int .i64 (m : Int) from rfl) (fun _ _ _ h => h) (fun _ h => h)
                refine EachAll.snoc (i := 5) (o := { dst := some 98, op := Op.call { callee := Callee.value (Operand.func 11), args := #[Operand.tmp 97], argTypes := #[22] }, type := 3, pos := _, after := #[{ on := 4, ground := Ground.data }, { on := 3, ground := Ground.chain }, { on := 3, ground := Ground.guard }], guard := some (3, true) }) (l := [0, 1, 2, 3, 4]) (A := fun vs => Act.put (Act.put (Act.put (Act.put (Act.put (_) (some 97) (vs 4)) (some 96) (vs 3)) (some 95) (vs 2)) (some 94) (vs 1)) (some 93) (vs 0)) ?_ rfl rfl (fun _ => rfl) ?_
                rotate_left
                · intro vs y hI hJ hA K hK
                  obtain ⟨hSt, hBx⟩ := hI
                  clear hJ
                  have e3 : vs 3 = .bool true := hA 3 (by decide)
                  have e4 : vs 4 = .pointer (some ⟨b, 0, none⟩) := hA 4 (by decide)
                  clear hA
                  refine Box.mk ?_
                  try simp only [e3, e4, allPut, puts, Act.put, List.setIfInBounds_toArray, List.set_cons_zero, List.set_cons_succ] at hK ⊢
                  clear e4
                  go_simp
                  obtain ⟨hh, k1, k2⟩ := hSt.st.ag
                  have k3 := Len_any k1
                  rw [HLN.out] at k3
                  refine k3.mono ?_
                  rintro e w5 ⟨rfl, q, e1⟩
                  have hb : Below y.heap.size y w5 := by rw [e1]; exact drewN_below y q
                  clear e1
                  go_simp
                  exact hK.out _ _ ⟨hSt.on hb, (Mod.of_below hb []).whole hBx (by simp)⟩ (show (updv vs 5 _) 5 = .int .i64 ((m : Int) - (jx : Int)) from rfl) (fun jj _ _ h => HKEEP.out vs y w5 hb jj h) (fun _ h => h)
                refine EachAll.snoc (i := 4) (o := { dst := some 97, op := Op.move (Operand.tmp 5), type := 22, pos := _, after := #[{ on := 3, ground := Ground.guard }], guard := some (3, true) }) (l := [0, 1, 2, 3]) (A := fun vs => Act.put (Act.put (Act.put (Act.put (_) (some 96) (vs 3)) (some 95) (vs 2)) (some 94) (vs 1)) (some 93) (vs 0)) ?_ rfl rfl (fun _ => rfl) ?_
                rotate_left
                · intro vs y hI hJ hA K hK
                  obtain ⟨hSt, hBx⟩ := hI
                  clear hJ
                  have e3 : vs 3 = .bool true := hA 3 (by decide)
                  clear hA
                  refine Box.mk ?_
                  try simp only [e3, allPut, puts, Act.put, List.setIfInBounds_toArray, List.set_cons_zero, List.set_cons_succ] at hK ⊢
                  go_simp
                  exact hK.out _ _ ⟨hSt, hBx⟩ (show (updv vs 4 _) 4 = .pointer (some ⟨b, 0, none⟩) from rfl) (fun _ _ _ h => h) (fun _ h => h)
                refine EachAll.snoc (i := 3) (o := { dst := some 96, op := Op.move (Operand.tmp 95), type := 4, pos := _, after := #[{ on := 2, ground := Ground.data }], guard := none }) (l := [0, 1, 2]) (A := fun vs => Act.put (Act.put (Act.put (_) (some 95) (vs 2)) (some 94) (vs 1)) (some 93) (vs 0)) ?_ rfl rfl (fun _ => rfl) ?_
                rotate_left
                · intro vs y hI hJ hA K hK
                  obtain ⟨hSt, hBx⟩ := hI
                  clear hJ
                  have e2 : vs 2 = .bool true := hA 2 (by decide)
                  clear hA
                  refine Box.mk ?_
                  try simp only [e2, allPut, puts, Act.put, List.setIfInBounds_toArray, List.set_cons_zero, List.set_cons_succ] at hK ⊢
                  go_simp
                  exact hK.out _ _ ⟨hSt, hBx⟩ (show (updv vs 3 _) 3 = .bool true from rfl) (fun _ _ _ h => h) (fun _ h => h)
                refine EachAll.snoc (i := 2) (o := { dst := some 95, op := Op.binOp BinOp.eql 29 (Operand.tmp 93) (Operand.tmp 94) 29, type := 4, pos := _, after := #[{ on := 0, ground := Ground.data }, { on := 1, ground := Ground.data }], guard := none }) (l := [0, 1]) (A := fun vs => Act.put (Act.put (_) (some 94) (vs 1)) (some 93) (vs 0)) ?_ rfl rfl (fun _ => rfl) ?_
                rotate_left
                · intro vs y hI hJ hA K hK
                  obtain ⟨hSt, hBx⟩ := hI
                  clear hJ
                  have e0 : vs 0 = .agg #[.int .i64 0, .int .i64 0, .int .i64 0] := hA 0 (by decide)
                  have e1 : vs 1 = .agg #[.int .i64 0, .int .i64 0, .int .i64 0] := hA 1 (by decide)
                  clear hA
                  refine Box.mk ?_
                  try simp only [e0, e1, allPut, puts, Act.put, List.setIfInBounds_toArray, List.set_cons_zero, List.set_cons_succ] at hK ⊢
                  go_simp
                  exact hK.out _ _ ⟨hSt, hBx⟩ (show (updv vs 2 _) 2 = .bool true from rfl) (fun _ _ _ h => h) (fun _ h => h)
                refine EachAll.snoc (i := 1) (o := { dst := some 94, op := Op.build 29 #[], type := 29, pos := _, after := #[], guard := none }) (l := []) (A := fun vs => _) ?_ rfl rfl (fun _ => rfl) ?_
                rotate_left
                · intro vs y hI hJ hA K hK
                  obtain ⟨hSt, hBx⟩ := hI
                  clear hJ
                  clear hA
                  refine Box.mk ?_
                  try simp only [allPut, puts, Act.put, List.setIfInBounds_toArray, List.set_cons_zero, List.set_cons_succ] at hK ⊢
                  go_simp
                  exact hK.out _ _ ⟨hSt, hBx⟩ (show (updv vs 1 _) 1 = .agg #[.int .i64 0, .int .i64 0, .int .i64 0] from rfl) (fun _ _ _ h => h) (fun _ h => h)
                refine EachAll.snoc (i := 0) (o := { dst := some 93, op := Op.load 29 (Operand.tmp 13), type := 29, pos := _, after := #[], guard := none }) (l := []) (A := fun vs => _) ?_ rfl rfl (fun _ => rfl) ?_
                rotate_left
                · intro vs y hI hJ hA K hK
                  obtain ⟨hSt, hBx⟩ := hI
                  clear hJ
                  clear hA
                  refine Box.mk ?_
                  try simp only [allPut, puts, Act.put, List.setIfInBounds_toArray, List.set_cons_zero, List.set_cons_succ] at hK ⊢
                  have x0 : y.cell? ⟨px, 0, none⟩ = some (.int .i64 0) := hBx.cell 0
                  have x1 : y.cell? ⟨px, 1, none⟩ = some (.int .i64 0) := hBx.cell 1
                  have x2 : y.cell? ⟨px, 2, none⟩ = some (.int .i64 0) := hBx.cell 2
                  go_simp
                  exact hK.out _ _ ⟨hSt, hBx⟩ (show (updv vs 0 _) 0 = .agg #[.int .i64 0, .int .i64 0, .int .i64 0] from rfl) (fun _ _ _ h => h) (fun _ h => h)
                exact EachAll.nil
              · intro vs y hI hall
                obtain ⟨hSt, hBx⟩ := hI
                have e0 : vs 0 = .agg #[.int .i64 0, .int .i64 0, .int .i64 0] := hall 0 (by decide)
                have e1 : vs 1 = .agg #[.int .i64 0, .int .i64 0, .int .i64 0] := hall 1 (by decide)
                have e2 : vs 2 = .bool true := hall 2 (by decide)
                have e3 : vs 3 = .bool true := hall 3 (by decide)
                have e4 : vs 4 = .pointer (some ⟨b, 0, none⟩) := hall 4 (by decide)
                have e5 : vs 5 = .int .i64 ((m : Int) - (jx : Int)) := hall 5 (by decide)
                have e6 : vs 6 = .int .i64 (m : Int) := hall 6 (by decide)
                have e7 : vs 7 = .int .i64 (jx : Int) := hall 7 (by decide)
                have e8 : vs 8 = .int .i64 ((m : Int) - (jx : Int)) := hall 8 (by decide)
                have e9 : vs 9 = .bool true := hall 9 (by decide)
                have e10 : vs 10 = .bool true := hall 10 (by decide)
                have e11 : vs 11 = .bool true := hall 11 (by decide)
                have e12 : vs 12 = .pointer (some ⟨b, 0, none⟩) := hall 12 (by decide)
                have hF13 : ∃ A13 c13, vs 13 = .slice A13 D.length c13 ∧ y.ownsRow w1.heap.size 29 3 (.slice A13 D.length c13) D.length (flat D) := hall 13 (by decide)
                obtain ⟨A13, c13, e13, ho13⟩ := hF13
                have e14 : vs 14 = .slice (some ⟨lg, lo, none⟩) m lc := hall 14 (by decide)
                have e15 : vs 15 = .int .i64 (jx : Int) := hall 15 (by decide)
                have e16 : vs 16 = .slice (some ⟨lg, lo + jx * 3, none⟩) (m - jx) (lc - jx) := hall 16 (by decide)
                have e17 : vs 17 = .bool true := hall 17 (by decide)
                have e18 : vs 18 = .bool true := hall 18 (by decide)
                have e19 : vs 19 = .bool true := hall 19 (by decide)
                clear hall HKEEP
                refine Box.mk ?_
                simp only [e0, e1, e2, e3, e4, e5, e6, e7, e8, e9, e10, e11, e12, e13, e14, e15, e16, e17, e18, e19, allPut, puts, Act.put, List.setIfInBounds_toArray, List.set_cons_zero, List.set_cons_succ]
                have HB9 := Lib.hid hSt.st.below
                clear hSt hBx ho13 e0 e1 e2 e3 e4 e5 e6 e7 e8 e9 e10 e11 e12 e13 e14 e15 e16 e17 e18 e19
                go_wp2_with fail
                go_ret
                exact ⟨rfl, below_on HB1.out HB9.out⟩
        · obtain rfl : jx = m := by omega
          have HLD := Lib.hid (show L.drop jx = [] from List.drop_eq_nil_of_le (by rw [HM.out]; exact Nat.le_refl _))
          rw [HLD.out] at HS
          go_wp2_with fail
          refine (Take_any HS.out.st.ag now).mono ?_
          rintro e w5 ⟨he, ha, hm5⟩
          have he2 : e = .returned (tup itz false) := he
          have ha2 : AgAt w5 b [] := ha
          have HS5 := Lib.hid (HS.out.put ha2 hm5)
          subst he2
          clear he ha ha2 hm5 HS
          have HS6 := Lib.hid (HS5.out.on ((Below.refl _ w5).alloc (Nat.le_refl _) (.cells (three itz) 29)))
          unfold tup agg itz
          unfold three itz at HS6
          go_wp2_with fail
          generalize w5.alloc (.cells #[.int .i64 0, .int .i64 0, .int .i64 0] 29) = w6 at HS6 ⊢
          obtain ⟨hh, k1, k2⟩ := HS6.out.st.ag
          have hz : (([] : List It).length : Int) = 0 := rfl
          have HLE := Lib.hid (Len_any k1)
          rw [hz] at HLE
          clear k1 k2 hz
          refine HLE.out.mono ?_
          rintro e w7 ⟨rfl, q, e1⟩
          have hb : Below w6.heap.size w6 w7 := by rw [e1]; exact drewN_below w6 q
          have HS7 := Lib.hid (HS6.out.on hb)
          clear hb HS6 e1 HLE
          go_wp2_with fail
          go_ret
          exact ⟨rfl, below_on HB1.out HS7.out.st.below⟩

theorem own : ownKnob Try.prog.godebug = none := by kernel_rfl
theorem laidOut : laidOutB Try.prog = true := by kernel_rfl
set_option maxRecDepth 100000 in
theorem lifted (os : Os) (started : os.Started) (H : Type) (enc : TypeId × Value → H) :
    ReturnsInHanded {} Try.checked os 5 .any (Rows.agendaTakesSpec.pre6 enc Try.prog Try.f5 [] false) (Rows.agendaTakesSpec.post enc Try.prog Try.f5 false true false false) := by
  refine LK.lifted_bare (C := Try.checked) (tb := 4) own started (by kernel_rfl) Try.func5 laidOut rfl (by kernel_rfl) (by kernel_rfl) Try.underlying4
    (fun ds h => by
      match ds, h with
      | [_, _], _ => rfl)
    (ChangeSpec.witness6 (enc := enc) (C := Try.checked) false ⟨#[], #[.slice none 0 0, .int .i64 0], []⟩ 8 (by kernel_rfl) (by kernel_rfl) (by kernel_rfl) (by kernel_rfl)) ?_
  intro W base args ds ps hval hA hwt _
  rw [show Try.f5.params.toList = [32, 3] by kernel_rfl] at hA hwt
  have hval' : ∀ (j : Nat) t v, (#[32, 3] : Array TypeId)[j]? = some t → args[j]? = some v → Value.okWide Try.prog W .any base t v := by
    rw [← Try.params5]; exact hval
  clear hval
  obtain ⟨v0, v1, d0, d1, pl0, pl1, rfl, rfl, rfl, h0, h1⟩ := trodAll_two hA
  obtain ⟨A0, c0, xs0, rfl, hP0, hc0, hm0, hl0⟩ := open_items (hval' 0 32 v0 rfl rfl) h0 hwt (j := 0) rfl rfl
  obtain ⟨n1, rfl, rfl, rfl, hn1⟩ := open_int Try.underlying3 (hval' 1 3 v1 rfl rfl) h1
  have hr1 : -9223372036854775808 ≤ n1 ∧ n1 ≤ 9223372036854775807 := by simpa [Lit.wf, IntKind.min, IntKind.max, IntKind.signed, IntKind.bits] using hn1
  exact walk A0 c0 xs0 n1 W hP0 hc0 hm0 hl0 hr1

/-- The statement. -/
theorem proved : Rows.AgendaTakesSaid :=
  OpenClaim.holds_of_wide 5 Try.f5 rfl rfl rfl rfl rfl rfl rfl ⟨rfl, rfl, rfl, rfl, rfl⟩ rfl rfl rfl rfl rfl (by kernel_rfl) Try.func5 (by kernel_rfl)
    (of_decide_eq_true (by kernel_rfl)) (by unfold Func.isWrapper; first | (rw [if_pos (by decide +kernel)]; kernel_rfl) | (rw [if_neg (by decide +kernel)]; exact ⟨rfl, rfl⟩))
    (fun os started H enc _ => lifted os started H enc)

end Go.Proofs.Ytkgipdhbaiaaeaa.lawAgendaTakes
