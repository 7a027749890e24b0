/- The document's own answers of layer 13: Put. -/
import Derived.Test.YtkgipdhbaiaaeaaAgR1
namespace Go.Proofs.Ytkgipdhbaiaaeaa
open Go.RowKit Go.Sort
open AM (It HS g sw)
set_option linter.unusedVariables false
set_option linter.unusedSimpArgs false
set_option maxRecDepth 100000
theorem ins_eq {L : List It} {x : It} : ∀ {i : Nat}, i ≤ L.length → (∀ j, j < i → AM.before (g L j) x = true) → (i < L.length → AM.before (g L i) x = false) → AM.ins L x = L.take i ++ x :: L.drop i := by
  induction L with
  | nil =>
    intro i hi _ _
    have : i = 0 := by simpa using hi
    subst this
    rfl
  | cons a L ih =>
    intro i hi h1 h2
    cases i with
    | zero =>
      have h3 : AM.before a x = false := h2 (by simp)
      unfold AM.ins
      rw [h3]
      rfl
    | succ i =>
      have h3 : AM.before a x = true := h1 0 (by omega)
      unfold AM.ins
      rw [if_pos h3, ih (i := i) (by simpa using hi) (fun j hj => h1 (j + 1) (by omega)) (fun h => h2 (by simpa using h))]
      rfl
theorem drop_le (L : List It) (k y : Int) : (AM.drop L k y).length ≤ L.length := List.length_filter_le ..
theorem mid_more {L : List It} {x : It} {i k : Nat} (hi : i ≤ k) (hk : k < L.length) : L.take i ++ x :: (L.drop i).take (k + 1 - i) = (L.take i ++ x :: (L.drop i).take (k - i)) ++ [g L k] := by
  rw [List.append_assoc, List.cons_append]
  congr 2
  rw [show k + 1 - i = (k - i) + 1 by omega, List.take_add_one, List.getElem?_drop, show i + (k - i) = k by omega, AM.g_get hk]
  rfl
def RPutPost (w : World) (A : Option Addr) (n c : Nat) (L : List It) (x : It) (e : Ending) (w' : World) : Prop :=
  ∃ v, e = .returned (.tuple #[v, .int .i64 (AM.put L x).2]) ∧ Below w.heap.size w w' ∧ ((v = .slice A n c ∧ (AM.put L x).1 = L) ∨ w'.ownsRow w.heap.size 29 3 v (AM.put L x).1.length (flat (AM.put L x).1))
section
variable {w : World} {A : Option Addr} {n c : Nat} {L : List It}
set_option maxHeartbeats 8000000 in
theorem RPut (x : It) (h : ItsAt w A L) (hn : L.length = n) (hm : n ≤ 32) : Calls Try.prog 21 #[.slice A n c, agg x] w (RPutPost w A n c L x) := by
  have HX := Lib.hid (Bx.start w x)
  have H1 := Lib.hid (h.below HX.out.below)
  have HN := Lib.hid hn
  clear h hn
  unfold agg
  go_enter Try.func21, Try.ntmps21
  have q0 : (w.alloc (.cells (three x) 29)).cell? ⟨w.heap.size, 0, none⟩ = some (.int .i64 x.due) := (three_cells HX.out.whole).1
  have q1 : (w.alloc (.cells (three x) 29)).cell? ⟨w.heap.size, 1, none⟩ = some (.int .i64 x.kind) := (three_cells HX.out.whole).2.1
  have q2 : (w.alloc (.cells (three x) 29)).cell? ⟨w.heap.size, 2, none⟩ = some (.int .i64 x.key) := (three_cells HX.out.whole).2.2
  unfold three at q0 q1 q2 HX H1
  have HX' : Hid (Bx w (w.alloc (.cells #[.int .i64 x.due, .int .i64 x.kind, .int .i64 x.key] 29)) x) := HX
  clear HX
  by_cases m0 : x.due < 0
  · have hmay : AM.may x = false := by
      simp only [AM.may, Bool.and_eq_false_iff, decide_eq_false_iff_not]
      omega
    have HP := Lib.hid (show AM.put L x = (L, 2) by unfold AM.put; rw [if_pos hmay])
    clear hmay
    go_wp2_with fail
    refine bodyPost_ret (v := .tuple #[.slice A n c, .int .i64 2]) (by simp [results, Try.results21, go_sem]) rfl ?_
    exact ⟨_, by rw [HP.out], HX'.out.below, .inl ⟨rfl, by rw [HP.out]⟩⟩
  · by_cases m1 : 4611686018427387904 < x.due
    · have hmay : AM.may x = false := by
        simp only [AM.may, Bool.and_eq_false_iff, decide_eq_false_iff_not]
        omega
      have HP := Lib.hid (show AM.put L x = (L, 2) by unfold AM.put; rw [if_pos hmay])
      clear hmay
      go_wp2_with fail
      refine bodyPost_ret (v := .tuple #[.slice A n c, .int .i64 2]) (by simp [results, Try.results21, go_sem]) rfl ?_
      exact ⟨_, by rw [HP.out], HX'.out.below, .inl ⟨rfl, by rw [HP.out]⟩⟩
    · by_cases m2 : x.kind < 1
      · have hmay : AM.may x = false := by
          simp only [AM.may, Bool.and_eq_false_iff, decide_eq_false_iff_not]
          omega
        have HP := Lib.hid (show AM.put L x = (L, 2) by unfold AM.put; rw [if_pos hmay])
        clear hmay
        go_wp2_with fail
        refine bodyPost_ret (v := .tuple #[.slice A n c, .int .i64 2]) (by simp [results, Try.results21, go_sem]) rfl ?_
        exact ⟨_, by rw [HP.out], HX'.out.below, .inl ⟨rfl, by rw [HP.out]⟩⟩
      · by_cases m3 : 4 < x.kind
        · have hmay : AM.may x = false := by
            simp only [AM.may, Bool.and_eq_false_iff, decide_eq_false_iff_not]
            omega
          have HP := Lib.hid (show AM.put L x = (L, 2) by unfold AM.put; rw [if_pos hmay])
          clear hmay
          go_wp2_with fail
          refine bodyPost_ret (v := .tuple #[.slice A n c, .int .i64 2]) (by simp [results, Try.results21, go_sem]) rfl ?_
          exact ⟨_, by rw [HP.out], HX'.out.below, .inl ⟨rfl, by rw [HP.out]⟩⟩
        · have hmay : AM.may x = true := by
            simp only [AM.may, Bool.and_eq_true, decide_eq_true_eq]
            omega
          have HMAY := Lib.hid hmay
          clear hmay
          go_wp2_with fail
          clear m0 m1 m2 m3
          generalize w.alloc (.cells #[.int .i64 x.due, .int .i64 x.kind, .int .i64 x.key] 29) = w1 at HX' H1 q0 q1 q2 ⊢
          refine (RDrop x.kind x.key H1.out HN.out (by omega)).mono ?_
          rintro e w2 ⟨v, rfl, hg⟩
          obtain ⟨RA, rc, rfl, _, _⟩ := own_shapeI hg.1
          have HX2 := Lib.hid (HX'.out.on hg.2)
          have HR := Lib.hid (ItsAt.own hg.1)
          clear hg q0 q1 q2 HX' H1
          obtain ⟨q0, q1, q2⟩ := three_cells HX2.out.whole
          cases hh : AM.has L x.kind x.key with
          | false =>
            by_cases h32 : n = 32
            · have HP := Lib.hid (show AM.put L x = (L, 51) by
                unfold AM.put
                rw [if_neg (by rw [HMAY.out]; simp), if_pos ⟨hh, HN.out.trans h32⟩])
              have e32 : ((n : Int) == 32) = true := by rw [beq_iff_eq]; omega
              clear hh
              go_wp2_with fail
              refine bodyPost_ret (v := .tuple #[.slice A n c, .int .i64 51]) (by simp [results, Try.results21, go_sem, h32]) rfl ?_
              exact ⟨_, by rw [HP.out], HX2.out.below, .inl ⟨rfl, by rw [HP.out]⟩⟩
            · have HP := Lib.hid (show AM.put L x = (AM.ins (AM.drop L x.kind x.key) x, 0) by
                unfold AM.put
                rw [if_neg (by rw [HMAY.out]; simp), if_neg (fun hc => h32 (HN.out.symm.trans hc.2))])
              have e32 : ((n : Int) == 32) = false := by rw [beq_eq_false_iff_ne]; omega
              have HML := Lib.hid (show (AM.drop L x.kind x.key).length ≤ 32 from Nat.le_trans (drop_le ..) (by rw [HN.out]; exact hm))
              clear hh
              go_wp2_with fail
              generalize AM.drop L x.kind x.key = M at HP HML HR ⊢
              clear q0 q1 q2
              obtain ⟨m, hm2⟩ : ∃ m, M.length = m := ⟨_, rfl⟩
              have HMm := Lib.hid hm2
              rw [hm2] at HML ⊢
              have hm3 : m ≤ 32 := HML.out
              clear hm2
              go_loopw [8, 9] (fun ov iv wr => ∃ (i : Nat) (ds : List It), iv = .int .i64 (i : Int) ∧ i ≤ m ∧ Hid (M.take i = ds) ∧ Hid (GrewI w2 ds ov wr) ∧ Hid (∀ j, j < i → AM.before (g M j) x = true)) (fun ov iv _ => m - (intOf iv).toNat)
              case atStart => exact ⟨0, [], rfl, Nat.zero_le _, Lib.hid rfl, Lib.hid (GrewI.nil w2), Lib.hid (fun j hj => absurd hj (Nat.not_lt_zero _))⟩
              case round =>
                obtain ⟨i, ds, rfl, hi, HDI, HG, HB⟩ := hrel
                obtain ⟨OA, oc, rfl, _, _⟩ := own_shapeI HG.out.1
                by_cases hin : i < m
                · have d1 : decide ((i : Int) < (m : Int)) = true := by simp; omega
                  have d2 : ((0 : Int) ≤ (i : Int)) := by omega
                  have d3 : ((i : Int) < (m : Int)) := by omega
                  have hw : IntKind.i64.wrap ((i : Int) + 1) = (i : Int) + 1 := IntWalk.i64_in _ (by omega)
                  obtain ⟨b, o, hRA, hb, i0, i1, i2⟩ := (HR.out.below HG.out.2).at (k := i) (by rw [HMm.out]; exact hin)
                  subst hRA
                  have HX3 := Lib.hid (HX2.out.on HG.out.2)
                  obtain ⟨q0, q1, q2⟩ := three_cells HX3.out.whole
                  have HTK := Lib.hid (take_more (h := M) (k := i) (by rw [HMm.out]; exact hin))
                  go_wp2_with fail
                  go_still_tail 10, (by kernel_rfl)
                  change wpList _ _ _ _ _ wr.drew
                  have HC := Lib.hid (RBefore (g M i) x wr.drew)
                  unfold agg at HC
                  go_wp2_with fail
                  refine HC.out.mono ?_
                  rintro e w3 ⟨rfl, hb3⟩
                  have HG3 := Lib.hid (HG.out.keep (below_of_drew hb3))
                  clear hb3 HG HC q0 q1 q2 HX3 i0 i1 i2
                  cases hbf : AM.before (g M i) x with
                  | true =>
                    have HBF := Lib.hid hbf
                    clear hbf
                    obtain ⟨b', o', e', hb', i0, i1, i2⟩ := (HR.out.below HG3.out.2).at (k := i) (by rw [HMm.out]; exact hin)
                    injection e' with e'
                    injection e' with e1 e2
                    subst e1 e2
                    have HLI := Lib.hid (show ds.length ≤ 64 by rw [← HDI.out, List.length_take]; omega)
                    rw [HDI.out] at HTK
                    go_wp2_with (at_builtin; refine app_it rfl (.tmp 58) (.tmp 63) rfl _ ds HG3.out rfl (g M i) rfl (by have := HLI.out; omega) ?_; intro v' w4 hg2; have HG2 := Lib.hid hg2; clear hg2)
                    go_roundw
                    case rel =>
                      exact ⟨i + 1, _, rfl, by omega, Lib.hid HTK.out, HG2, Lib.hid (fun j hj => by
                        by_cases e : j = i
                        · rw [e]; exact HBF.out
                        · exact HB.out j (by omega))⟩
                    case measure => simp [intOf]; omega
                  | false =>
                    have HINS := Lib.hid (ins_eq (L := M) (x := x) (i := i) (by rw [HMm.out]; exact hi) HB.out (fun _ => hbf))
                    clear hbf
                    have HG := HG3
                    clear HG3
                    have HXW := Lib.hid (HX2.out.on HG.out.2)
                    obtain ⟨q0, q1, q2⟩ := three_cells HXW.out.whole
                    have HLI := Lib.hid (show ds.length ≤ 64 by rw [← HDI.out, List.length_take]; omega)
                    go_wp2_with (at_builtin; refine app_it rfl (.tmp 67) (.tmp 69) rfl _ ds HG.out rfl x rfl (by have := HLI.out; omega) ?_; intro v' w4 hg2; have HGX := Lib.hid hg2; clear hg2)
                    rw [← HDI.out] at HGX
                    clear HG HLI HXW q0 q1 q2
                    go_loopw [8, 9] (fun ov iv wr => ∃ (k : Nat) (ds : List It), iv = .int .i64 (k : Int) ∧ i ≤ k ∧ k ≤ m ∧ Hid (M.take i ++ x :: (M.drop i).take (k - i) = ds) ∧ Hid (GrewI w2 ds ov wr)) (fun ov iv _ => m - (intOf iv).toNat)
                    case atStart => exact ⟨i, _, rfl, Nat.le_refl _, hi, Lib.hid (by rw [Nat.sub_self]; rfl), HGX⟩
                    case round =>
                      obtain ⟨k, ds, rfl, hik, hkm, HDS, HK⟩ := hrel
                      obtain ⟨OB, ob, rfl, _, _⟩ := own_shapeI HK.out.1
                      by_cases hkn : k < m
                      · have d4 : ((k : Int) < (m : Int)) := by omega
                        have d5 : ((0 : Int) ≤ (k : Int)) := by omega
                        have hw2 : IntKind.i64.wrap ((k : Int) + 1) = (k : Int) + 1 := IntWalk.i64_in _ (by omega)
                        have HML2 := Lib.hid (show ds.length ≤ 64 by rw [← HDS.out]; simp; omega)
                        have HMM := Lib.hid (mid_more (L := M) (x := x) (i := i) (k := k) hik (by rw [HMm.out]; exact hkn))
                        obtain ⟨b9, o9, hR9, hb9, i0, i1, i2⟩ := (HR.out.below HK.out.2).at (k := k) (by rw [HMm.out]; exact hkn)
                        injection hR9 with hR9
                        injection hR9 with e1 e2
                        subst e1 e2
                        rw [HDS.out] at HMM
                        go_wp2_with (at_builtin; refine app_it rfl (.tmp 75) (.tmp 80) rfl _ ds HK.out rfl (g M k) rfl (by have := HML2.out; omega) ?_; intro v' w5 hg2; have HG2 := Lib.hid hg2; clear hg2)
                        go_roundw
                        case rel => exact ⟨k + 1, _, rfl, by omega, by omega, Lib.hid HMM.out, HG2⟩
                        case measure => simp [intOf]; omega
                      · have d4 : decide ((k : Int) < (m : Int)) = false := by simp; omega
                        have HE := Lib.hid (show ds = AM.ins M x by rw [← HDS.out, HINS.out, List.take_of_length_le (l := M.drop i) (i := k - i) (by rw [List.length_drop, HMm.out]; omega)])
                        rw [HE.out] at HK ⊢
                        clear HE
                        go_wp2_with fail
                        refine bodyPost_ret (v := .tuple #[.slice OB (AM.ins M x).length ob, .int .i64 0]) (by simp [results, Try.results21, go_sem]) rfl ?_
                        have hb0 : Below w.heap.size w2 _ := HK.out.2.mono HX2.out.below.size
                        refine ⟨_, by rw [HP.out], HX2.out.below.trans hb0, .inr ?_⟩
                        rw [HP.out]
                        refine ⟨HK.out.1.1, ?_⟩
                        rcases HK.out.1.2 with h0 | ⟨gg, cap, cur, e1, k1, hr⟩
                        · exact .inl h0
                        · exact .inr ⟨gg, cap, cur, e1, Nat.le_trans HX2.out.below.size k1, hr⟩
                · have d1 : decide ((i : Int) < (m : Int)) = false := by simp; omega
                  have HINS := Lib.hid (ins_eq (L := M) (x := x) (i := i) (by rw [HMm.out]; exact hi) HB.out (fun h => absurd h (by rw [HMm.out]; exact hin)))
                  go_wp2_with fail
                  go_quiet (fail)
                  have HGQ := Lib.hid (HG.out.keep (drewN_below wr nq))
                  clear HG
                  have HG := HGQ
                  clear HGQ
                  generalize wr.drewN nq = wq at HG ⊢
                  have HXW := Lib.hid (HX2.out.on HG.out.2)
                  obtain ⟨q0, q1, q2⟩ := three_cells HXW.out.whole
                  have HLI := Lib.hid (show ds.length ≤ 64 by rw [← HDI.out, List.length_take]; omega)
                  go_wp2_with (at_builtin; refine app_it rfl (.tmp 67) (.tmp 69) rfl _ ds HG.out rfl x rfl (by have := HLI.out; omega) ?_; intro v' w4 hg2; have HGX := Lib.hid hg2; clear hg2)
                  rw [← HDI.out] at HGX
                  clear HG HLI HXW q0 q1 q2
                  go_loopw [8, 9] (fun ov iv wr => ∃ (k : Nat) (ds : List It), iv = .int .i64 (k : Int) ∧ i ≤ k ∧ k ≤ m ∧ Hid (M.take i ++ x :: (M.drop i).take (k - i) = ds) ∧ Hid (GrewI w2 ds ov wr)) (fun ov iv _ => m - (intOf iv).toNat)
                  case atStart => exact ⟨i, _, rfl, Nat.le_refl _, hi, Lib.hid (by rw [Nat.sub_self]; rfl), HGX⟩
                  case round =>
                    obtain ⟨k, ds, rfl, hik, hkm, HDS, HK⟩ := hrel
                    obtain ⟨OB, ob, rfl, _, _⟩ := own_shapeI HK.out.1
                    by_cases hkn : k < m
                    · exact absurd (Nat.lt_of_le_of_lt hik hkn) hin
                    · have d4 : decide ((k : Int) < (m : Int)) = false := by simp; omega
                      have HE := Lib.hid (show ds = AM.ins M x by rw [← HDS.out, HINS.out, List.take_of_length_le (l := M.drop i) (i := k - i) (by rw [List.length_drop, HMm.out]; omega)])
                      rw [HE.out] at HK ⊢
                      clear HE
                      go_wp2_with fail
                      refine bodyPost_ret (v := .tuple #[.slice OB (AM.ins M x).length ob, .int .i64 0]) (by simp [results, Try.results21, go_sem]) rfl ?_
                      have hb0 : Below w.heap.size w2 _ := HK.out.2.mono HX2.out.below.size
                      refine ⟨_, by rw [HP.out], HX2.out.below.trans hb0, .inr ?_⟩
                      rw [HP.out]
                      refine ⟨HK.out.1.1, ?_⟩
                      rcases HK.out.1.2 with h0 | ⟨gg, cap, cur, e1, k1, hr⟩
                      · exact .inl h0
                      · exact .inr ⟨gg, cap, cur, e1, Nat.le_trans HX2.out.below.size k1, hr⟩
          | true =>
            have HP := Lib.hid (show AM.put L x = (AM.ins (AM.drop L x.kind x.key) x, 0) by
              unfold AM.put
              rw [if_neg (by rw [HMAY.out]; simp), if_neg (fun hc => by rw [hh] at hc; exact absurd hc.1 (by simp))])
            have HML := Lib.hid (show (AM.drop L x.kind x.key).length ≤ 32 from Nat.le_trans (drop_le ..) (by rw [HN.out]; exact hm))
            clear hh
            go_wp2_with fail
            generalize AM.drop L x.kind x.key = M at HP HML HR ⊢
            clear q0 q1 q2
            obtain ⟨m, hm2⟩ : ∃ m, M.length = m := ⟨_, rfl⟩
            have HMm := Lib.hid hm2
            rw [hm2] at HML ⊢
            have hm3 : m ≤ 32 := HML.out
            clear hm2
            go_loopw [8, 9] (fun ov iv wr => ∃ (i : Nat) (ds : List It), iv = .int .i64 (i : Int) ∧ i ≤ m ∧ Hid (M.take i = ds) ∧ Hid (GrewI w2 ds ov wr) ∧ Hid (∀ j, j < i → AM.before (g M j) x = true)) (fun ov iv _ => m - (intOf iv).toNat)
            case atStart => exact ⟨0, [], rfl, Nat.zero_le _, Lib.hid rfl, Lib.hid (GrewI.nil w2), Lib.hid (fun j hj => absurd hj (Nat.not_lt_zero _))⟩
            case round =>
              obtain ⟨i, ds, rfl, hi, HDI, HG, HB⟩ := hrel
              obtain ⟨OA, oc, rfl, _, _⟩ := own_shapeI HG.out.1
              by_cases hin : i < m
              · have d1 : decide ((i : Int) < (m : Int)) = true := by simp; omega
                have d2 : ((0 : Int) ≤ (i : Int)) := by omega
                have d3 : ((i : Int) < (m : Int)) := by omega
                have hw : IntKind.i64.wrap ((i : Int) + 1) = (i : Int) + 1 := IntWalk.i64_in _ (by omega)
                obtain ⟨b, o, hRA, hb, i0, i1, i2⟩ := (HR.out.below HG.out.2).at (k := i) (by rw [HMm.out]; exact hin)
                subst hRA
                have HX3 := Lib.hid (HX2.out.on HG.out.2)
                obtain ⟨q0, q1, q2⟩ := three_cells HX3.out.whole
                have HTK := Lib.hid (take_more (h := M) (k := i) (by rw [HMm.out]; exact hin))
                go_wp2_with fail
                go_still_tail 10, (by kernel_rfl)
                change wpList _ _ _ _ _ wr.drew
                have HC := Lib.hid (RBefore (g M i) x wr.drew)
                unfold agg at HC
                go_wp2_with fail
                refine HC.out.mono ?_
                rintro e w3 ⟨rfl, hb3⟩
                have HG3 := Lib.hid (HG.out.keep (below_of_drew hb3))
                clear hb3 HG HC q0 q1 q2 HX3 i0 i1 i2
                cases hbf : AM.before (g M i) x with
                | true =>
                  have HBF := Lib.hid hbf
                  clear hbf
                  obtain ⟨b', o', e', hb', i0, i1, i2⟩ := (HR.out.below HG3.out.2).at (k := i) (by rw [HMm.out]; exact hin)
                  injection e' with e'
                  injection e' with e1 e2
                  subst e1 e2
                  have HLI := Lib.hid (show ds.length ≤ 64 by rw [← HDI.out, List.length_take]; omega)
                  rw [HDI.out] at HTK
                  go_wp2_with (at_builtin; refine app_it rfl (.tmp 58) (.tmp 63) rfl _ ds HG3.out rfl (g M i) rfl (by have := HLI.out; omega) ?_; intro v' w4 hg2; have HG2 := Lib.hid hg2; clear hg2)
                  go_roundw
                  case rel =>
                    exact ⟨i + 1, _, rfl, by omega, Lib.hid HTK.out, HG2, Lib.hid (fun j hj => by
                      by_cases e : j = i
                      · rw [e]; exact HBF.out
                      · exact HB.out j (by omega))⟩
                  case measure => simp [intOf]; omega
                | false =>
                  have HINS := Lib.hid (ins_eq (L := M) (x := x) (i := i) (by rw [HMm.out]; exact hi) HB.out (fun _ => hbf))
                  clear hbf
                  have HG := HG3
                  clear HG3
                  have HXW := Lib.hid (HX2.out.on HG.out.2)
                  obtain ⟨q0, q1, q2⟩ := three_cells HXW.out.whole
                  have HLI := Lib.hid (show ds.length ≤ 64 by rw [← HDI.out, List.length_take]; omega)
                  go_wp2_with (at_builtin; refine app_it rfl (.tmp 67) (.tmp 69) rfl _ ds HG.out rfl x rfl (by have := HLI.out; omega) ?_; intro v' w4 hg2; have HGX := Lib.hid hg2; clear hg2)
                  rw [← HDI.out] at HGX
                  clear HG HLI HXW q0 q1 q2
                  go_loopw [8, 9] (fun ov iv wr => ∃ (k : Nat) (ds : List It), iv = .int .i64 (k : Int) ∧ i ≤ k ∧ k ≤ m ∧ Hid (M.take i ++ x :: (M.drop i).take (k - i) = ds) ∧ Hid (GrewI w2 ds ov wr)) (fun ov iv _ => m - (intOf iv).toNat)
                  case atStart => exact ⟨i, _, rfl, Nat.le_refl _, hi, Lib.hid (by rw [Nat.sub_self]; rfl), HGX⟩
                  case round =>
                    obtain ⟨k, ds, rfl, hik, hkm, HDS, HK⟩ := hrel
                    obtain ⟨OB, ob, rfl, _, _⟩ := own_shapeI HK.out.1
                    by_cases hkn : k < m
                    · have d4 : ((k : Int) < (m : Int)) := by omega
                      have d5 : ((0 : Int) ≤ (k : Int)) := by omega
                      have hw2 : IntKind.i64.wrap ((k : Int) + 1) = (k : Int) + 1 := IntWalk.i64_in _ (by omega)
                      have HML2 := Lib.hid (show ds.length ≤ 64 by rw [← HDS.out]; simp; omega)
                      have HMM := Lib.hid (mid_more (L := M) (x := x) (i := i) (k := k) hik (by rw [HMm.out]; exact hkn))
                      obtain ⟨b9, o9, hR9, hb9, i0, i1, i2⟩ := (HR.out.below HK.out.2).at (k := k) (by rw [HMm.out]; exact hkn)
                      injection hR9 with hR9
                      injection hR9 with e1 e2
                      subst e1 e2
                      rw [HDS.out] at HMM
                      go_wp2_with (at_builtin; refine app_it rfl (.tmp 75) (.tmp 80) rfl _ ds HK.out rfl (g M k) rfl (by have := HML2.out; omega) ?_; intro v' w5 hg2; have HG2 := Lib.hid hg2; clear hg2)
                      go_roundw
                      case rel => exact ⟨k + 1, _, rfl, by omega, by omega, Lib.hid HMM.out, HG2⟩
                      case measure => simp [intOf]; omega
                    · have d4 : decide ((k : Int) < (m : Int)) = false := by simp; omega
                      have HE := Lib.hid (show ds = AM.ins M x by rw [← HDS.out, HINS.out, List.take_of_length_le (l := M.drop i) (i := k - i) (by rw [List.length_drop, HMm.out]; omega)])
                      rw [HE.out] at HK ⊢
                      clear HE
                      go_wp2_with fail
                      refine bodyPost_ret (v := .tuple #[.slice OB (AM.ins M x).length ob, .int .i64 0]) (by simp [results, Try.results21, go_sem]) rfl ?_
                      have hb0 : Below w.heap.size w2 _ := HK.out.2.mono HX2.out.below.size
                      refine ⟨_, by rw [HP.out], HX2.out.below.trans hb0, .inr ?_⟩
                      rw [HP.out]
                      refine ⟨HK.out.1.1, ?_⟩
                      rcases HK.out.1.2 with h0 | ⟨gg, cap, cur, e1, k1, hr⟩
                      · exact .inl h0
                      · exact .inr ⟨gg, cap, cur, e1, Nat.le_trans HX2.out.below.size k1, hr⟩
              · have d1 : decide ((i : Int) < (m : Int)) = false := by simp; omega
                have HINS := Lib.hid (ins_eq (L := M) (x := x) (i := i) (by rw [HMm.out]; exact hi) HB.out (fun h => absurd h (by rw [HMm.out]; exact hin)))
                go_wp2_with fail
                go_quiet (fail)
                have HGQ := Lib.hid (HG.out.keep (drewN_below wr nq))
                clear HG
                have HG := HGQ
                clear HGQ
                generalize wr.drewN nq = wq at HG ⊢
                have HXW := Lib.hid (HX2.out.on HG.out.2)
                obtain ⟨q0, q1, q2⟩ := three_cells HXW.out.whole
                have HLI := Lib.hid (show ds.length ≤ 64 by rw [← HDI.out, List.length_take]; omega)
                go_wp2_with (at_builtin; refine app_it rfl (.tmp 67) (.tmp 69) rfl _ ds HG.out rfl x rfl (by have := HLI.out; omega) ?_; intro v' w4 hg2; have HGX := Lib.hid hg2; clear hg2)
                rw [← HDI.out] at HGX
                clear HG HLI HXW q0 q1 q2
                go_loopw [8, 9] (fun ov iv wr => ∃ (k : Nat) (ds : List It), iv = .int .i64 (k : Int) ∧ i ≤ k ∧ k ≤ m ∧ Hid (M.take i ++ x :: (M.drop i).take (k - i) = ds) ∧ Hid (GrewI w2 ds ov wr)) (fun ov iv _ => m - (intOf iv).toNat)
                case atStart => exact ⟨i, _, rfl, Nat.le_refl _, hi, Lib.hid (by rw [Nat.sub_self]; rfl), HGX⟩
                case round =>
                  obtain ⟨k, ds, rfl, hik, hkm, HDS, HK⟩ := hrel
                  obtain ⟨OB, ob, rfl, _, _⟩ := own_shapeI HK.out.1
                  by_cases hkn : k < m
                  · exact absurd (Nat.lt_of_le_of_lt hik hkn) hin
                  · have d4 : decide ((k : Int) < (m : Int)) = false := by simp; omega
                    have HE := Lib.hid (show ds = AM.ins M x by rw [← HDS.out, HINS.out, List.take_of_length_le (l := M.drop i) (i := k - i) (by rw [List.length_drop, HMm.out]; omega)])
                    rw [HE.out] at HK ⊢
                    clear HE
                    go_wp2_with fail
                    refine bodyPost_ret (v := .tuple #[.slice OB (AM.ins M x).length ob, .int .i64 0]) (by simp [results, Try.results21, go_sem]) rfl ?_
                    have hb0 : Below w.heap.size w2 _ := HK.out.2.mono HX2.out.below.size
                    refine ⟨_, by rw [HP.out], HX2.out.below.trans hb0, .inr ?_⟩
                    rw [HP.out]
                    refine ⟨HK.out.1.1, ?_⟩
                    rcases HK.out.1.2 with h0 | ⟨gg, cap, cur, e1, k1, hr⟩
                    · exact .inl h0
                    · exact .inr ⟨gg, cap, cur, e1, Nat.le_trans HX2.out.below.size k1, hr⟩
end
end Go.Proofs.Ytkgipdhbaiaaeaa
