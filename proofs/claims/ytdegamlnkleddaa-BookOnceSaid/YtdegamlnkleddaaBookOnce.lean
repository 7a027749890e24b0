/- Whatever records come, a book stays one, its counter never falls, and no counter is brought twice; for every book and every list of records. -/
import Derived.Test.YtdegamlnkleddaaBkR1
import Derived.Test.YtdegamlnkleddaaBkArg
import Derived.Test.YtdegamlnkleddaaLaw
import Derived.JoinedCond
import Derived.OpenShut
namespace Go.Proofs.Ytdegamlnkleddaa.lawBookOnce
open BM (Gr Rc Bk g0 r0 b0)
open Go Go.RowKit Go.ChangeShapes Go.WideShapes Go.ChangeAt
set_option linter.unusedVariables false
set_option linter.unusedSimpArgs false
set_option maxRecDepth 100000
theorem wrap_in {x : Int} (h : -9223372036854775808 ≤ x ∧ x ≤ 9223372036854775807) : wrap64 x = x := by
  unfold wrap64
  omega
/-- One number more behind a list of numbers of the call's own. -/
theorem list_app_int {W : World} {base : Nat} {v : Value} {us : List Int} {ops : Array Oper} {rest : List Oper} {o : Oper} {a : Act} {Q : Exit → Act → World → Prop} (hgd : o.guard = none) (s x : Operand)
    (ho : o.op = .call { callee := .builtin .append, args := #[s, x], argTypes := #[28, 28] }) (hown : OwnI W base v us) {p : Nat} {k : Int} (hp : Whole W p 3 #[.int .i64 k]) (hl : (us.length + 1) * 8 ≤ 140737488355328) (hb : base ≤ W.heap.size)
    (hsv : a.eval s = v) (hxv : a.eval x = .slice (some ⟨p, 0, none⟩) 1 1)
    (hK : ∀ v' w2, OwnI w2 base v' (us ++ [k]) → Mod v.ownBlock.toList W w2 → (v'.ownBlock = v.ownBlock ∨ v'.ownBlock = some W.heap.size) → wpList Try.prog ops Q rest (a.put o.dst v') w2) : wpList Try.prog ops Q (o :: rest) a W := by
  obtain ⟨i0, hi, hz0, hz1, hz2⟩ := info_parts info_int
  obtain ⟨v', w', hr, h2, h3, _, h5⟩ := run_append_own_at (P := Try.prog) W base 28 o.type 3 i0 (.int .i64 0) 1 8 Try.underlying28 hi hz0 hz1 hz2 rfl (by decide) v us.length (i64s us) hown ⟨p, 0, none⟩ 1 1 [.int .i64 k] rfl
    (World.news_of_block (cs := #[.int .i64 k]) (t := 3) (fr := (0, 0)) hp) (one_i64 (l := [k])) (by unfold maxLen; omega) hl hb
  have hM : Mod v.ownBlock.toList W w' := (Mod.refl _ W).grown h3 (fun k hk => .inl (by rw [hk]; simp))
  exact Lib.wpList_append_run W hgd s x _ _ ho _ _ hsv hxv v' w' hr (hK v' w' (by unfold OwnI; rw [List.length_append, i64s_append]; exact h2) hM h5)
/-- No stamp of these grants lies where that list does. -/
def FarI (U : Value) (ps : List (Gr × Value)) : Prop := ∀ k, U.ownBlock = some k → ∀ p ∈ ps, p.2.ownBlock ≠ some k
theorem ownG_far {w w' : World} {base b2 : Nat} {v U : Value} {ps : List (Gr × Value)} {us : List Int} (h : OwnG w base v ps) (hU : OwnI w b2 U us) (hF : FarI U ps) (hM : Mod U.ownBlock.toList w w') : OwnG w' base v ps := by
  refine ⟨hM.own h.row (fun k hk hf => ?_), fun p hp => hM.own (h.st p hp) (fun k hk hf => hF k (by simpa using hf) p hp hk), h.wide, h.room⟩
  have hk' : U.ownBlock = some k := by simpa using hf
  rcases hU.2 with ⟨e, _⟩ | ⟨g', cap, cur, hv, _, hh, _⟩
  · rw [e] at hk'; cases hk'
  · have e : g' = k := by rw [hv] at hk'; simpa [Value.ownBlock] using hk'
    subst e
    exact own_ne h.row (show Whole w g' 3 cur from hh) (by decide) hk
theorem FarI.new {w : World} {b2 : Nat} {w' : World} {v U : Value} {ps : List (Gr × Value)} {us : List Int} (hU : OwnI w b2 U us) (h : OwnG w' w.heap.size v ps) : FarI U ps := fun k hk p hp e => by
  have h1 := (hU.lt k hk).2
  have h2 := ((h.st p hp).lt k e).1
  omega
set_option maxHeartbeats 8000000 in
theorem walk (s : Value) (b : Bk) (A : Option Addr) (c : Nat) (rs : List Rc) (w : World) (hR : FitB w s b) (hL : RcsAt w A rs) (hc : rs.length ≤ c) (hm : c ≤ 140737488351232) :
    Calls Try.prog 9 #[.agg (four b s), .slice A rs.length c] w (LK.True_ w) := by
  obtain ⟨As, cs, hs, _⟩ := hR.gs
  subst hs
  have HX := Lib.hid ((Below.refl _ w).alloc (Nat.le_refl _) (.cells (four b (.slice As b.gs.length cs)) 25))
  have HR := Lib.hid (hR.below HX.out)
  have HK := Lib.hid (Whole.new w 25 (four b (.slice As b.gs.length cs)))
  have HRS := Lib.hid hL
  clear hR hL
  go_enter Try.func9, Try.ntmps9
  go_wp2_with fail
  go_at_call 11
  generalize w.alloc (.cells (four b (.slice As b.gs.length cs)) 25) = w0 at HX HR HK ⊢
  with_reducible refine (awake_any w0).mono ?_
  rintro e w1 ⟨rfl, hb1⟩
  have HB1 := Lib.hid (below_on HX.out hb1)
  have HR1 := Lib.hid (HR.out.below hb1)
  have HK1 := Lib.hid (show Whole w1 w.heap.size 25 (four b (.slice As b.gs.length cs)) from (Mod.of_below hb1 []).whole HK.out (by simp))
  clear hb1 HX HR HK
  obtain ⟨e0, e1, e2, e3⟩ := four_cells HK1.out
  go_wp2_with fail
  refine (r_own (.slice As b.gs.length cs) b w1 HR1.out).mono ?_
  rintro e w2 ⟨v2, ps2, rfl, hm2, ho2, hb2⟩
  obtain ⟨V2, cv2, hvv, _, _⟩ := own_shape ho2.row
  subst hvv
  have HF2 := Lib.hid (fitB_own ho2 hm2 HR1.out.next HR1.out.boots HR1.out.longest)
  have HB2 := Lib.hid (below_on HB1.out hb2)
  have HR2 := Lib.hid (HR1.out.below hb2)
  have HK2 := Lib.hid ((Mod.of_below hb2 []).whole HK1.out (by simp))
  clear hm2 ho2 hb2 e0 e1 e2 e3 HR1 HK1 HB1
  generalize ps2.length = l2 at HF2 ⊢
  unfold four
  go_wp2_with fail
  refine (b_Valid (.slice V2 l2 cv2) b w2 HF2.out).mono ?_
  rintro e w3 ⟨rfl, hb3⟩
  have HB3 := Lib.hid (below_on HB2.out hb3)
  have HR3 := Lib.hid (HR2.out.below hb3)
  have HK3 := Lib.hid ((Mod.of_below hb3 []).whole HK2.out (by simp))
  clear hb3 HF2 HB2 HR2 HK2
  obtain ⟨n, hn⟩ : ∃ n, n = rs.length := ⟨_, rfl⟩
  have HN := Lib.hid hn.symm
  rw [← hn] at hc ⊢
  clear hn
  cases hok : BM.okBk b with
  | false =>
    clear hok
    go_wp2_with fail
    go_ret
    exact ⟨rfl, HB3.out⟩
  | true =>
    have HOK := Lib.hid hok
    clear hok
    by_cases h400 : (400 : Int) < (n : Int)
    · go_wp2_with fail
      go_ret
      exact ⟨rfl, HB3.out⟩
    obtain ⟨e0, e1, e2, e3⟩ := four_cells HK3.out
    have hn400 : n ≤ 400 := by omega
    have HN4 := Lib.hid hn400
    go_wp2_with fail
    refine (r_own (.slice As b.gs.length cs) b w3 HR3.out).mono ?_
    rintro e w4 ⟨v4, ps4, rfl, hm4, ho4, hb4⟩
    obtain ⟨V4, cv4, hvv, _, _⟩ := own_shape ho4.row
    subst hvv
    have HB4 := Lib.hid (below_on HB3.out hb4)
    have HK4 := Lib.hid ((Mod.of_below hb4 []).whole HK3.out (by simp))
    have HO4 := Lib.hid (ho4.low (Nat.zero_le _))
    have HM4 := Lib.hid hm4
    clear hm4 ho4 hb4 e0 e1 e2 e3 HR3 HK3 HB3 h400 hn400
    obtain ⟨e0, e1, e2, e3⟩ := four_cells HK4.out
    have f0 := HK4.out.frozen 0
    have f1 := HK4.out.frozen 1
    have f2 := HK4.out.frozen 2
    have f3 := HK4.out.frozen 3
    generalize ps4.length = l4 at HO4 ⊢
    have hM5 := four_mod w4 w.heap.size (.int .i64 b.next) (.int .i64 b.boots) (.int .i64 b.longest) (.slice V4 l4 cv4)
    have HW5 := Lib.hid (show Whole _ w.heap.size 25 (four b (.slice V4 l4 cv4)) from four_set HK4.out rfl (.int .i64 b.next) (.int .i64 b.boots) (.int .i64 b.longest) (.slice V4 l4 cv4))
    have HO5 := Lib.hid (HO4.out.apart HK4.out (by decide) (by decide) hM5)
    have HB5 := Lib.hid (HB4.out.trans (hM5.below HB4.out.size (by simp)))
    clear hM5 HK4 HO4 HB4
    unfold four
    go_wp2_with fail
    generalize ((((w4.setCell ⟨w.heap.size, 0, none⟩ (.int .i64 b.next)).setCell ⟨w.heap.size, 1, none⟩ (.int .i64 b.boots)).setCell ⟨w.heap.size, 2, none⟩ (.int .i64 b.longest)).setCell ⟨w.heap.size, 3, none⟩ (.slice V4 l4 cv4)) = w5 at HW5 HO5 HB5 ⊢
    clear e0 e1 e2 e3 f0 f1 f2 f3
    go_loopw [5, 29] (fun U i wx => ∃ (k : Nat) (bb : Bk) (vB : Value) (psB : List (Gr × Value)) (us : List Int), i = .int .i64 (k : Int) ∧ k ≤ n ∧ us.length ≤ k ∧ Hid (BM.okBk bb = true) ∧ Hid (Whole wx w.heap.size 25 (four bb vB)) ∧ Hid (OwnG wx 0 vB psB) ∧ Hid (psB.map Prod.fst = bb.gs) ∧ Hid (OwnI wx (w.heap.size + 1) U us) ∧ Hid (FarI U psB) ∧ Hid (∀ x ∈ us, x < bb.next) ∧ Hid (Below w.heap.size w wx)) (fun _ i _ => n - (intOf i).toNat)
    case atStart => exact ⟨0, b, _, ps4, [], rfl, Nat.zero_le _, Nat.le_refl _, HOK, HW5, HO5, HM4, Lib.hid (World.ownsRow_nil _ _ _ _), Lib.hid (fun k hk => by cases hk), Lib.hid (by simp), HB5⟩
    case round =>
      obtain ⟨k, bb, vB, psB, us, rfl, hk, hus, HOB, HW, HO, HM, HU, HFA, HUS, HB⟩ := hrel
      obtain ⟨VB, cvB, hvv, _, _⟩ := own_shape HO.out.row
      subst hvv
      generalize psB.length = lB at HW HO
      by_cases hlt : k < n
      · have hkr : k < rs.length := by rw [HN.out]; exact hlt
        obtain ⟨gb, go, rfl, hgb, hca⟩ := (HRS.out.below HB.out) (by omega)
        obtain ⟨Ak, ck, Bk', dk, hrc, hfr⟩ := hca k _ (List.getElem?_eq_getElem hkr)
        generalize rs[k]'hkr = rk at hrc hfr
        obtain ⟨c0, c1, c2', c3, c4, c5', c6, c7, c8, c9, c10, c11⟩ := rec12 hrc
        have HFK := Lib.hid hfr
        clear hrc hfr hca
        have j0 : (0 : Int) ≤ (k : Int) := by omega
        have j1 : (k : Int) < (n : Int) := by omega
        have HUL := Lib.hid hus
        have HX8 := Lib.hid ((Below.refl _ wr).alloc (Nat.le_refl _) (.cells (twelve rk (.slice Ak rk.g.stamp.length ck) (.slice Bk' rk.stamp.length dk)) 32))
        have HK8 := Lib.hid (Whole.new wr 32 (twelve rk (.slice Ak rk.g.stamp.length ck) (.slice Bk' rk.stamp.length dk)))
        have HW8 := Lib.hid ((Mod.of_below HX8.out []).whole HW.out (by simp))
        have HF8 := Lib.hid (HFK.out.below HX8.out)
        have HO8 := Lib.hid (HO.out.below HX8.out)
        have HU8 := Lib.hid (show OwnI _ _ _ _ from (Mod.of_below HX8.out []).own HU.out (by simp))
        have HB8 := Lib.hid (below_on HB.out HX8.out)
        clear HW HO HU HB HFK HX8
        unfold twelve at HK8 HW8 HF8 HO8 HU8 HB8
        go_upto_region 10 with (fail)
        generalize wr.alloc _ = w8 at HK8 HW8 HF8 HO8 HU8 HB8 ⊢
        generalize wr.heap.size = p7 at HK8 ⊢
        clear c0 c1 c2' c3 c4 c5' c6 c7 c8 c9 c10 c11
        obtain ⟨cB, EE, hap⟩ : ∃ c e, BM.apply bb rk = (c, e) := ⟨_, _, rfl⟩
        have HAP := Lib.hid hap
        clear hap
        have HFB := Lib.hid (fitB_own HO8.out HM.out (in_ok HOB.out).1 (in_ok HOB.out).2.1 (in_ok HOB.out).2.2)
        go_cut [8, 9] (fun t e wx => ∃ q V l cv ps, t = .pointer (some ⟨q, 0, none⟩) ∧ e = .int .i64 EE ∧ Hid (w8.heap.size ≤ q) ∧ Hid (Whole wx q 25 (four cB (.slice V l cv))) ∧ Hid (OwnG wx w8.heap.size (.slice V l cv) ps) ∧ Hid (ps.map Prod.fst = cB.gs) ∧ Hid (Below w8.heap.size w8 wx))
        case first =>
          have hKeep : ∀ (us : Nat → Value) (wa wb : World), Below wa.heap.size wa wb → ∀ j, known [fun us y => us 0 = .agg (four bb (.slice VB lB cvB)), fun us y => ∃ A1 n1 c1 p1, us 1 = .agg (four bb (.slice A1 n1 c1)) ∧ OwnG y w8.heap.size (.slice A1 n1 c1) p1 ∧ p1.map Prod.fst = (bb).gs, fun us y => us 2 = .agg (twelve rk (.slice Ak rk.g.stamp.length ck) (.slice Bk' rk.stamp.length dk)), fun us y => ∃ A3 c3 B3 d3, us 3 = .agg (twelve rk (.slice A3 rk.g.stamp.length c3) (.slice B3 rk.stamp.length d3)) ∧ OwnI y w8.heap.size (.slice A3 rk.g.stamp.length c3) rk.g.stamp ∧ OwnI y w8.heap.size (.slice B3 rk.stamp.length d3) rk.stamp, fun us y => ∃ A4 n4 c4 p4, us 4 = .tuple #[.agg (four cB (.slice A4 n4 c4)), .int .i64 EE] ∧ OwnG y w8.heap.size (.slice A4 n4 c4) p4 ∧ p4.map Prod.fst = (cB).gs, fun us y => ∃ A5 n5 c5 p5, us 5 = .tuple #[.agg (four cB (.slice A5 n5 c5)), .int .i64 EE] ∧ OwnG y w8.heap.size (.slice A5 n5 c5) p5 ∧ p5.map Prod.fst = (cB).gs, fun us y => ∃ A6 n6 c6 p6, us 6 = .agg (four cB (.slice A6 n6 c6)) ∧ OwnG y w8.heap.size (.slice A6 n6 c6) p6 ∧ p6.map Prod.fst = (cB).gs, fun us y => us 7 = .int .i64 EE, fun us y => ∃ q8 cs8, us 8 = .pointer (some ⟨q8, 0, none⟩) ∧ w8.heap.size ≤ q8 ∧ Whole y q8 25 cs8 ∧ cs8.size = 4, fun us y => ∃ q9 A9 n9 c9 p9, us 8 = .pointer (some ⟨q9, 0, none⟩) ∧ Whole y q9 25 (four cB (.slice A9 n9 c9)) ∧ OwnG y w8.heap.size (.slice A9 n9 c9) p9 ∧ p9.map Prod.fst = (cB).gs, fun us y => us 10 = .int .i64 EE] j us wa → known [fun us y => us 0 = .agg (four bb (.slice VB lB cvB)), fun us y => ∃ A1 n1 c1 p1, us 1 = .agg (four bb (.slice A1 n1 c1)) ∧ OwnG y w8.heap.size (.slice A1 n1 c1) p1 ∧ p1.map Prod.fst = (bb).gs, fun us y => us 2 = .agg (twelve rk (.slice Ak rk.g.stamp.length ck) (.slice Bk' rk.stamp.length dk)), fun us y => ∃ A3 c3 B3 d3, us 3 = .agg (twelve rk (.slice A3 rk.g.stamp.length c3) (.slice B3 rk.stamp.length d3)) ∧ OwnI y w8.heap.size (.slice A3 rk.g.stamp.length c3) rk.g.stamp ∧ OwnI y w8.heap.size (.slice B3 rk.stamp.length d3) rk.stamp, fun us y => ∃ A4 n4 c4 p4, us 4 = .tuple #[.agg (four cB (.slice A4 n4 c4)), .int .i64 EE] ∧ OwnG y w8.heap.size (.slice A4 n4 c4) p4 ∧ p4.map Prod.fst = (cB).gs, fun us y => ∃ A5 n5 c5 p5, us 5 = .tuple #[.agg (four cB (.slice A5 n5 c5)), .int .i64 EE] ∧ OwnG y w8.heap.size (.slice A5 n5 c5) p5 ∧ p5.map Prod.fst = (cB).gs, fun us y => ∃ A6 n6 c6 p6, us 6 = .agg (four cB (.slice A6 n6 c6)) ∧ OwnG y w8.heap.size (.slice A6 n6 c6) p6 ∧ p6.map Prod.fst = (cB).gs, fun us y => us 7 = .int .i64 EE, fun us y => ∃ q8 cs8, us 8 = .pointer (some ⟨q8, 0, none⟩) ∧ w8.heap.size ≤ q8 ∧ Whole y q8 25 cs8 ∧ cs8.size = 4, fun us y => ∃ q9 A9 n9 c9 p9, us 8 = .pointer (some ⟨q9, 0, none⟩) ∧ Whole y q9 25 (four cB (.slice A9 n9 c9)) ∧ OwnG y w8.heap.size (.slice A9 n9 c9) p9 ∧ p9.map Prod.fst = (cB).gs, fun us y => us 10 = .int .i64 EE] j us wb := by
            intro us wa wb hb j h
            match j, h with
            | 0, h => exact h
            | 1, h => (obtain ⟨A1, n1, c1, p1, e1, hO1, hM1⟩ : ∃ A1 n1 c1 p1, us 1 = .agg (four bb (.slice A1 n1 c1)) ∧ OwnG wa w8.heap.size (.slice A1 n1 c1) p1 ∧ p1.map Prod.fst = (bb).gs := h; exact (show ∃ A1 n1 c1 p1, us 1 = .agg (four bb (.slice A1 n1 c1)) ∧ OwnG wb w8.heap.size (.slice A1 n1 c1) p1 ∧ p1.map Prod.fst = (bb).gs from ⟨A1, n1, c1, p1, e1, hO1.below hb, hM1⟩))
            | 2, h => exact h
            | 3, h => (obtain ⟨A3, c3, B3, d3, e3, hO3, hP3⟩ : ∃ A3 c3 B3 d3, us 3 = .agg (twelve rk (.slice A3 rk.g.stamp.length c3) (.slice B3 rk.stamp.length d3)) ∧ OwnI wa w8.heap.size (.slice A3 rk.g.stamp.length c3) rk.g.stamp ∧ OwnI wa w8.heap.size (.slice B3 rk.stamp.length d3) rk.stamp := h; exact (show ∃ A3 c3 B3 d3, us 3 = .agg (twelve rk (.slice A3 rk.g.stamp.length c3) (.slice B3 rk.stamp.length d3)) ∧ OwnI wb w8.heap.size (.slice A3 rk.g.stamp.length c3) rk.g.stamp ∧ OwnI wb w8.heap.size (.slice B3 rk.stamp.length d3) rk.stamp from ⟨A3, c3, B3, d3, e3, (Mod.of_below hb []).own hO3 (by simp), (Mod.of_below hb []).own hP3 (by simp)⟩))
            | 4, h => (obtain ⟨A4, n4, c4, p4, e4, hO4, hM4⟩ : ∃ A4 n4 c4 p4, us 4 = .tuple #[.agg (four cB (.slice A4 n4 c4)), .int .i64 EE] ∧ OwnG wa w8.heap.size (.slice A4 n4 c4) p4 ∧ p4.map Prod.fst = (cB).gs := h; exact (show ∃ A4 n4 c4 p4, us 4 = .tuple #[.agg (four cB (.slice A4 n4 c4)), .int .i64 EE] ∧ OwnG wb w8.heap.size (.slice A4 n4 c4) p4 ∧ p4.map Prod.fst = (cB).gs from ⟨A4, n4, c4, p4, e4, hO4.below hb, hM4⟩))
            | 5, h => (obtain ⟨A5, n5, c5, p5, e5, hO5, hM5⟩ : ∃ A5 n5 c5 p5, us 5 = .tuple #[.agg (four cB (.slice A5 n5 c5)), .int .i64 EE] ∧ OwnG wa w8.heap.size (.slice A5 n5 c5) p5 ∧ p5.map Prod.fst = (cB).gs := h; exact (show ∃ A5 n5 c5 p5, us 5 = .tuple #[.agg (four cB (.slice A5 n5 c5)), .int .i64 EE] ∧ OwnG wb w8.heap.size (.slice A5 n5 c5) p5 ∧ p5.map Prod.fst = (cB).gs from ⟨A5, n5, c5, p5, e5, hO5.below hb, hM5⟩))
            | 6, h => (obtain ⟨A6, n6, c6, p6, e6, hO6, hM6⟩ : ∃ A6 n6 c6 p6, us 6 = .agg (four cB (.slice A6 n6 c6)) ∧ OwnG wa w8.heap.size (.slice A6 n6 c6) p6 ∧ p6.map Prod.fst = (cB).gs := h; exact (show ∃ A6 n6 c6 p6, us 6 = .agg (four cB (.slice A6 n6 c6)) ∧ OwnG wb w8.heap.size (.slice A6 n6 c6) p6 ∧ p6.map Prod.fst = (cB).gs from ⟨A6, n6, c6, p6, e6, hO6.below hb, hM6⟩))
            | 7, h => exact h
            | 8, h => (obtain ⟨q8, cs8, e8, hq8, hW8', hs8⟩ : ∃ q8 cs8, us 8 = .pointer (some ⟨q8, 0, none⟩) ∧ w8.heap.size ≤ q8 ∧ Whole wa q8 25 cs8 ∧ cs8.size = 4 := h; exact (show ∃ q8 cs8, us 8 = .pointer (some ⟨q8, 0, none⟩) ∧ w8.heap.size ≤ q8 ∧ Whole wb q8 25 cs8 ∧ cs8.size = 4 from ⟨q8, cs8, e8, hq8, (Mod.of_below hb []).whole hW8' (by simp), hs8⟩))
            | 9, h => (obtain ⟨q9, A9, n9, c9, p9, e9, hW9, hO9, hM9⟩ : ∃ q9 A9 n9 c9 p9, us 8 = .pointer (some ⟨q9, 0, none⟩) ∧ Whole wa q9 25 (four cB (.slice A9 n9 c9)) ∧ OwnG wa w8.heap.size (.slice A9 n9 c9) p9 ∧ p9.map Prod.fst = (cB).gs := h; exact (show ∃ q9 A9 n9 c9 p9, us 8 = .pointer (some ⟨q9, 0, none⟩) ∧ Whole wb q9 25 (four cB (.slice A9 n9 c9)) ∧ OwnG wb w8.heap.size (.slice A9 n9 c9) p9 ∧ p9.map Prod.fst = (cB).gs from ⟨q9, A9, n9, c9, p9, e9, (Mod.of_below hb []).whole hW9 (by simp), hO9.below hb, hM9⟩))
            | 10, h => exact h
            | q + 11, h => exact trivial
          have HKEEP := Lib.hid hKeep
          clear hKeep
          refine region_each (known [fun us y => us 0 = .agg (four bb (.slice VB lB cvB)), fun us y => ∃ A1 n1 c1 p1, us 1 = .agg (four bb (.slice A1 n1 c1)) ∧ OwnG y w8.heap.size (.slice A1 n1 c1) p1 ∧ p1.map Prod.fst = (bb).gs, fun us y => us 2 = .agg (twelve rk (.slice Ak rk.g.stamp.length ck) (.slice Bk' rk.stamp.length dk)), fun us y => ∃ A3 c3 B3 d3, us 3 = .agg (twelve rk (.slice A3 rk.g.stamp.length c3) (.slice B3 rk.stamp.length d3)) ∧ OwnI y w8.heap.size (.slice A3 rk.g.stamp.length c3) rk.g.stamp ∧ OwnI y w8.heap.size (.slice B3 rk.stamp.length d3) rk.stamp, fun us y => ∃ A4 n4 c4 p4, us 4 = .tuple #[.agg (four cB (.slice A4 n4 c4)), .int .i64 EE] ∧ OwnG y w8.heap.size (.slice A4 n4 c4) p4 ∧ p4.map Prod.fst = (cB).gs, fun us y => ∃ A5 n5 c5 p5, us 5 = .tuple #[.agg (four cB (.slice A5 n5 c5)), .int .i64 EE] ∧ OwnG y w8.heap.size (.slice A5 n5 c5) p5 ∧ p5.map Prod.fst = (cB).gs, fun us y => ∃ A6 n6 c6 p6, us 6 = .agg (four cB (.slice A6 n6 c6)) ∧ OwnG y w8.heap.size (.slice A6 n6 c6) p6 ∧ p6.map Prod.fst = (cB).gs, fun us y => us 7 = .int .i64 EE, fun us y => ∃ q8 cs8, us 8 = .pointer (some ⟨q8, 0, none⟩) ∧ w8.heap.size ≤ q8 ∧ Whole y q8 25 cs8 ∧ cs8.size = 4, fun us y => ∃ q9 A9 n9 c9 p9, us 8 = .pointer (some ⟨q9, 0, none⟩) ∧ Whole y q9 25 (four cB (.slice A9 n9 c9)) ∧ OwnG y w8.heap.size (.slice A9 n9 c9) p9 ∧ p9.map Prod.fst = (cB).gs, fun us y => us 10 = .int .i64 EE]) (fun y => Below w8.heap.size w8 y) (fun y => True) [] [[], [0], [], [0, 1, 2], [0, 1, 2, 3], [0, 1, 2, 3, 4], [0, 1, 2, 3, 4, 5], [0, 1, 2, 3, 4, 5], [], [0, 1, 2, 3, 4, 5, 6, 8], [0, 1, 2, 3, 4, 5, 6, 7, 8, 9]] (by
            intro j us us' y h hF
            match j, h, hF with
            | 0, h, hF => (have hF : us 0 = .agg (four bb (.slice VB lB cvB)) := hF; rw [h 0 (.inl rfl)] at hF; exact hF)
            | 1, h, hF => (have hF : ∃ A1 n1 c1 p1, us 1 = .agg (four bb (.slice A1 n1 c1)) ∧ OwnG y w8.heap.size (.slice A1 n1 c1) p1 ∧ p1.map Prod.fst = (bb).gs := hF; rw [h 1 (.inl rfl)] at hF; exact hF)
            | 2, h, hF => (have hF : us 2 = .agg (twelve rk (.slice Ak rk.g.stamp.length ck) (.slice Bk' rk.stamp.length dk)) := hF; rw [h 2 (.inl rfl)] at hF; exact hF)
            | 3, h, hF => (have hF : ∃ A3 c3 B3 d3, us 3 = .agg (twelve rk (.slice A3 rk.g.stamp.length c3) (.slice B3 rk.stamp.length d3)) ∧ OwnI y w8.heap.size (.slice A3 rk.g.stamp.length c3) rk.g.stamp ∧ OwnI y w8.heap.size (.slice B3 rk.stamp.length d3) rk.stamp := hF; rw [h 3 (.inl rfl)] at hF; exact hF)
            | 4, h, hF => (have hF : ∃ A4 n4 c4 p4, us 4 = .tuple #[.agg (four cB (.slice A4 n4 c4)), .int .i64 EE] ∧ OwnG y w8.heap.size (.slice A4 n4 c4) p4 ∧ p4.map Prod.fst = (cB).gs := hF; rw [h 4 (.inl rfl)] at hF; exact hF)
            | 5, h, hF => (have hF : ∃ A5 n5 c5 p5, us 5 = .tuple #[.agg (four cB (.slice A5 n5 c5)), .int .i64 EE] ∧ OwnG y w8.heap.size (.slice A5 n5 c5) p5 ∧ p5.map Prod.fst = (cB).gs := hF; rw [h 5 (.inl rfl)] at hF; exact hF)
            | 6, h, hF => (have hF : ∃ A6 n6 c6 p6, us 6 = .agg (four cB (.slice A6 n6 c6)) ∧ OwnG y w8.heap.size (.slice A6 n6 c6) p6 ∧ p6.map Prod.fst = (cB).gs := hF; rw [h 6 (.inl rfl)] at hF; exact hF)
            | 7, h, hF => (have hF : us 7 = .int .i64 EE := hF; rw [h 7 (.inl rfl)] at hF; exact hF)
            | 8, h, hF => (have hF : ∃ q8 cs8, us 8 = .pointer (some ⟨q8, 0, none⟩) ∧ w8.heap.size ≤ q8 ∧ Whole y q8 25 cs8 ∧ cs8.size = 4 := hF; rw [h 8 (.inl rfl)] at hF; exact hF)
            | 9, h, hF => (have hF : ∃ q9 A9 n9 c9 p9, us 8 = .pointer (some ⟨q9, 0, none⟩) ∧ Whole y q9 25 (four cB (.slice A9 n9 c9)) ∧ OwnG y w8.heap.size (.slice A9 n9 c9) p9 ∧ p9.map Prod.fst = (cB).gs := hF; rw [h 8 (.inr (by decide))] at hF; exact hF)
            | 10, h, hF => (have hF : us 10 = .int .i64 EE := hF; rw [h 10 (.inl rfl)] at hF; exact hF)
            | q + 11, h, hF => exact trivial) (by kernel_rfl) rfl (by kernel_rfl) (by exact (Below.refl _ _).drew) (trivial) (Z := fun vs => Act.put (Act.put (Act.put (Act.put (Act.put (Act.put (Act.put (Act.put (Act.put (Act.put (Act.put (_) (some 34) (vs 0)) (some 35) (vs 1)) (some 36) (vs 2)) (some 37) (vs 3)) (some 38) (vs 4)) (some 33) (vs 5)) (some 39) (vs 6)) (some 40) (vs 7)) (some 8) (vs 8)) none (vs 9)) (some 9) (vs 10)) (fun _ => rfl) ?_ ?_
          · skip
            refine EachAll.snoc (i := 10) (o := { dst := some 9, op := Op.assign (Operand.tmp 40), type := 33, pos := _, after := #[{ on := 7, ground := Ground.data }, { on := 9, ground := Ground.chain }, { on := 0, ground := Ground.phase }, { on := 1, ground := Ground.phase }, { on := 2, ground := Ground.phase }, { on := 3, ground := Ground.phase }, { on := 4, ground := Ground.phase }, { on := 5, ground := Ground.phase }, { on := 6, ground := Ground.phase }, { on := 7, ground := Ground.phase }, { on := 8, ground := Ground.phase }, { on := 9, ground := Ground.phase }], guard := none }) (l := [0, 1, 2, 3, 4, 5, 6, 7, 8, 9]) (A := fun vs => Act.put (Act.put (Act.put (Act.put (Act.put (Act.put (Act.put (Act.put (Act.put (Act.put (_) none (vs 9)) (some 8) (vs 8)) (some 40) (vs 7)) (some 39) (vs 6)) (some 33) (vs 5)) (some 38) (vs 4)) (some 37) (vs 3)) (some 36) (vs 2)) (some 35) (vs 1)) (some 34) (vs 0)) ?_ rfl rfl (fun _ => rfl) ?_
            rotate_left
            · intro vs y hI hJ hA K hK
              have hB := hI
              clear hJ
              have e7 : vs 7 = .int .i64 EE := hA 7 (by decide)
              clear hA
              refine Box.mk ?_
              try simp only [e7, allPut, puts, Act.put, List.setIfInBounds_toArray, List.set_cons_zero, List.set_cons_succ] at hK ⊢
              go_simp
              exact hK.out _ _ hB (show (updv vs 10 _) 10 = .int .i64 EE from rfl) (fun _ _ _ h => h) (fun _ h => h)
            refine EachAll.snoc (i := 9) (o := { dst := none, op := Op.store 25 (Operand.tmp 8) (Operand.tmp 39), type := 0, pos := _, after := #[{ on := 8, ground := Ground.data }, { on := 6, ground := Ground.data }, { on := 4, ground := Ground.chain }, { on := 0, ground := Ground.phase }, { on := 1, ground := Ground.phase }, { on := 2, ground := Ground.phase }, { on := 3, ground := Ground.phase }, { on := 4, ground := Ground.phase }, { on := 5, ground := Ground.phase }, { on := 6, ground := Ground.phase }, { on := 7, ground := Ground.textOnly Departure.lateStores }, { on := 8, ground := Ground.phase }], guard := none }) (l := [0, 1, 2, 3, 4, 5, 6, 8]) (A := fun vs => Act.put (Act.put (Act.put (Act.put (Act.put (Act.put (Act.put (Act.put (_) (some 8) (vs 8)) (some 39) (vs 6)) (some 33) (vs 5)) (some 38) (vs 4)) (some 37) (vs 3)) (some 36) (vs 2)) (some 35) (vs 1)) (some 34) (vs 0)) ?_ rfl rfl (fun _ => rfl) ?_
            rotate_left
            · intro vs y hI hJ hA K hK
              have hB := hI
              clear hJ
              have hF6 : ∃ A6 n6 c6 p6, vs 6 = .agg (four cB (.slice A6 n6 c6)) ∧ OwnG y w8.heap.size (.slice A6 n6 c6) p6 ∧ p6.map Prod.fst = (cB).gs := hA 6 (by decide)
              obtain ⟨A6, n6, c6, p6, e6, hO6, hM6⟩ := hF6
              have hF8 : ∃ q8 cs8, vs 8 = .pointer (some ⟨q8, 0, none⟩) ∧ w8.heap.size ≤ q8 ∧ Whole y q8 25 cs8 ∧ cs8.size = 4 := hA 8 (by decide)
              obtain ⟨q8, cs8, e8, hq8, hW8', hs8⟩ := hF8
              clear hA
              refine Box.mk ?_
              try simp only [e6, e8, allPut, puts, Act.put, List.setIfInBounds_toArray, List.set_cons_zero, List.set_cons_succ] at hK ⊢
              obtain ⟨x0, y0⟩ := some_cell hW8' (i := 0) (by omega)
              obtain ⟨x1, y1⟩ := some_cell hW8' (i := 1) (by omega)
              obtain ⟨x2, y2⟩ := some_cell hW8' (i := 2) (by omega)
              obtain ⟨x3, y3⟩ := some_cell hW8' (i := 3) (by omega)
              have g0 := hW8'.frozen 0
              have g1 := hW8'.frozen 1
              have g2 := hW8'.frozen 2
              have g3 := hW8'.frozen 3
              have hM := four_mod y q8 (.int .i64 cB.next) (.int .i64 cB.boots) (.int .i64 cB.longest) (.slice A6 n6 c6)
              have hBn := hB.trans (hM.below hB.size (by simpa using hq8))
              have hWn := four_set hW8' hs8 (.int .i64 cB.next) (.int .i64 cB.boots) (.int .i64 cB.longest) (.slice A6 n6 c6)
              have hOn := hO6.apart hW8' (by decide) (by decide) hM
              generalize hSS : ((((y.setCell ⟨q8, 0, none⟩ (.int .i64 cB.next)).setCell ⟨q8, 1, none⟩ (.int .i64 cB.boots)).setCell ⟨q8, 2, none⟩ (.int .i64 cB.longest)).setCell ⟨q8, 3, none⟩ (.slice A6 n6 c6)) = wS at hM hBn hWn hOn
              have hP : ∀ j, j ≠ 9 → 9 ∉ ([[], [0], [], [0, 1, 2], [0, 1, 2, 3], [0, 1, 2, 3, 4], [0, 1, 2, 3, 4, 5], [0, 1, 2, 3, 4, 5], [], [0, 1, 2, 3, 4, 5, 6, 8], [0, 1, 2, 3, 4, 5, 6, 7, 8, 9]] : List (List Nat)).getD j [] → known [fun us y => us 0 = .agg (four bb (.slice VB lB cvB)), fun us y => ∃ A1 n1 c1 p1, us 1 = .agg (four bb (.slice A1 n1 c1)) ∧ OwnG y w8.heap.size (.slice A1 n1 c1) p1 ∧ p1.map Prod.fst = (bb).gs, fun us y => us 2 = .agg (twelve rk (.slice Ak rk.g.stamp.length ck) (.slice Bk' rk.stamp.length dk)), fun us y => ∃ A3 c3 B3 d3, us 3 = .agg (twelve rk (.slice A3 rk.g.stamp.length c3) (.slice B3 rk.stamp.length d3)) ∧ OwnI y w8.heap.size (.slice A3 rk.g.stamp.length c3) rk.g.stamp ∧ OwnI y w8.heap.size (.slice B3 rk.stamp.length d3) rk.stamp, fun us y => ∃ A4 n4 c4 p4, us 4 = .tuple #[.agg (four cB (.slice A4 n4 c4)), .int .i64 EE] ∧ OwnG y w8.heap.size (.slice A4 n4 c4) p4 ∧ p4.map Prod.fst = (cB).gs, fun us y => ∃ A5 n5 c5 p5, us 5 = .tuple #[.agg (four cB (.slice A5 n5 c5)), .int .i64 EE] ∧ OwnG y w8.heap.size (.slice A5 n5 c5) p5 ∧ p5.map Prod.fst = (cB).gs, fun us y => ∃ A6 n6 c6 p6, us 6 = .agg (four cB (.slice A6 n6 c6)) ∧ OwnG y w8.heap.size (.slice A6 n6 c6) p6 ∧ p6.map Prod.fst = (cB).gs, fun us y => us 7 = .int .i64 EE, fun us y => ∃ q8 cs8, us 8 = .pointer (some ⟨q8, 0, none⟩) ∧ w8.heap.size ≤ q8 ∧ Whole y q8 25 cs8 ∧ cs8.size = 4, fun us y => ∃ q9 A9 n9 c9 p9, us 8 = .pointer (some ⟨q9, 0, none⟩) ∧ Whole y q9 25 (four cB (.slice A9 n9 c9)) ∧ OwnG y w8.heap.size (.slice A9 n9 c9) p9 ∧ p9.map Prod.fst = (cB).gs, fun us y => us 10 = .int .i64 EE] j vs y → known [fun us y => us 0 = .agg (four bb (.slice VB lB cvB)), fun us y => ∃ A1 n1 c1 p1, us 1 = .agg (four bb (.slice A1 n1 c1)) ∧ OwnG y w8.heap.size (.slice A1 n1 c1) p1 ∧ p1.map Prod.fst = (bb).gs, fun us y => us 2 = .agg (twelve rk (.slice Ak rk.g.stamp.length ck) (.slice Bk' rk.stamp.length dk)), fun us y => ∃ A3 c3 B3 d3, us 3 = .agg (twelve rk (.slice A3 rk.g.stamp.length c3) (.slice B3 rk.stamp.length d3)) ∧ OwnI y w8.heap.size (.slice A3 rk.g.stamp.length c3) rk.g.stamp ∧ OwnI y w8.heap.size (.slice B3 rk.stamp.length d3) rk.stamp, fun us y => ∃ A4 n4 c4 p4, us 4 = .tuple #[.agg (four cB (.slice A4 n4 c4)), .int .i64 EE] ∧ OwnG y w8.heap.size (.slice A4 n4 c4) p4 ∧ p4.map Prod.fst = (cB).gs, fun us y => ∃ A5 n5 c5 p5, us 5 = .tuple #[.agg (four cB (.slice A5 n5 c5)), .int .i64 EE] ∧ OwnG y w8.heap.size (.slice A5 n5 c5) p5 ∧ p5.map Prod.fst = (cB).gs, fun us y => ∃ A6 n6 c6 p6, us 6 = .agg (four cB (.slice A6 n6 c6)) ∧ OwnG y w8.heap.size (.slice A6 n6 c6) p6 ∧ p6.map Prod.fst = (cB).gs, fun us y => us 7 = .int .i64 EE, fun us y => ∃ q8 cs8, us 8 = .pointer (some ⟨q8, 0, none⟩) ∧ w8.heap.size ≤ q8 ∧ Whole y q8 25 cs8 ∧ cs8.size = 4, fun us y => ∃ q9 A9 n9 c9 p9, us 8 = .pointer (some ⟨q9, 0, none⟩) ∧ Whole y q9 25 (four cB (.slice A9 n9 c9)) ∧ OwnG y w8.heap.size (.slice A9 n9 c9) p9 ∧ p9.map Prod.fst = (cB).gs, fun us y => us 10 = .int .i64 EE] j vs wS := by
                intro j h1 h2 h
                match j, h1, h2, h with
                | 0, _, _, h => exact h
                | 1, _, _, h => (obtain ⟨A, n, c, p, e, hO, hm⟩ : ∃ A1 n1 c1 p1, vs 1 = .agg (four bb (.slice A1 n1 c1)) ∧ OwnG y w8.heap.size (.slice A1 n1 c1) p1 ∧ p1.map Prod.fst = (bb).gs := h; exact (show ∃ A1 n1 c1 p1, vs 1 = .agg (four bb (.slice A1 n1 c1)) ∧ OwnG wS w8.heap.size (.slice A1 n1 c1) p1 ∧ p1.map Prod.fst = (bb).gs from ⟨A, n, c, p, e, hO.apart hW8' (by decide) (by decide) hM, hm⟩))
                | 2, _, _, h => exact h
                | 3, _, _, h => (obtain ⟨A, c, B, d, e, h1, h2⟩ : ∃ A3 c3 B3 d3, vs 3 = .agg (twelve rk (.slice A3 rk.g.stamp.length c3) (.slice B3 rk.stamp.length d3)) ∧ OwnI y w8.heap.size (.slice A3 rk.g.stamp.length c3) rk.g.stamp ∧ OwnI y w8.heap.size (.slice B3 rk.stamp.length d3) rk.stamp := h; exact (show ∃ A3 c3 B3 d3, vs 3 = .agg (twelve rk (.slice A3 rk.g.stamp.length c3) (.slice B3 rk.stamp.length d3)) ∧ OwnI wS w8.heap.size (.slice A3 rk.g.stamp.length c3) rk.g.stamp ∧ OwnI wS w8.heap.size (.slice B3 rk.stamp.length d3) rk.stamp from ⟨A, c, B, d, e, h1.apart hW8' (by decide) hM, h2.apart hW8' (by decide) hM⟩))
                | 4, _, _, h => (obtain ⟨A, n, c, p, e, hO, hm⟩ : ∃ A4 n4 c4 p4, vs 4 = .tuple #[.agg (four cB (.slice A4 n4 c4)), .int .i64 EE] ∧ OwnG y w8.heap.size (.slice A4 n4 c4) p4 ∧ p4.map Prod.fst = (cB).gs := h; exact (show ∃ A4 n4 c4 p4, vs 4 = .tuple #[.agg (four cB (.slice A4 n4 c4)), .int .i64 EE] ∧ OwnG wS w8.heap.size (.slice A4 n4 c4) p4 ∧ p4.map Prod.fst = (cB).gs from ⟨A, n, c, p, e, hO.apart hW8' (by decide) (by decide) hM, hm⟩))
                | 5, _, _, h => (obtain ⟨A, n, c, p, e, hO, hm⟩ : ∃ A5 n5 c5 p5, vs 5 = .tuple #[.agg (four cB (.slice A5 n5 c5)), .int .i64 EE] ∧ OwnG y w8.heap.size (.slice A5 n5 c5) p5 ∧ p5.map Prod.fst = (cB).gs := h; exact (show ∃ A5 n5 c5 p5, vs 5 = .tuple #[.agg (four cB (.slice A5 n5 c5)), .int .i64 EE] ∧ OwnG wS w8.heap.size (.slice A5 n5 c5) p5 ∧ p5.map Prod.fst = (cB).gs from ⟨A, n, c, p, e, hO.apart hW8' (by decide) (by decide) hM, hm⟩))
                | 6, _, _, h => (obtain ⟨A, n, c, p, e, hO, hm⟩ : ∃ A6 n6 c6 p6, vs 6 = .agg (four cB (.slice A6 n6 c6)) ∧ OwnG y w8.heap.size (.slice A6 n6 c6) p6 ∧ p6.map Prod.fst = (cB).gs := h; exact (show ∃ A6 n6 c6 p6, vs 6 = .agg (four cB (.slice A6 n6 c6)) ∧ OwnG wS w8.heap.size (.slice A6 n6 c6) p6 ∧ p6.map Prod.fst = (cB).gs from ⟨A, n, c, p, e, hO.apart hW8' (by decide) (by decide) hM, hm⟩))
                | 7, _, _, h => exact h
                | 8, _, _, h => exact (show ∃ q8 cs8, vs 8 = .pointer (some ⟨q8, 0, none⟩) ∧ w8.heap.size ≤ q8 ∧ Whole wS q8 25 cs8 ∧ cs8.size = 4 from ⟨q8, _, e8, hq8, hWn, rfl⟩)
                | 9, h1, _, _ => exact absurd rfl h1
                | 10, _, h2, _ => exact absurd (by decide) h2
                | q + 11, _, _, h => exact trivial
              clear e6
              unfold four at hK ⊢
              go_simp
              try rw [hSS]
              exact hK.out undef _ hBn (show ∃ q9 A9 n9 c9 p9, (updv vs 9 undef) 8 = .pointer (some ⟨q9, 0, none⟩) ∧ Whole wS q9 25 (four cB (.slice A9 n9 c9)) ∧ OwnG wS w8.heap.size (.slice A9 n9 c9) p9 ∧ p9.map Prod.fst = (cB).gs from ⟨q8, A6, n6, c6, p6, e8, hWn, hOn, hM6⟩) hP (fun _ h => h)
            refine EachAll.snoc (i := 8) (o := { dst := some 8, op := Op.alloc 25, type := 0, pos := _, after := #[], guard := none }) (l := []) (A := fun vs => _) ?_ rfl rfl (fun _ => rfl) ?_
            rotate_left
            · intro vs y hI hJ hA K hK
              have hB := hI
              clear hJ
              clear hA
              refine Box.mk ?_
              try simp only [allPut, puts, Act.put, List.setIfInBounds_toArray, List.set_cons_zero, List.set_cons_succ] at hK ⊢
              go_simp
              have hb := (Below.refl _ y).alloc (Nat.le_refl _) (.cells z4 25)
              unfold z4 at hb
              exact hK.out _ _ (below_on hB hb) (show ∃ q8 cs8, (updv vs 8 _) 8 = .pointer (some ⟨q8, 0, none⟩) ∧ w8.heap.size ≤ q8 ∧ Whole _ q8 25 cs8 ∧ cs8.size = 4 from ⟨y.heap.size, _, rfl, hB.size, (Whole.new y _ _), rfl⟩) (fun j _ _ h => HKEEP.out vs y _ hb j h) (fun _ h => h)
            refine EachAll.snoc (i := 7) (o := { dst := some 40, op := Op.extract (Operand.tmp 33) 1, type := 33, pos := _, after := #[{ on := 5, ground := Ground.data }, { on := 9, ground := Ground.gcOnly Departure.lateStores }], guard := none }) (l := [0, 1, 2, 3, 4, 5]) (A := fun vs => Act.put (Act.put (Act.put (Act.put (Act.put (Act.put (_) (some 33) (vs 5)) (some 38) (vs 4)) (some 37) (vs 3)) (some 36) (vs 2)) (some 35) (vs 1)) (some 34) (vs 0)) ?_ rfl rfl (fun _ => rfl) ?_
            rotate_left
            · intro vs y hI hJ hA K hK
              have hB := hI
              clear hJ
              have hF5 : ∃ A5 n5 c5 p5, vs 5 = .tuple #[.agg (four cB (.slice A5 n5 c5)), .int .i64 EE] ∧ OwnG y w8.heap.size (.slice A5 n5 c5) p5 ∧ p5.map Prod.fst = (cB).gs := hA 5 (by decide)
              obtain ⟨A5, n5, c5, p5, e5, hO5, hM5⟩ := hF5
              clear hA
              refine Box.mk ?_
              try simp only [e5, allPut, puts, Act.put, List.setIfInBounds_toArray, List.set_cons_zero, List.set_cons_succ] at hK ⊢
              unfold four
              go_simp
              exact hK.out _ _ hB (show (updv vs 7 _) 7 = .int .i64 EE from rfl) (fun _ _ _ h => h) (fun _ h => h)
            refine EachAll.snoc (i := 6) (o := { dst := some 39, op := Op.extract (Operand.tmp 33) 0, type := 25, pos := _, after := #[{ on := 5, ground := Ground.data }], guard := none }) (l := [0, 1, 2, 3, 4, 5]) (A := fun vs => Act.put (Act.put (Act.put (Act.put (Act.put (Act.put (_) (some 33) (vs 5)) (some 38) (vs 4)) (some 37) (vs 3)) (some 36) (vs 2)) (some 35) (vs 1)) (some 34) (vs 0)) ?_ rfl rfl (fun _ => rfl) ?_
            rotate_left
            · intro vs y hI hJ hA K hK
              have hB := hI
              clear hJ
              have hF5 : ∃ A5 n5 c5 p5, vs 5 = .tuple #[.agg (four cB (.slice A5 n5 c5)), .int .i64 EE] ∧ OwnG y w8.heap.size (.slice A5 n5 c5) p5 ∧ p5.map Prod.fst = (cB).gs := hA 5 (by decide)
              obtain ⟨A5, n5, c5, p5, e5, hO5, hM5⟩ := hF5
              clear hA
              refine Box.mk ?_
              try simp only [e5, allPut, puts, Act.put, List.setIfInBounds_toArray, List.set_cons_zero, List.set_cons_succ] at hK ⊢
              unfold four
              go_simp
              exact hK.out _ _ hB (show ∃ A6 n6 c6 p6, (updv vs 6 _) 6 = .agg (four cB (.slice A6 n6 c6)) ∧ OwnG _ w8.heap.size (.slice A6 n6 c6) p6 ∧ p6.map Prod.fst = (cB).gs from ⟨A5, n5, c5, p5, rfl, hO5, hM5⟩) (fun _ _ _ h => h) (fun _ h => h)
            refine EachAll.snoc (i := 5) (o := { dst := some 33, op := Op.move (Operand.tmp 38), type := 34, pos := _, after := #[{ on := 4, ground := Ground.data }], guard := none }) (l := [0, 1, 2, 3, 4]) (A := fun vs => Act.put (Act.put (Act.put (Act.put (Act.put (_) (some 38) (vs 4)) (some 37) (vs 3)) (some 36) (vs 2)) (some 35) (vs 1)) (some 34) (vs 0)) ?_ rfl rfl (fun _ => rfl) ?_
            rotate_left
            · intro vs y hI hJ hA K hK
              have hB := hI
              clear hJ
              have hF4 : ∃ A4 n4 c4 p4, vs 4 = .tuple #[.agg (four cB (.slice A4 n4 c4)), .int .i64 EE] ∧ OwnG y w8.heap.size (.slice A4 n4 c4) p4 ∧ p4.map Prod.fst = (cB).gs := hA 4 (by decide)
              obtain ⟨A4, n4, c4, p4, e4, hO4, hM4⟩ := hF4
              clear hA
              refine Box.mk ?_
              try simp only [e4, allPut, puts, Act.put, List.setIfInBounds_toArray, List.set_cons_zero, List.set_cons_succ] at hK ⊢
              go_simp
              exact hK.out _ _ hB (show ∃ A5 n5 c5 p5, (updv vs 5 _) 5 = .tuple #[.agg (four cB (.slice A5 n5 c5)), .int .i64 EE] ∧ OwnG _ w8.heap.size (.slice A5 n5 c5) p5 ∧ p5.map Prod.fst = (cB).gs from ⟨A4, n4, c4, p4, rfl, hO4, hM4⟩) (fun _ _ _ h => h) (fun _ h => h)
            refine EachAll.snoc (i := 4) (o := { dst := some 38, op := Op.call { callee := Callee.value (Operand.func 12), args := #[Operand.tmp 35, Operand.tmp 37], argTypes := #[25, 32] }, type := 34, pos := _, after := #[{ on := 1, ground := Ground.data }, { on := 3, ground := Ground.data }, { on := 3, ground := Ground.chain }], guard := none }) (l := [0, 1, 2, 3]) (A := fun vs => Act.put (Act.put (Act.put (Act.put (_) (some 37) (vs 3)) (some 36) (vs 2)) (some 35) (vs 1)) (some 34) (vs 0)) ?_ rfl rfl (fun _ => rfl) ?_
            rotate_left
            · intro vs y hI hJ hA K hK
              have hB := hI
              clear hJ
              have hF1 : ∃ A1 n1 c1 p1, vs 1 = .agg (four bb (.slice A1 n1 c1)) ∧ OwnG y w8.heap.size (.slice A1 n1 c1) p1 ∧ p1.map Prod.fst = (bb).gs := hA 1 (by decide)
              obtain ⟨A1, n1, c1, p1, e1, hO1, hM1⟩ := hF1
              have hF3 : ∃ A3 c3 B3 d3, vs 3 = .agg (twelve rk (.slice A3 rk.g.stamp.length c3) (.slice B3 rk.stamp.length d3)) ∧ OwnI y w8.heap.size (.slice A3 rk.g.stamp.length c3) rk.g.stamp ∧ OwnI y w8.heap.size (.slice B3 rk.stamp.length d3) rk.stamp := hA 3 (by decide)
              obtain ⟨A3, c3, B3, d3, e3, hO3, hP3⟩ := hF3
              clear hA
              refine Box.mk ?_
              try simp only [e1, e3, allPut, puts, Act.put, List.setIfInBounds_toArray, List.set_cons_zero, List.set_cons_succ] at hK ⊢
              clear e1 e3
              go_simp
              have hfr := OwnRecPost.fit HF8.out hO3 hP3
              have hfb := fitB_own hO1 hM1 (in_ok HOB.out).1 (in_ok HOB.out).2.1 (in_ok HOB.out).2.2
              with_reducible refine (b_Apply (.slice A1 n1 c1) (.slice A3 rk.g.stamp.length c3) (.slice B3 rk.stamp.length d3) bb rk y hfb hfr).mono ?_
              unfold AppPost
              rw [HAP.out]
              rintro e w5 ⟨v5, p5, rfl, hm, ho, hb⟩
              obtain ⟨A5, c5, hv, _, _⟩ := own_shape ho.row
              subst hv
              go_simp
              exact hK.out _ _ (below_on hB hb) (show ∃ A4 n4 c4 p4, (updv vs 4 _) 4 = .tuple #[.agg (four cB (.slice A4 n4 c4)), .int .i64 EE] ∧ OwnG w5 w8.heap.size (.slice A4 n4 c4) p4 ∧ p4.map Prod.fst = (cB).gs from ⟨A5, _, c5, p5, rfl, (ho.low hB.size), hm⟩) (fun j _ _ h => HKEEP.out vs y w5 hb j h) (fun _ h => h)
            refine EachAll.snoc (i := 3) (o := { dst := some 37, op := Op.call { callee := Callee.value (Operand.func 14), args := #[Operand.tmp 36], argTypes := #[32] }, type := 32, pos := _, after := #[{ on := 2, ground := Ground.data }, { on := 1, ground := Ground.chain }], guard := none }) (l := [0, 1, 2]) (A := fun vs => Act.put (Act.put (Act.put (_) (some 36) (vs 2)) (some 35) (vs 1)) (some 34) (vs 0)) ?_ rfl rfl (fun _ => rfl) ?_
            rotate_left
            · intro vs y hI hJ hA K hK
              have hB := hI
              clear hJ
              have e2 : vs 2 = .agg (twelve rk (.slice Ak rk.g.stamp.length ck) (.slice Bk' rk.stamp.length dk)) := hA 2 (by decide)
              clear hA
              refine Box.mk ?_
              try simp only [e2, allPut, puts, Act.put, List.setIfInBounds_toArray, List.set_cons_zero, List.set_cons_succ] at hK ⊢
              clear e2
              go_simp
              with_reducible refine (r_ownRec (.slice Ak rk.g.stamp.length ck) (.slice Bk' rk.stamp.length dk) rk y (HF8.out.below hB)).mono ?_
              rintro e w5 ⟨v5, u5, rfl, h1, h2, hb⟩
              obtain ⟨A5, c5, hv, _, _⟩ := own_shape h1
              obtain ⟨B5, d5, hu, _, _⟩ := own_shape h2
              subst hv hu
              go_simp
              exact hK.out _ _ (below_on hB hb) (show ∃ A3 c3 B3 d3, (updv vs 3 _) 3 = .agg (twelve rk (.slice A3 rk.g.stamp.length c3) (.slice B3 rk.stamp.length d3)) ∧ OwnI w5 w8.heap.size (.slice A3 rk.g.stamp.length c3) rk.g.stamp ∧ OwnI w5 w8.heap.size (.slice B3 rk.stamp.length d3) rk.stamp from ⟨A5, c5, B5, d5, rfl, (own_low h1 hB.size), (own_low h2 hB.size)⟩) (fun j _ _ h => HKEEP.out vs y w5 hb j h) (fun _ h => h)
            refine EachAll.snoc (i := 2) (o := { dst := some 36, op := Op.load 32 (Operand.tmp 7), type := 32, pos := _, after := #[], guard := none }) (l := []) (A := fun vs => _) ?_ rfl rfl (fun _ => rfl) ?_
            rotate_left
            · intro vs y hI hJ hA K hK
              have hB := hI
              clear hJ
              clear hA
              refine Box.mk ?_
              try simp only [allPut, puts, Act.put, List.setIfInBounds_toArray, List.set_cons_zero, List.set_cons_succ] at hK ⊢
              obtain ⟨x0, x1, x2, x3, x4, x5, x6, x7, x8, x9, x10, x11⟩ := rec_cells ((Mod.of_below hB []).whole HK8.out (by simp))
              go_simp
              exact hK.out _ _ hB (show (updv vs 2 _) 2 = .agg (twelve rk (.slice Ak rk.g.stamp.length ck) (.slice Bk' rk.stamp.length dk)) from rfl) (fun _ _ _ h => h) (fun _ h => h)
            refine EachAll.snoc (i := 1) (o := { dst := some 35, op := Op.call { callee := Callee.value (Operand.func 13), args := #[Operand.tmp 34], argTypes := #[25] }, type := 25, pos := _, after := #[{ on := 0, ground := Ground.data }], guard := none }) (l := [0]) (A := fun vs => Act.put (_) (some 34) (vs 0)) ?_ rfl rfl (fun _ => rfl) ?_
            rotate_left
            · intro vs y hI hJ hA K hK
              have hB := hI
              clear hJ
              have e0 : vs 0 = .agg (four bb (.slice VB lB cvB)) := hA 0 (by decide)
              clear hA
              refine Box.mk ?_
              try simp only [e0, allPut, puts, Act.put, List.setIfInBounds_toArray, List.set_cons_zero, List.set_cons_succ] at hK ⊢
              clear e0
              go_simp
              with_reducible refine (r_own (.slice VB lB cvB) bb y (HFB.out.below hB)).mono ?_
              rintro e w5 ⟨v5, p5, rfl, hm, ho, hb⟩
              obtain ⟨A5, c5, hv, _, _⟩ := own_shape ho.row
              subst hv
              go_simp
              exact hK.out _ _ (below_on hB hb) (show ∃ A1 n1 c1 p1, (updv vs 1 _) 1 = .agg (four bb (.slice A1 n1 c1)) ∧ OwnG w5 w8.heap.size (.slice A1 n1 c1) p1 ∧ p1.map Prod.fst = (bb).gs from ⟨A5, _, c5, p5, rfl, (ho.low hB.size), hm⟩) (fun j _ _ h => HKEEP.out vs y w5 hb j h) (fun _ h => h)
            refine EachAll.snoc (i := 0) (o := { dst := some 34, op := Op.load 25 (Operand.tmp 2), type := 25, pos := _, after := #[], guard := none }) (l := []) (A := fun vs => _) ?_ rfl rfl (fun _ => rfl) ?_
            rotate_left
            · intro vs y hI hJ hA K hK
              have hB := hI
              clear hJ
              clear hA
              refine Box.mk ?_
              try simp only [allPut, puts, Act.put, List.setIfInBounds_toArray, List.set_cons_zero, List.set_cons_succ] at hK ⊢
              obtain ⟨x0, x1, x2, x3⟩ := four_cells ((Mod.of_below hB []).whole HW8.out (by simp))
              go_simp
              exact hK.out _ _ hB (show (updv vs 0 _) 0 = .agg (four bb (.slice VB lB cvB)) from rfl) (fun _ _ _ h => h) (fun _ h => h)
            exact EachAll.nil
          · intro vs y hI hall
            have hB := hI
            have e0 : vs 0 = .agg (four bb (.slice VB lB cvB)) := hall 0 (by decide)
            have hF1 : ∃ A1 n1 c1 p1, vs 1 = .agg (four bb (.slice A1 n1 c1)) ∧ OwnG y w8.heap.size (.slice A1 n1 c1) p1 ∧ p1.map Prod.fst = (bb).gs := hall 1 (by decide)
            obtain ⟨A1, n1, c1, p1, e1, hO1, hM1⟩ := hF1
            have e2 : vs 2 = .agg (twelve rk (.slice Ak rk.g.stamp.length ck) (.slice Bk' rk.stamp.length dk)) := hall 2 (by decide)
            have hF3 : ∃ A3 c3 B3 d3, vs 3 = .agg (twelve rk (.slice A3 rk.g.stamp.length c3) (.slice B3 rk.stamp.length d3)) ∧ OwnI y w8.heap.size (.slice A3 rk.g.stamp.length c3) rk.g.stamp ∧ OwnI y w8.heap.size (.slice B3 rk.stamp.length d3) rk.stamp := hall 3 (by decide)
            obtain ⟨A3, c3, B3, d3, e3, hO3, hP3⟩ := hF3
            have hF4 : ∃ A4 n4 c4 p4, vs 4 = .tuple #[.agg (four cB (.slice A4 n4 c4)), .int .i64 EE] ∧ OwnG y w8.heap.size (.slice A4 n4 c4) p4 ∧ p4.map Prod.fst = (cB).gs := hall 4 (by decide)
            obtain ⟨A4, n4, c4, p4, e4, hO4, hM4⟩ := hF4
            have hF5 : ∃ A5 n5 c5 p5, vs 5 = .tuple #[.agg (four cB (.slice A5 n5 c5)), .int .i64 EE] ∧ OwnG y w8.heap.size (.slice A5 n5 c5) p5 ∧ p5.map Prod.fst = (cB).gs := hall 5 (by decide)
            obtain ⟨A5, n5, c5, p5, e5, hO5, hM5⟩ := hF5
            have hF6 : ∃ A6 n6 c6 p6, vs 6 = .agg (four cB (.slice A6 n6 c6)) ∧ OwnG y w8.heap.size (.slice A6 n6 c6) p6 ∧ p6.map Prod.fst = (cB).gs := hall 6 (by decide)
            obtain ⟨A6, n6, c6, p6, e6, hO6, hM6⟩ := hF6
            have e7 : vs 7 = .int .i64 EE := hall 7 (by decide)
            have hF8 : ∃ q8 cs8, vs 8 = .pointer (some ⟨q8, 0, none⟩) ∧ w8.heap.size ≤ q8 ∧ Whole y q8 25 cs8 ∧ cs8.size = 4 := hall 8 (by decide)
            obtain ⟨q8, cs8, e8, hq8, hW8', hs8⟩ := hF8
            have hF9 : ∃ q9 A9 n9 c9 p9, vs 8 = .pointer (some ⟨q9, 0, none⟩) ∧ Whole y q9 25 (four cB (.slice A9 n9 c9)) ∧ OwnG y w8.heap.size (.slice A9 n9 c9) p9 ∧ p9.map Prod.fst = (cB).gs := hall 9 (by decide)
            obtain ⟨q9, A9, n9, c9, p9, e9, hW9, hO9, hM9⟩ := hF9
            have e10 : vs 10 = .int .i64 EE := hall 10 (by decide)
            clear hall HKEEP
            refine Box.mk ?_
            simp only [e0, e1, e2, e3, e4, e5, e6, e7, e8, e10, allPut, puts, Act.put, List.setIfInBounds_toArray, List.set_cons_zero, List.set_cons_succ]
            have hqq : q9 = q8 := by have h := e9; rw [e8] at h; injection h with h; injection h with h; injection h with h; exact h.symm
            subst hqq
            have HQ := Lib.hid hq8
            have HW9 := Lib.hid hW9
            have HO9 := Lib.hid hO9
            have HM9 := Lib.hid hM9
            have HBB := Lib.hid hB
            clear e0 e1 e2 e3 e4 e5 e6 e7 e8 e9 e10 hO1 hM1 hO3 hP3 hO4 hM4 hO5 hM5 hO6 hM6 hq8 hW8' hs8 hW9 hO9 hM9 hB
            go_wp2_with fail
            go_meet
            exact ⟨q9, A9, n9, c9, p9, rfl, rfl, HQ, HW9, HO9, HM9, HBB⟩
        case rest =>
          obtain ⟨q, VC, lC, cvC, psC, rfl, rfl, HQ, HWC, HOC, HMC, HBC⟩ := hcut
          have HB9 := Lib.hid (below_on HB8.out HBC.out)
          have HK9 := Lib.hid (show Whole wc p7 32 (twelve rk (.slice Ak rk.g.stamp.length ck) (.slice Bk' rk.stamp.length dk)) from (Mod.of_below HBC.out []).whole HK8.out (by simp))
          have HW9 := Lib.hid (show Whole wc w.heap.size 25 (four bb (.slice VB lB cvB)) from (Mod.of_below HBC.out []).whole HW8.out (by simp))
          have HU9 := Lib.hid (show OwnI wc _ _ _ from (Mod.of_below HBC.out []).own HU8.out (by simp))
          have HF9 := Lib.hid (HF8.out.below HBC.out)
          have HO9 := Lib.hid (HO8.out.below HBC.out)
          have HFC := Lib.hid (FarI.new HU8.out HOC.out)
          have HSZ9 := Lib.hid (show w.heap.size + 1 ≤ wc.heap.size from HW9.out.lt)
          clear HK8 HW8 HU8 HF8 HO8 HB8
          obtain ⟨q0, q1, q2, q3⟩ := four_cells HWC.out
          by_cases hE : EE = 0
          · subst hE
            obtain ⟨hokc, hn1, hn2, hn3, ha4, ha5⟩ := BM.apply_ok HAP.out
            have HOKC := Lib.hid hokc
            have HAK4 := Lib.hid ha4
            have HAK5 := Lib.hid ha5
            have HL6 := Lib.hid (show lC ≤ 6 by
              obtain ⟨A', c', e, _, _⟩ := own_shape HOC.out.row
              have e1 : lC = psC.length := by injection e
              have h6 := (BM.okBk_parts hokc).2.2.2.1
              rw [← HMC.out, List.length_map] at h6
              omega)
            have HNN := Lib.hid (And.intro hn1 (And.intro hn2 hn3))
            clear hokc hn1 hn2 hn3 ha4 ha5
            have HFB9 := Lib.hid (fitB_own HOC.out HMC.out (in_ok HOKC.out).1 (in_ok HOKC.out).2.1 (in_ok HOKC.out).2.2)
            go_wp2_with fail
            refine (r_own (.slice VC lC cvC) cB wc HFB9.out).mono ?_
            rintro e w10 ⟨v10, ps10, rfl, hm10, ho10, hb10⟩
            obtain ⟨V10, cv10, hvv, _, _⟩ := own_shape ho10.row
            subst hvv
            have HF10 := Lib.hid (fitB_own ho10 hm10 (in_ok HOKC.out).1 (in_ok HOKC.out).2.1 (in_ok HOKC.out).2.2)
            have HX10 := Lib.hid hb10
            clear hm10 ho10 hb10 q0 q1 q2 q3
            generalize ps10.length = l10 at HF10 ⊢
            unfold four
            go_wp2_with fail
            refine (b_Valid (.slice V10 l10 cv10) cB w10 HF10.out).mono ?_
            rw [HOKC.out]
            rintro e w11 ⟨rfl, hb11⟩
            have HX11 := Lib.hid (below_on HX10.out hb11)
            clear hb11 HF10 HX10 HFB9
            have HBW11 := Lib.hid (below_on HB9.out HX11.out)
            have HK11 := Lib.hid ((Mod.of_below HX11.out []).whole HK9.out (by simp))
            have HW11 := Lib.hid ((Mod.of_below HX11.out []).whole HW9.out (by simp))
            have HWQ11 := Lib.hid ((Mod.of_below HX11.out []).whole HWC.out (by simp))
            have HU11 := Lib.hid (show OwnI w11 _ _ _ from (Mod.of_below HX11.out []).own HU9.out (by simp))
            have HFR11 := Lib.hid (HF9.out.below HX11.out)
            have HOC11 := Lib.hid (HOC.out.below HX11.out)
            have HSZ := Lib.hid (Nat.le_trans HSZ9.out HX11.out.size)
            have HDL4 := Lib.hid HFR11.out.g.hd
            have HDL5 := Lib.hid HFR11.out.st
            clear HK9 HW9 HWC HU9 HF9 HO9 HB9 HX11 HSZ9 HOC
            obtain ⟨q0, q1, q2, q3⟩ := four_cells HWQ11.out
            obtain ⟨d0, d1, d2, d3⟩ := four_cells HW11.out
            have t1 : decide (cB.next < bb.next) = false := by have := HNN.out; simp; omega
            have t2 : decide ((6 : Int) < (lC : Int)) = false := by have := HL6.out; simp; omega
            have t3 : decide (cB.boots < bb.boots) = false := by have := HNN.out; simp; omega
            have t4 : decide (cB.longest < bb.longest) = false := by have := HNN.out; simp; omega
            by_cases hk4 : rk.kind = 4
            · as_aux_lemma =>
                obtain ⟨hne, hcn, hla⟩ := HAK4.out hk4
                obtain ⟨m, hm⟩ : ∃ m, rk.g.stamp.length = m + 1 := ⟨rk.g.stamp.length - 1, by have := List.length_pos_iff.2 hne; omega⟩
                obtain ⟨AS, cS, hsS, hstS⟩ := HDL4.out
                have HDA := hsS
                obtain ⟨bS, oS, hAS, _, hcS⟩ := hstS.ints (by omega)
                have hsn := hcS _ _ (last_get hne)
                have h5 := hstS.le
                have h6 := hstS.cap
                rw [hm, Nat.add_sub_cancel, hla] at hsn
                rw [hm] at h5
                have hcellS : w11.cell? ⟨p7, 5, none⟩ = some (.slice (some ⟨bS, oS, none⟩) (m + 1) cS) := by
                  have := HK11.out.cell 5
                  have e : (twelve rk (.slice Ak rk.g.stamp.length ck) (.slice Bk' rk.stamp.length dk))[5]? = some (.slice Ak rk.g.stamp.length ck) := rfl
                  rw [e, hsS, hm, hAS] at this
                  exact this
                have hck : w11.cell? ⟨p7, 0, none⟩ = some (.int .i64 4) := by
                  have := HK11.out.cell 0
                  have e : (twelve rk (.slice Ak rk.g.stamp.length ck) (.slice Bk' rk.stamp.length dk))[0]? = some (.int .i64 rk.kind) := rfl
                  rw [e, hk4] at this
                  exact this
                have hkx : w11.cell? ⟨p7, 8, none⟩ = some (.slice Bk' rk.stamp.length dk) := HK11.out.cell 8
                rw [hcn] at q0
                have hwn : IntKind.i64.wrap (bb.next + 1) = bb.next + 1 := IntWalk.i64_in _ (by have := (BM.okBk_parts HOB.out).1; omega)
                have hwn' : wrap64 (bb.next + 1) = bb.next + 1 := wrap_in (by have := (BM.okBk_parts HOB.out).1; omega)
                have hge : decide (bb.next + 1 ≤ bb.next) = false := decide_eq_false (by omega)
                have hlt0 : decide (bb.next < bb.next) = false := decide_eq_false (by omega)
                clear hcS hstS hsS HDA
                obtain ⟨AU, cU, hvU, hcU1, hcU2⟩ := own_shape HU11.out
                subst hvU
                have hul := HUL.out
                have HKN := Lib.hid HN4.out
                go_wp2_with fail
                go_loopw [113] (fun i wx => ∃ j : Nat, i = .int .i64 (j : Int) ∧ j ≤ us.length ∧ Hid (wx = w11)) (fun i _ => us.length - (intOf i).toNat)
                case atStart => exact ⟨0, rfl, Nat.zero_le _, Lib.hid rfl⟩
                case round =>
                  obtain ⟨j, rfl, hj, HWX⟩ := hrel
                  obtain rfl := HWX.out
                  by_cases hju : j < us.length
                  · obtain ⟨bU, oU, hAU, _, hcU⟩ := (IntsAt.own HU11.out) (by omega)
                    have hx := hcU j _ (List.getElem?_eq_getElem hju)
                    have hxl := HUS.out _ (List.getElem_mem hju)
                    generalize us[j]'hju = x at hx hxl
                    subst hAU
                    have hxe : (x == bb.next) = false := by simp; omega
                    have j0 : (0 : Int) ≤ (j : Int) := by omega
                    have j1 : (j : Int) < (us.length : Int) := by omega
                    clear hcU hxl
                    go_wp2_with fail
                    go_roundw
                    case rel => exact ⟨j + 1, rfl, hju, Lib.hid trivial⟩
                    case measure => simp only [intOf]; omega
                  · have HAL := Lib.hid (Below.refl wr.heap.size wr)
                    have HP12 := Lib.hid (Whole.new wr 3 #[.int .i64 bb.next])
                    have HX12 := Lib.hid ((Below.refl _ wr).alloc (Nat.le_refl _) (.cells #[.int .i64 bb.next] 3))
                    have HU12 := Lib.hid (show OwnI _ _ _ _ from (Mod.of_below HX12.out []).own HU11.out (by simp))
                    have HQ12 := Lib.hid ((Mod.of_below HX12.out []).whole HWQ11.out (by simp))
                    have HB12 := Lib.hid ((Mod.of_below HX12.out []).whole HW11.out (by simp))
                    have HO12 := Lib.hid (HOC11.out.below HX12.out)
                    have HS12 := Lib.hid (show w.heap.size + 1 ≤ (wr.alloc (.cells #[.int .i64 bb.next] 3)).heap.size from Nat.le_trans HSZ.out HX12.out.size)
                    have HL12 := Lib.hid (show (us.length + 1) * 8 ≤ 140737488355328 by have := HKN.out; omega)
                    go_wp2_with (at_builtin; refine list_app_int rfl (.tmp 131) (.tmp 133) rfl HU12.out HP12.out HL12.out HS12.out rfl rfl ?_; intro U13 w13 hu13 hm13 hv13; have HU13 := Lib.hid hu13; have HM13 := Lib.hid hm13; have HV13 := Lib.hid hv13; have HWQ13 := Lib.hid (hm13.whole HQ12.out (fun hf => own_ne HU12.out HQ12.out (by decide) (by simpa using hf))); have HW13 := Lib.hid (hm13.whole HB12.out (fun hf => own_ne HU12.out HB12.out (by decide) (by simpa using hf))); have HO13 := Lib.hid (ownG_far HO12.out HU12.out HFC.out hm13); clear hu13 hm13 hv13; obtain ⟨y0, y1, y2, y3⟩ := four_cells HWQ13.out; obtain ⟨z0, z1, z2, z3⟩ := four_cells HW13.out; have f0 := HW13.out.frozen 0; have f1 := HW13.out.frozen 1; have f2 := HW13.out.frozen 2; have f3 := HW13.out.frozen 3; rw [hcn] at y0)
                    have hM14 := four_mod w13 w.heap.size (.int .i64 (bb.next + 1)) (.int .i64 cB.boots) (.int .i64 cB.longest) (.slice VC lC cvC)
                    have hW14 := four_set HW13.out rfl (.int .i64 (bb.next + 1)) (.int .i64 cB.boots) (.int .i64 cB.longest) (.slice VC lC cvC)
                    have hU14 := HU13.out.apart HW13.out (by decide) hM14
                    have hO14 := HO13.out.apart HW13.out (by decide) (by decide) hM14
                    have HW15 := Lib.hid (show Whole _ w.heap.size 25 (four cB (.slice VC lC cvC)) by unfold four; rw [hcn]; exact hW14)
                    have HU15 := Lib.hid hU14
                    have HO15 := Lib.hid (hO14.low (Nat.zero_le _))
                    have HF15 := Lib.hid (show FarI U13 psC from fun z hz p hp e => by
                      rcases HV13.out with h | h
                      · rw [h] at hz; exact HFC.out z hz p hp e
                      · rw [h] at hz
                        have h1 := ((HOC11.out.st p hp).lt z e).2
                        have h2 : z = _ := (Option.some.inj hz).symm
                        have h3 := HX12.out.size
                        omega)
                    have HB15 := Lib.hid (HBW11.out.trans ((HX12.out.mono (Nat.le_trans (Nat.le_succ _) HSZ.out)).trans ((HM13.out.below (Nat.le_trans (Nat.le_succ _) HS12.out) (fun z hz => by have := (HU12.out.lt z (by simpa using hz)).1; omega)).trans (hM14.below (Nat.le_trans (Nat.le_trans (Nat.le_succ _) HS12.out) HM13.out.size) (by simp)))))
                    have HUS15 := Lib.hid (show ∀ x ∈ us ++ [bb.next], x < cB.next by
                      intro x hx
                      rw [hcn]
                      rcases List.mem_append.1 hx with hx | hx
                      · have := HUS.out x hx; omega
                      · rw [List.mem_singleton.1 hx]; omega)
                    clear hM14 hW14 hU14 hO14 y0 y1 y2 y3 z0 z1 z2 z3 f0 f1 f2 f3
                    go_roundw
                    case rel => exact ⟨k + 1, cB, _, psC, us ++ [bb.next], by go_num, hlt, by rw [List.length_append, List.length_singleton]; omega, HOKC, HW15, HO15, HMC, HU15, HF15, HUS15, HB15⟩
                    case measure => simp only [intOf]; go_num
            · by_cases hk5 : rk.kind = 5
              · as_aux_lemma =>
                  obtain ⟨hne, hcn, hla⟩ := HAK5.out hk5
                  obtain ⟨m, hm⟩ : ∃ m, rk.stamp.length = m + 1 := ⟨rk.stamp.length - 1, by have := List.length_pos_iff.2 hne; omega⟩
                  obtain ⟨AS, cS, hsS, hstS⟩ := HDL5.out
                  have HDA := hsS
                  obtain ⟨bS, oS, hAS, _, hcS⟩ := hstS.ints (by omega)
                  have hsn := hcS _ _ (last_get hne)
                  have h5 := hstS.le
                  have h6 := hstS.cap
                  rw [hm, Nat.add_sub_cancel, hla] at hsn
                  rw [hm] at h5
                  have hcellS : w11.cell? ⟨p7, 8, none⟩ = some (.slice (some ⟨bS, oS, none⟩) (m + 1) cS) := by
                    have := HK11.out.cell 8
                    have e : (twelve rk (.slice Ak rk.g.stamp.length ck) (.slice Bk' rk.stamp.length dk))[8]? = some (.slice Bk' rk.stamp.length dk) := rfl
                    rw [e, hsS, hm, hAS] at this
                    exact this
                  have hck : w11.cell? ⟨p7, 0, none⟩ = some (.int .i64 5) := by
                    have := HK11.out.cell 0
                    have e : (twelve rk (.slice Ak rk.g.stamp.length ck) (.slice Bk' rk.stamp.length dk))[0]? = some (.int .i64 rk.kind) := rfl
                    rw [e, hk5] at this
                    exact this
                  have hkx : w11.cell? ⟨p7, 5, none⟩ = some (.slice Ak rk.g.stamp.length ck) := HK11.out.cell 5
                  rw [hcn] at q0
                  have hwn : IntKind.i64.wrap (bb.next + 1) = bb.next + 1 := IntWalk.i64_in _ (by have := (BM.okBk_parts HOB.out).1; omega)
                  have hwn' : wrap64 (bb.next + 1) = bb.next + 1 := wrap_in (by have := (BM.okBk_parts HOB.out).1; omega)
                  have hge : decide (bb.next + 1 ≤ bb.next) = false := decide_eq_false (by omega)
                  have hlt0 : decide (bb.next < bb.next) = false := decide_eq_false (by omega)
                  clear hcS hstS hsS HDA
                  obtain ⟨AU, cU, hvU, hcU1, hcU2⟩ := own_shape HU11.out
                  subst hvU
                  have hul := HUL.out
                  have HKN := Lib.hid HN4.out
                  go_wp2_with fail
                  go_loopw [113] (fun i wx => ∃ j : Nat, i = .int .i64 (j : Int) ∧ j ≤ us.length ∧ Hid (wx = w11)) (fun i _ => us.length - (intOf i).toNat)
                  case atStart => exact ⟨0, rfl, Nat.zero_le _, Lib.hid rfl⟩
                  case round =>
                    obtain ⟨j, rfl, hj, HWX⟩ := hrel
                    obtain rfl := HWX.out
                    by_cases hju : j < us.length
                    · obtain ⟨bU, oU, hAU, _, hcU⟩ := (IntsAt.own HU11.out) (by omega)
                      have hx := hcU j _ (List.getElem?_eq_getElem hju)
                      have hxl := HUS.out _ (List.getElem_mem hju)
                      generalize us[j]'hju = x at hx hxl
                      subst hAU
                      have hxe : (x == bb.next) = false := by simp; omega
                      have j0 : (0 : Int) ≤ (j : Int) := by omega
                      have j1 : (j : Int) < (us.length : Int) := by omega
                      clear hcU hxl
                      go_wp2_with fail
                      go_roundw
                      case rel => exact ⟨j + 1, rfl, hju, Lib.hid trivial⟩
                      case measure => simp only [intOf]; omega
                    · have HAL := Lib.hid (Below.refl wr.heap.size wr)
                      have HP12 := Lib.hid (Whole.new wr 3 #[.int .i64 bb.next])
                      have HX12 := Lib.hid ((Below.refl _ wr).alloc (Nat.le_refl _) (.cells #[.int .i64 bb.next] 3))
                      have HU12 := Lib.hid (show OwnI _ _ _ _ from (Mod.of_below HX12.out []).own HU11.out (by simp))
                      have HQ12 := Lib.hid ((Mod.of_below HX12.out []).whole HWQ11.out (by simp))
                      have HB12 := Lib.hid ((Mod.of_below HX12.out []).whole HW11.out (by simp))
                      have HO12 := Lib.hid (HOC11.out.below HX12.out)
                      have HS12 := Lib.hid (show w.heap.size + 1 ≤ (wr.alloc (.cells #[.int .i64 bb.next] 3)).heap.size from Nat.le_trans HSZ.out HX12.out.size)
                      have HL12 := Lib.hid (show (us.length + 1) * 8 ≤ 140737488355328 by have := HKN.out; omega)
                      go_wp2_with (at_builtin; refine list_app_int rfl (.tmp 131) (.tmp 133) rfl HU12.out HP12.out HL12.out HS12.out rfl rfl ?_; intro U13 w13 hu13 hm13 hv13; have HU13 := Lib.hid hu13; have HM13 := Lib.hid hm13; have HV13 := Lib.hid hv13; have HWQ13 := Lib.hid (hm13.whole HQ12.out (fun hf => own_ne HU12.out HQ12.out (by decide) (by simpa using hf))); have HW13 := Lib.hid (hm13.whole HB12.out (fun hf => own_ne HU12.out HB12.out (by decide) (by simpa using hf))); have HO13 := Lib.hid (ownG_far HO12.out HU12.out HFC.out hm13); clear hu13 hm13 hv13; obtain ⟨y0, y1, y2, y3⟩ := four_cells HWQ13.out; obtain ⟨z0, z1, z2, z3⟩ := four_cells HW13.out; have f0 := HW13.out.frozen 0; have f1 := HW13.out.frozen 1; have f2 := HW13.out.frozen 2; have f3 := HW13.out.frozen 3; rw [hcn] at y0)
                      have hM14 := four_mod w13 w.heap.size (.int .i64 (bb.next + 1)) (.int .i64 cB.boots) (.int .i64 cB.longest) (.slice VC lC cvC)
                      have hW14 := four_set HW13.out rfl (.int .i64 (bb.next + 1)) (.int .i64 cB.boots) (.int .i64 cB.longest) (.slice VC lC cvC)
                      have hU14 := HU13.out.apart HW13.out (by decide) hM14
                      have hO14 := HO13.out.apart HW13.out (by decide) (by decide) hM14
                      have HW15 := Lib.hid (show Whole _ w.heap.size 25 (four cB (.slice VC lC cvC)) by unfold four; rw [hcn]; exact hW14)
                      have HU15 := Lib.hid hU14
                      have HO15 := Lib.hid (hO14.low (Nat.zero_le _))
                      have HF15 := Lib.hid (show FarI U13 psC from fun z hz p hp e => by
                        rcases HV13.out with h | h
                        · rw [h] at hz; exact HFC.out z hz p hp e
                        · rw [h] at hz
                          have h1 := ((HOC11.out.st p hp).lt z e).2
                          have h2 : z = _ := (Option.some.inj hz).symm
                          have h3 := HX12.out.size
                          omega)
                      have HB15 := Lib.hid (HBW11.out.trans ((HX12.out.mono (Nat.le_trans (Nat.le_succ _) HSZ.out)).trans ((HM13.out.below (Nat.le_trans (Nat.le_succ _) HS12.out) (fun z hz => by have := (HU12.out.lt z (by simpa using hz)).1; omega)).trans (hM14.below (Nat.le_trans (Nat.le_trans (Nat.le_succ _) HS12.out) HM13.out.size) (by simp)))))
                      have HUS15 := Lib.hid (show ∀ x ∈ us ++ [bb.next], x < cB.next by
                        intro x hx
                        rw [hcn]
                        rcases List.mem_append.1 hx with hx | hx
                        · have := HUS.out x hx; omega
                        · rw [List.mem_singleton.1 hx]; omega)
                      clear hM14 hW14 hU14 hO14 y0 y1 y2 y3 z0 z1 z2 z3 f0 f1 f2 f3
                      go_roundw
                      case rel => exact ⟨k + 1, cB, _, psC, us ++ [bb.next], by go_num, hlt, by rw [List.length_append, List.length_singleton]; omega, HOKC, HW15, HO15, HMC, HU15, HF15, HUS15, HB15⟩
                      case measure => simp only [intOf]; go_num
              · have k4 : (rk.kind == 4) = false := by simpa using hk4
                have k5 : (rk.kind == 5) = false := by simpa using hk5
                obtain ⟨c0, c1, c2', c3, c4, c5', c6, c7, c8, c9, c10, c11⟩ := rec_cells HK11.out
                have f0 := HW11.out.frozen 0
                have f1 := HW11.out.frozen 1
                have f2 := HW11.out.frozen 2
                have f3 := HW11.out.frozen 3
                have hM14 := four_mod w11 w.heap.size (.int .i64 cB.next) (.int .i64 cB.boots) (.int .i64 cB.longest) (.slice VC lC cvC)
                have HW15 := Lib.hid (show Whole _ w.heap.size 25 (four cB (.slice VC lC cvC)) from four_set HW11.out rfl (.int .i64 cB.next) (.int .i64 cB.boots) (.int .i64 cB.longest) (.slice VC lC cvC))
                have HU15 := Lib.hid (HU11.out.apart HW11.out (by decide) hM14)
                have HO15 := Lib.hid ((HOC11.out.apart HW11.out (by decide) (by decide) hM14).low (Nat.zero_le _))
                have HB15 := Lib.hid (HBW11.out.trans (hM14.below HBW11.out.size (by simp)))
                have HUS15 := Lib.hid (show ∀ x ∈ us, x < cB.next from fun x hx => by have h1 := HUS.out x hx; have h2 := HNN.out.1; omega)
                clear hM14
                go_wp2_with fail
                go_roundw
                case rel => exact ⟨k + 1, cB, _, psC, us, by go_num, hlt, by have := HUL.out; omega, HOKC, HW15, HO15, HMC, HU15, HFC, HUS15, HB15⟩
                case measure => simp only [intOf]; go_num
          · have hcb : cB = b0 := BM.apply_err HAP.out hE
            subst hcb
            have hEn : (EE != 0) = true := by simpa using hE
            have HEE := Lib.hid hE
            go_wp2_with fail
            refine (r_Same (.slice VC lC cvC) (.slice none 0 0) b0 b0 wc (fitB_own HOC.out HMC.out (by unfold In64; decide) (by unfold In64; decide) (by unfold In64; decide)) ⟨HdG.nil, by unfold In64; decide, by unfold In64; decide, by unfold In64; decide⟩).mono ?_
            rw [show decide (b0 = b0) = true from decide_eq_true rfl]
            rintro e w10 ⟨rfl, hb10⟩
            have HB15 := Lib.hid (below_on HB9.out hb10)
            have HW15 := Lib.hid ((Mod.of_below hb10 []).whole HW9.out (by simp))
            have HU15 := Lib.hid (show OwnI w10 _ _ _ from (Mod.of_below hb10 []).own HU9.out (by simp))
            have HO15 := Lib.hid (HO9.out.below hb10)
            clear hb10 q0 q1 q2 q3
            go_wp2_with fail
            go_roundw
            case rel => exact ⟨k + 1, bb, _, psB, us, by go_num, hlt, by have := HUL.out; omega, HOB, HW15, HO15, HM, HU15, HFA, HUS, HB15⟩
            case measure => simp only [intOf]; go_num
      · go_wp2_with fail
        go_ret
        exact ⟨rfl, HB.out⟩

theorem own : ownKnob Try.prog.godebug = none := by kernel_rfl
theorem laidOut : laidOutB Try.prog = true := by kernel_rfl
set_option maxRecDepth 100000 in
theorem lifted (os : Os) (started : os.Started) (H : Type) (enc : TypeId × Value → H) :
    ReturnsInHanded {} Try.checked os 9 .any (Rows.bookOnceSpec.pre6 enc Try.prog Try.f9 [] false) (Rows.bookOnceSpec.post enc Try.prog Try.f9 false true false false) := by
  refine LK.lifted_bare (C := Try.checked) (tb := 4) own started (by kernel_rfl) Try.func9 laidOut rfl (by kernel_rfl) (by kernel_rfl) Try.underlying4
    (fun ds h => by
      match ds, h with
      | [_, _], _ => rfl)
    (ChangeSpec.witness6 (enc := enc) (C := Try.checked) false ⟨#[], #[.agg #[.int .i64 0, .int .i64 0, .int .i64 0, .slice none 0 0], .slice none 0 0], []⟩ 8 (by kernel_rfl) (by kernel_rfl) (by kernel_rfl) (by kernel_rfl)) ?_
  intro W base args ds ps hval hA hwt _
  rw [show Try.f9.params.toList = [25, 43] by kernel_rfl] at hA hwt
  have hval' : ∀ (j : Nat) t v, (#[25, 43] : Array TypeId)[j]? = some t → args[j]? = some v → Value.okWide Try.prog W .any base t v := by
    rw [← Try.params9]; exact hval
  clear hval
  obtain ⟨v0, v1, d0, d1, pl0, pl1, rfl, rfl, rfl, h0, h1⟩ := trodAll_two hA
  obtain ⟨s0, b0, rfl, hR0⟩ := open_book (hval' 0 25 v0 rfl rfl) h0 hwt (j := 0) rfl rfl
  obtain ⟨A1, c1, rs1, rfl, hL1, hc1, hm1⟩ := open_recs (hval' 1 43 v1 rfl rfl) h1 hwt (j := 1) rfl rfl
  exact walk s0 b0 A1 c1 rs1 W hR0 hL1 hc1 hm1

/-- The statement. -/
theorem proved : Rows.BookOnceSaid :=
  OpenClaim.holds_of_wide 9 Try.f9 rfl rfl rfl rfl rfl rfl rfl ⟨rfl, rfl, rfl, rfl, rfl⟩ rfl rfl rfl rfl rfl (by kernel_rfl) Try.func9 (by kernel_rfl)
    (of_decide_eq_true (by kernel_rfl)) (by unfold Func.isWrapper; first | (rw [if_pos (by decide +kernel)]; kernel_rfl) | (rw [if_neg (by decide +kernel)]; exact ⟨rfl, rfl⟩))
    (fun os started H enc _ => lifted os started H enc)

end Go.Proofs.Ytdegamlnkleddaa.lawBookOnce
