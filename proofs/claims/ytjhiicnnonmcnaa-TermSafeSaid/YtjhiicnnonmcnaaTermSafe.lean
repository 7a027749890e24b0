/- Whoever counts a shrunk term on its own clock is done while another clock, on which the full term is counted over no more true time, has something left; for any two numbers and any two spans. -/
import Derived.Deep.DeepCutAuto
import Derived.Test.YtjhiicnnonmcnaaRows
import Derived.Test.YtjhiicnnonmcnaaTermW8
import Derived.Test.YtjhiicnnonmcnaaTermW2
import Derived.Test.YtjhiicnnonmcnaaLawBare
import Derived.JoinedCond
import Derived.OpenShut
namespace Go.Proofs.Ytjhiicnnonmcnaa.lawTermSafe
open Go Go.RowKit Go.ChangeShapes Go.WideShapes Go.ChangeAt
set_option linter.unusedVariables false
set_option linter.unusedSimpArgs false
theorem two_new (w : World) (t : TypeId) (a b c e : Value) : ((w.alloc (.cells #[a, b] t)).alloc (.cells #[c, e] t)).drew.cell? ⟨w.heap.size, 0, none⟩ = some a ∧ ((w.alloc (.cells #[a, b] t)).alloc (.cells #[c, e] t)).drew.cell? ⟨w.heap.size, 1, none⟩ = some b ∧ ((w.alloc (.cells #[a, b] t)).alloc (.cells #[c, e] t)).drew.cell? ⟨w.heap.size + 1, 0, none⟩ = some c ∧ ((w.alloc (.cells #[a, b] t)).alloc (.cells #[c, e] t)).drew.cell? ⟨w.heap.size + 1, 1, none⟩ = some e ∧ Up w ((w.alloc (.cells #[a, b] t)).alloc (.cells #[c, e] t)).drew := by
  have h1 : (w.alloc (.cells #[a, b] t)).cell? ⟨w.heap.size, 0, none⟩ = some a := by rw [World.cell?_alloc_at _ _ _ _ (by simp)]; rfl
  have h2 : (w.alloc (.cells #[a, b] t)).cell? ⟨w.heap.size, 1, none⟩ = some b := by rw [World.cell?_alloc_at _ _ _ _ (by simp)]; rfl
  have hz : (w.alloc (.cells #[a, b] t)).heap.size = w.heap.size + 1 := by simp
  have h3 : ((w.alloc (.cells #[a, b] t)).alloc (.cells #[c, e] t)).cell? ⟨(w.alloc (.cells #[a, b] t)).heap.size, 0, none⟩ = some c := by rw [World.cell?_alloc_at _ _ _ _ (by simp)]; rfl
  have h4 : ((w.alloc (.cells #[a, b] t)).alloc (.cells #[c, e] t)).cell? ⟨(w.alloc (.cells #[a, b] t)).heap.size, 1, none⟩ = some e := by rw [World.cell?_alloc_at _ _ _ _ (by simp)]; rfl
  rw [hz] at h3 h4
  have hU := ((Up.refl (w.alloc (.cells #[a, b] t))).alloc (.cells #[c, e] t)).drew
  exact ⟨hU.cell h1, hU.cell h2, h3, h4, (((Up.refl w).alloc _).alloc _).drew⟩
theorem cell_at4 (w : World) (t : TypeId) (a b c e : Value) : (w.alloc (.cells #[a, b, c, e] t)).cell? ⟨w.heap.size, 0, none⟩ = some a ∧ (w.alloc (.cells #[a, b, c, e] t)).cell? ⟨w.heap.size, 1, none⟩ = some b ∧ (w.alloc (.cells #[a, b, c, e] t)).cell? ⟨w.heap.size, 2, none⟩ = some c ∧ (w.alloc (.cells #[a, b, c, e] t)).cell? ⟨w.heap.size, 3, none⟩ = some e := by
  refine ⟨?_, ?_, ?_, ?_⟩ <;> (rw [World.cell?_alloc_at _ _ _ _ (by simp)]; rfl)
theorem cells4_up {w1 w2 : World} {N : Nat} {a b c e : Value} (h : w1.cell? ⟨N, 0, none⟩ = some a ∧ w1.cell? ⟨N, 1, none⟩ = some b ∧ w1.cell? ⟨N, 2, none⟩ = some c ∧ w1.cell? ⟨N, 3, none⟩ = some e) (hU : Up w1 w2) : w2.cell? ⟨N, 0, none⟩ = some a ∧ w2.cell? ⟨N, 1, none⟩ = some b ∧ w2.cell? ⟨N, 2, none⟩ = some c ∧ w2.cell? ⟨N, 3, none⟩ = some e :=
  ⟨hU.cell h.1, hU.cell h.2.1, hU.cell h.2.2.1, hU.cell h.2.2.2⟩
set_option maxRecDepth 100000 in
set_option maxHeartbeats 4000000 in
theorem walk (t r a b c e : Int) (w : World) (ht : -9223372036854775808 ≤ t ∧ t ≤ 9223372036854775807) (hr : -9223372036854775808 ≤ r ∧ r ≤ 9223372036854775807)
    (ha : -9223372036854775808 ≤ a ∧ a ≤ 9223372036854775807) (hb : -9223372036854775808 ≤ b ∧ b ≤ 9223372036854775807) (hc : -9223372036854775808 ≤ c ∧ c ≤ 9223372036854775807) (he : -9223372036854775808 ≤ e ∧ e ≤ 9223372036854775807) :
    Calls Try.prog 7 #[.int .i64 t, .int .i64 r, .agg #[.int .i64 a, .int .i64 b, .int .i64 c, .int .i64 e]] w (LK.True_ w) := by
  by_cases hf : TM.fits t r
  · have HS := Lib.hid (fun w' => Shrink_any t r w' ht hr)
    rw [show TM.shrinkE t r = 0 from if_pos hf] at HS
    have hq := TM.shrink_range (t := t) (r := r)
    have hq2 := TM.shrink_le hf
    have HX := Lib.hid (fun w' => Honest_any a b r w' ha hb hr)
    have HY := Lib.hid (fun w' => Honest_any c e r w' hc he hr)
    have HF := Lib.hid (fun (h : TM.honest a b r = true) (k : TM.honest c e r = true) (hca : c ≤ a) (hba : b < TM.shrink t r) => TM.safe hf (of_decide_eq_true h) (of_decide_eq_true k) hca hba)
    generalize TM.shrink t r = n at *
    generalize TM.honest a b r = p at *
    generalize TM.honest c e r = q at *
    clear hf
    have HU := Lib.hid ((Up.refl w).alloc (.cells #[.int .i64 a, .int .i64 b, .int .i64 c, .int .i64 e] 34))
    go_enter Try.func7, Try.ntmps7
    go_wp2_with fail
    have hc0 := cell_at4 w 34 (.int .i64 a) (.int .i64 b) (.int .i64 c) (.int .i64 e)
    refine (awake_any _).mono ?_
    rintro x w' ⟨rfl, hU⟩
    have hc := cells4_up hc0 hU
    have HU := Lib.hid (HU.out.trans hU)
    clear hU hc0
    obtain ⟨k0, k1, k2, k3⟩ := hc
    generalize w.heap.size = N at *
    go_wp2_with fail
    refine (HS.out _).mono ?_
    rintro x w'' ⟨rfl, rfl⟩
    have hN : N < w'.heap.size := World.block_lt_of_cell? _ _ k0
    go_upto_region 6 with (fail)
    go_cut [9, 10] (fun s9 s10 wx => ∃ x y : Nat, s9 = .pointer (some ⟨x, 0, none⟩) ∧ s10 = .pointer (some ⟨y, 0, none⟩) ∧ wx.cell? ⟨x, 0, none⟩ = some (.int .i64 a) ∧ wx.cell? ⟨x, 1, none⟩ = some (.int .i64 b) ∧ wx.cell? ⟨y, 0, none⟩ = some (.int .i64 c) ∧ wx.cell? ⟨y, 1, none⟩ = some (.int .i64 e) ∧ Up w wx)
    case first =>
      have H1 := Lib.hid (two_new w' 33 (.int .i64 c) (.int .i64 e) (.int .i64 a) (.int .i64 b))
      have H2 := Lib.hid (two_new w' 33 (.int .i64 a) (.int .i64 b) (.int .i64 c) (.int .i64 e))
      go_region
      all_goals
        go_wp2
        go_meet
        first
          | exact ⟨_, _, rfl, rfl, H2.out.1, H2.out.2.1, H2.out.2.2.1, H2.out.2.2.2.1, HU.out.trans H2.out.2.2.2.2⟩
          | exact ⟨_, _, rfl, rfl, H1.out.2.2.1, H1.out.2.2.2.1, H1.out.1, H1.out.2.1, HU.out.trans H1.out.2.2.2.2⟩
    case rest =>
      obtain ⟨x, y, rfl, rfl, x0, x1, y0, y1, hU⟩ := hcut
      have HU := Lib.hid hU
      clear hU k0 k1 k2 k3 hN
      cases p with
      | false =>
        go_wp2_with fail
        refine (HX.out _).mono ?_
        rintro z w2 ⟨rfl, hU⟩
        have x0 := hU.cell x0
        have x1 := hU.cell x1
        have y0 := hU.cell y0
        have y1 := hU.cell y1
        have HU := Lib.hid (HU.out.trans hU)
        clear hU
        go_wp2_with fail
        go_ret
        exact ⟨rfl, HU.out.below (Nat.le_refl _)⟩
      | true =>
        cases q with
        | false =>
          go_wp2_with fail
          refine (HX.out _).mono ?_
          rintro z w2 ⟨rfl, hU⟩
          have x0 := hU.cell x0
          have x1 := hU.cell x1
          have y0 := hU.cell y0
          have y1 := hU.cell y1
          have HU := Lib.hid (HU.out.trans hU)
          clear hU
          go_wp2_with fail
          refine (HY.out _).mono ?_
          rintro z w3 ⟨rfl, hU⟩
          have x0 := hU.cell x0
          have x1 := hU.cell x1
          have y0 := hU.cell y0
          have y1 := hU.cell y1
          have HU := Lib.hid (HU.out.trans hU)
          clear hU
          go_wp2_with fail
          go_ret
          exact ⟨rfl, HU.out.below (Nat.le_refl _)⟩
        | true =>
          by_cases hca : a < c
          · go_wp2_with fail
            refine (HX.out _).mono ?_
            rintro z w2 ⟨rfl, hU⟩
            have x0 := hU.cell x0
            have x1 := hU.cell x1
            have y0 := hU.cell y0
            have y1 := hU.cell y1
            have HU := Lib.hid (HU.out.trans hU)
            clear hU
            go_wp2_with fail
            refine (HY.out _).mono ?_
            rintro z w3 ⟨rfl, hU⟩
            have x0 := hU.cell x0
            have x1 := hU.cell x1
            have y0 := hU.cell y0
            have y1 := hU.cell y1
            have HU := Lib.hid (HU.out.trans hU)
            clear hU
            go_wp2_with fail
            go_ret
            exact ⟨rfl, HU.out.below (Nat.le_refl _)⟩
          by_cases hba : n ≤ b
          · go_wp2_with fail
            refine (HX.out _).mono ?_
            rintro z w2 ⟨rfl, hU⟩
            have x0 := hU.cell x0
            have x1 := hU.cell x1
            have y0 := hU.cell y0
            have y1 := hU.cell y1
            have HU := Lib.hid (HU.out.trans hU)
            clear hU
            go_wp2_with fail
            refine (HY.out _).mono ?_
            rintro z w3 ⟨rfl, hU⟩
            have x0 := hU.cell x0
            have x1 := hU.cell x1
            have y0 := hU.cell y0
            have y1 := hU.cell y1
            have HU := Lib.hid (HU.out.trans hU)
            clear hU
            go_wp2_with fail
            go_ret
            exact ⟨rfl, HU.out.below (Nat.le_refl _)⟩
          have hlt : e < t := HF.out rfl rfl (by omega) (by omega)
          go_wp2_with fail
          refine (HX.out _).mono ?_
          rintro z w2 ⟨rfl, hU⟩
          have x0 := hU.cell x0
          have x1 := hU.cell x1
          have y0 := hU.cell y0
          have y1 := hU.cell y1
          have HU := Lib.hid (HU.out.trans hU)
          clear hU
          go_wp2_with fail
          refine (HY.out _).mono ?_
          rintro z w3 ⟨rfl, hU⟩
          have x0 := hU.cell x0
          have x1 := hU.cell x1
          have y0 := hU.cell y0
          have y1 := hU.cell y1
          have HU := Lib.hid (HU.out.trans hU)
          clear hU
          go_wp2_with fail
          go_ret
          exact ⟨rfl, HU.out.below (Nat.le_refl _)⟩
  · have HS := Lib.hid (fun w' => Shrink_any t r w' ht hr)
    rw [show TM.shrinkE t r = 2 from if_neg hf, show TM.shrink t r = 0 from if_neg hf] at HS
    have hd : t < 0 ∨ 1048576 < t ∨ r < 0 ∨ 999 < r := fits_not hf
    clear hf
    have HU := Lib.hid ((Up.refl w).alloc (.cells #[.int .i64 a, .int .i64 b, .int .i64 c, .int .i64 e] 34))
    rcases hd with h1 | h1 | h1 | h1
    all_goals
      go_enter Try.func7, Try.ntmps7
      go_wp2_with fail
      refine (awake_any _).mono ?_
      rintro x w' ⟨rfl, hU⟩
      have HU := Lib.hid (HU.out.trans hU)
      clear hU
      go_wp2_with fail
      refine (HS.out _).mono ?_
      rintro x w'' ⟨rfl, rfl⟩
      go_wp2_with fail
      all_goals
        go_ret
        exact ⟨ret_bool (by first | rfl | (simp; done) | (simp; omega)), HU.out.below (Nat.le_refl _)⟩

theorem own : ownKnob Try.prog.godebug = none := by kernel_rfl
theorem laidOut : laidOutB Try.prog = true := by kernel_rfl
set_option maxRecDepth 100000 in
theorem lifted (os : Os) (started : os.Started) (H : Type) (enc : TypeId × Value → H) :
    ReturnsInHanded {} Try.checked os 7 .any (Rows.termSafeSpec.pre6 enc Try.prog Try.f7 [] false) (Rows.termSafeSpec.post enc Try.prog Try.f7 false true false false) := by
  refine LK.lifted_bare (C := Try.checked) (tb := 4) own started (by kernel_rfl) Try.func7 laidOut rfl (by kernel_rfl) (by kernel_rfl) Try.underlying4
    (fun ds h => by
      match ds, h with
      | [_, _, _], _ => rfl)
    (ChangeSpec.witness6 (enc := enc) (C := Try.checked) false ⟨#[], #[.int .i64 0, .int .i64 0, .agg #[.int .i64 0, .int .i64 0, .int .i64 0, .int .i64 0]], []⟩ 8 (by kernel_rfl) (by kernel_rfl) (by kernel_rfl) (by kernel_rfl)) ?_
  intro W base args ds ps hval hA hwt _
  rw [show Try.f7.params.toList = [3, 3, 34] by kernel_rfl] at hA hwt
  have hval' : ∀ (j : Nat) t v, (#[3, 3, 34] : Array TypeId)[j]? = some t → args[j]? = some v → Value.okWide Try.prog W .any base t v := by
    rw [← Try.params7]; exact hval
  clear hval
  obtain ⟨v0, v1, v2, d0, d1, d2, p0, p1, p2, rfl, rfl, rfl, h0, h1, h2⟩ := trodAll_three hA
  obtain ⟨n0, rfl, rfl, rfl, hn0⟩ := open_int Try.underlying3 (hval' 0 3 v0 rfl rfl) h0
  have hr0 : -9223372036854775808 ≤ n0 ∧ n0 ≤ 9223372036854775807 := by simpa [Lit.wf, IntKind.min, IntKind.max, IntKind.signed, IntKind.bits] using hn0
  obtain ⟨n1, rfl, rfl, rfl, hn1⟩ := open_int Try.underlying3 (hval' 1 3 v1 rfl rfl) h1
  have hr1 : -9223372036854775808 ≤ n1 ∧ n1 ≤ 9223372036854775807 := by simpa [Lit.wf, IntKind.min, IntKind.max, IntKind.signed, IntKind.bits] using hn1
  obtain ⟨a2, b2, c2, e2, rfl, ha2, hb2, hc2, he2⟩ := open_spans (hval' 2 34 v2 rfl rfl) h2
  exact walk n0 n1 a2 b2 c2 e2 W hr0 hr1 ha2 hb2 hc2 he2

/-- The statement. -/
theorem proved : Rows.TermSafeSaid :=
  OpenClaim.holds_of_wide 7 Try.f7 rfl rfl rfl rfl rfl rfl rfl ⟨rfl, rfl, rfl, rfl, rfl⟩ rfl rfl rfl rfl rfl (by kernel_rfl) Try.func7 (by kernel_rfl)
    (of_decide_eq_true (by kernel_rfl)) (by unfold Func.isWrapper; first | (rw [if_pos (by decide +kernel)]; kernel_rfl) | (rw [if_neg (by decide +kernel)]; exact ⟨rfl, rfl⟩))
    (fun os started H enc _ => lifted os started H enc)

end Go.Proofs.Ytjhiicnnonmcnaa.lawTermSafe
