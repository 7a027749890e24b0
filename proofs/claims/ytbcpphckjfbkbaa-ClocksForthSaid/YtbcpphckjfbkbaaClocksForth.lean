/- No clock ever goes back or passes its end, and a refused tick moves none; for every number of clocks and every list of ticks. -/
import Derived.Test.YtbcpphckjfbkbaaRows
import Derived.Test.YtbcpphckjfbkbaaClkArg
import Derived.Test.YtbcpphckjfbkbaaClkW6
import Derived.Test.YtbcpphckjfbkbaaLawBare
import Derived.JoinedCond
import Derived.OpenShut
namespace Go.Proofs.Ytbcpphckjfbkbaa.lawClocksForth
open Go Go.RowKit Go.ChangeShapes Go.WideShapes Go.ChangeAt
set_option linter.unusedVariables false
set_option linter.unusedSimpArgs false
theorem mvs_get {w : World} {A : Option Addr} {xs : List Mv} (h : MvsAt w A xs) {k : Nat} (hk : k < xs.length) : ∃ b o B c, A = some ⟨b, o, none⟩ ∧ b < w.heap.size ∧ w.cell? ⟨b, o + k * 2, none⟩ = some (.int .i64 xs[k].d) ∧ w.cell? ⟨b, o + k * 2 + 1, none⟩ = some (.slice B xs[k].bs.length c) ∧ CameM w B c xs[k] := by
  obtain ⟨b, o, e, hb, hx⟩ := h (by omega)
  obtain ⟨B, c, k0, k1, k2⟩ := hx k _ (List.getElem?_eq_getElem hk)
  exact ⟨b, o, B, c, e, hb, k0, k1, k2⟩
/-- How the clocks stand. -/
structure Cl (w wr : World) (g n : Nat) (c : CK.Ck) : Prop where
  clk : ClkAt wr g c
  len : c.ts.length = n
  old : w.heap.size ≤ g
  bel : Below w.heap.size w wr
theorem Cl.below {w wr wx : World} {g n : Nat} {c : CK.Ck} (h : Cl w wr g n c) (hb : Below wr.heap.size wr wx) : Cl w wx g n c := ⟨h.clk.below hb, h.len, h.old, below_on h.bel hb⟩
theorem take_next {l : List Int} {k : Nat} (h : k < l.length) : l.take (k + 1) = l.take k ++ [l[k]] := by
  rw [List.take_add_one, List.getElem?_eq_getElem h]; rfl
set_option maxRecDepth 100000 in
set_option maxHeartbeats 16000000 in
theorem walk (n : Int) (B : Option Addr) (cap : Nat) (xs : List Mv) (w : World) (hn : -9223372036854775808 ≤ n ∧ n ≤ 9223372036854775807) (hM : MvsAt w B xs) (hcap : xs.length ≤ cap) (hcap2 : cap ≤ 140737488351232) :
    Calls Try.prog 5 #[.int .i64 n, .slice B xs.length cap] w (LK.True_ w) := by
  have HM := Lib.hid hM
  clear hM
  go_enter Try.func5, Try.ntmps5
  go_wp2_with fail
  refine (awake_any w).mono ?_
  rintro e w1 ⟨rfl, hb⟩
  have HX1 := Lib.hid hb
  clear hb
  by_cases hbad : n < 1 ∨ 8 < n
  · go_wp2_with fail
    refine (New_no n w1 hbad hn).mono ?_
    rintro e w2 ⟨rfl, rfl⟩
    rcases hbad with h | h
    all_goals
      go_wp2_with fail
      go_ret
      exact ⟨rfl, HX1.out⟩
  obtain ⟨N, rfl⟩ : ∃ N : Nat, n = (N : Int) := ⟨n.toNat, by omega⟩
  have hN : 1 ≤ N ∧ N ≤ 8 := by omega
  clear hbad
  go_wp2_with fail
  refine (New_ok N w1 hN).mono ?_
  rintro e w2 ⟨rfl, hc, hb⟩
  have HZ := Lib.hid (show (CK.zero N).ts.length = N from List.length_replicate)
  have HPL := Lib.hid (show Cl w w2 w1.heap.size N (CK.zero N) from ⟨hc, HZ.out, HX1.out.size, below_on HX1.out hb⟩)
  clear hb hc HX1
  go_wp2_with fail
  generalize w1.heap.size = g at HPL ⊢
  go_loopw [46] (fun i wr => ∃ (k : Nat) (c : CK.Ck), i = .int .i64 (k : Int) ∧ k ≤ xs.length ∧ Hid (Cl w wr g N c)) (fun i _ => xs.length - (intOf i).toNat)
  case atStart => exact ⟨0, CK.zero N, rfl, Nat.zero_le _, HPL⟩
  case round =>
    clear HPL
    obtain ⟨k, c, rfl, hk, HPL⟩ := hrel
    by_cases hlt : k < xs.length
    · obtain ⟨b, o, Bx, cx, eB, hb, x0, x1, hx⟩ := mvs_get HM.out hlt
      have y0 := (HPL.out.bel.cell (p := ⟨b, o + k * 2, none⟩) hb).trans x0
      have y1 := (HPL.out.bel.cell (p := ⟨b, o + k * 2 + 1, none⟩) hb).trans x1
      have HX := Lib.hid hx
      subst eB
      clear x0 x1 hx hb
      generalize xs[k] = x at y0 y1 HX
      have hal := (Below.refl wr.heap.size wr).alloc (Nat.le_refl _) (.cells #[.int .i64 x.d, .slice Bx x.bs.length cx] 37)
      have HPL4 := Lib.hid (HPL.out.below hal)
      have HW4 := Lib.hid (Whole.new wr 37 #[.int .i64 x.d, .slice Bx x.bs.length cx])
      have HZ4 := Lib.hid HPL.out.clk.lt
      clear hal
      go_upto_region 9 with (fail)
      clear y0 y1 HPL
      generalize wr.alloc (.cells #[.int .i64 x.d, .slice Bx x.bs.length cx] 37) = w4 at HPL4 HW4 ⊢
      generalize wr.heap.size = p at HW4 HZ4 ⊢
      go_wp2_with fail
      refine (True_any HPL4.out.clk).mono ?_
      rintro e w5 ⟨rfl, rfl⟩
      go_wp2_with fail
      refine (Drift_any HPL4.out.clk).mono ?_
      rintro e w5 ⟨rfl, rfl⟩
      go_wp2_with fail
      go_loopw [11, 12] (fun v i wr => ∃ j : Nat, i = .int .i64 (j : Int) ∧ j ≤ N ∧ Hid (Grew w4 (c.ts.take j) v wr)) (fun _ i _ => N - (intOf i).toNat)
      case atStart => exact ⟨0, rfl, Nat.zero_le _, Lib.hid (by rw [List.take_zero]; exact Grew.nil w4)⟩
      case round =>
        obtain ⟨j, rfl, hj, HG⟩ := hrel
        by_cases hjn : j < N
        · have hjt : j < c.ts.length := by rw [HPL4.out.len]; exact hjn
          have HNW := Lib.hid (CK.now_at hjt)
          have HTN := Lib.hid (take_next hjt)
          have HLG := Lib.hid (show ((c.ts.take j).length + 1) * 8 ≤ 140737488355328 by rw [List.length_take]; omega)
          generalize c.ts[j] = t at HNW HTN
          go_wp2_with fail
          refine (Now_any (HPL4.out.clk.below HG.out.2) (j : Int) (by omega)).mono ?_
          rintro e w5 ⟨rfl, rfl⟩
          rw [HNW.out]
          go_wp2_with (at_builtin; refine app_one rfl (.tmp 59) (.tmp 63) rfl _ _ HG.out rfl t rfl HLG.out ?_; intro v2 w5 hg2; rw [← HTN.out] at hg2; have HG5 := Lib.hid hg2; clear hg2)
          go_roundw
          case rel => exact ⟨j + 1, rfl, by omega, HG5⟩
          case measure => simp only [intOf]; omega
        · have hG := HG.out
          rw [List.take_of_length_le (show c.ts.length ≤ j by rw [HPL4.out.len]; omega)] at hG
          obtain ⟨A11, c11, e, j1, j2⟩ := own_shape hG.1
          rw [HPL4.out.len] at e j1
          subst e
          have HO5 := Lib.hid (show wr.ownsRow w4.heap.size 3 1 (.slice A11 N c11) N (i64s c.ts) by have := hG.1; rw [HPL4.out.len] at this; exact this)
          have HPL6 := Lib.hid (HPL4.out.below hG.2)
          have HW6 := Lib.hid ((Mod.of_below hG.2 []).whole HW4.out (by simp))
          have HX6 := Lib.hid (HX.out.below HPL6.out.bel)
          have HG11 := Lib.hid (fun ad (e : A11 = some ad) => show ad.block ≠ g from by have h1 := (own_at HO5.out ad e).1; have h2 := HPL4.out.clk.lt; omega)
          have HNP := Lib.hid (show p ≠ g by have := HZ4.out; omega)
          clear hG HG HPL4 HW4 HZ4
          have HT := Lib.hid (fun (W : World) (h : ClkAt W g c) (A' : Option Addr) (n' : Nat) (hA : IntsAt W A' x.bs) (hG : ∀ ad, A' = some ad → ad.block ≠ g) (hl : x.bs.length ≤ n') (hn : n' ≤ 9223372036854775807) => Tick_any h x.d A' n' x.bs hA hG hl hn HX6.out.d HX6.out.bs)
          go_upto_region 15 with (fail)
          go_cut [13] (fun s wx => s = .int .i64 (CK.err c x.d x.bs) ∧ Hid (ClkAt wx g (CK.step c x.d x.bs)) ∧ Hid (Whole wx p 37 #[.int .i64 x.d, .slice Bx x.bs.length cx]) ∧ Hid (wx.ownsRow w4.heap.size 3 1 (.slice A11 N c11) N (i64s c.ts)) ∧ Hid (Below w.heap.size w wx))
          case first =>
            -- BEGIN
            have HS := And.intro (show wr.drew.cell? ⟨p, 0, none⟩ = some (.int .i64 x.d) from HW6.out.cell 0) (show wr.drew.cell? ⟨p, 1, none⟩ = some (.slice Bx x.bs.length cx) from HW6.out.cell 1)
            have HY := Lib.hid (show IntsAt wr.drew Bx x.bs from HX6.out.ints)
            have HLX := Lib.hid (show x.bs.length * 8 ≤ 140737488355328 by have := HX6.out.le; have := HX6.out.cap; omega)
            go_region_held3 (fun v : World => v.cell? ⟨p, 0, none⟩ = some (.int .i64 x.d) ∧ v.cell? ⟨p, 1, none⟩ = some (.slice Bx x.bs.length cx))
              (first
                | exact HS
                | exact And.intro ((Whole.alloc HW6.out _).cell 0) ((Whole.alloc HW6.out _).cell 1)
                | (go_keep; done))
              (first
                | (refine step_app_lit (w := wr.drew) Bx cx _ x.bs rfl HY.out _ rfl rfl (by rfl) (by rfl) HLX.out ?_; intro A7 n7 c7 w7 hm7; obtain ⟨HN7, HI7, HO7, HB7, k7, k7'⟩ := hm7; have HPL7 := Lib.hid (HPL6.out.below (below_of_drew HB7.out)); have HA7 := Lib.hid ((Mod.of_below (below_of_drew HB7.out) []).own HO5.out (by simp)); have HW7 := Lib.hid ((Mod.of_below (below_of_drew HB7.out) []).whole HW6.out (by simp)); have HG7 := Lib.hid (fun ad (e : A7 = some ad) => show ad.block ≠ g from by have h1 := (own_at HO7.out ad e).1; have h2 := HPL6.out.clk.lt; have h3 : wr.drew.heap.size = wr.heap.size := rfl; omega); have e7 := HN7.out; subst e7; clear HS; have HS := And.intro (show w7.cell? ⟨p, 0, none⟩ = some (.int .i64 x.d) from HW7.out.cell 0) (show w7.cell? ⟨p, 1, none⟩ = some (.slice Bx x.bs.length cx) from HW7.out.cell 1))
                | (go_at_call 10; refine (HT.out _ HPL7.out.clk A7 c7 HI7.out HG7.out k7 k7').mono ?_; rintro e w8 ⟨rfl, HC8, HM8⟩; have HW8 := Lib.hid (HM8.out.whole HW7.out (by simpa using HNP.out)); have HA8 := Lib.hid (HM8.out.own HA7.out (fun k hk hkg => by rw [List.mem_singleton] at hkg; subst hkg; cases A11 with | none => cases hk | some ad => exact HG11.out ad rfl (by simpa [Value.ownBlock] using hk))); have HX8 := Lib.hid (HPL7.out.bel.trans (HM8.out.below HPL7.out.bel.size (by simpa using HPL7.out.old))); clear HS; have HS := And.intro (show w8.cell? ⟨p, 0, none⟩ = some (.int .i64 x.d) from HW8.out.cell 0) (show w8.cell? ⟨p, 1, none⟩ = some (.slice Bx x.bs.length cx) from HW8.out.cell 1)))
            all_goals
              go_wp2_with fail
              go_meet
              exact ⟨by first | rfl | simp, HC8, HW8, HA8, HX8⟩
            -- END
          case rest =>
            obtain ⟨rfl, HC8, HW8, HA8, HX8⟩ := hcut
            have HLN := Lib.hid HPL6.out.len
            have HOLD := Lib.hid HPL6.out.old
            have HDX := Lib.hid HX6.out.d
            have HC := Lib.hid HPL6.out.clk.ok
            clear HPL6 HX6 HW6 HT HO5
            have HL5 := Lib.hid (show (CK.step c x.d x.bs).ts.length = N by rw [CK.step_len]; exact HLN.out)
            by_cases her : CK.err c x.d x.bs = 0
            · have hE := CK.err_ok.1 her
              have HLB := Lib.hid (show x.bs.length = N by rw [hE.1]; exact HLN.out)
              have HPOS := Lib.hid (CK.neg_not hE.2.2.1)
              have hst := CK.step_ok her
              have HTS := Lib.hid (show ∀ j (h1 : j < (CK.step c x.d x.bs).ts.length) (h2 : j < c.ts.length) (h3 : j < x.bs.length), (CK.step c x.d x.bs).ts[j] = c.ts[j] + x.bs[j] from fun j h1 h2 h3 => by
                have e := CK.go_at (d := x.d) h2 h3
                rw [← hst, List.getElem?_eq_getElem h1] at e
                exact Option.some.inj e)
              have HTR := Lib.hid (show (CK.step c x.d x.bs).tr = c.tr + x.d by rw [hst]; rfl)
              have HDR := Lib.hid (show c.dr ≤ (CK.step c x.d x.bs).dr by rw [hst]; exact CK.drift_le _ _ _)
              have hd0 := hE.2.1
              rw [her]
              clear her hE hst
              generalize CK.step c x.d x.bs = c5 at *
              have p0 : wc.cell? ⟨p, 0, none⟩ = some (.int .i64 x.d) := HW8.out.cell 0
              have p1 : wc.cell? ⟨p, 1, none⟩ = some (.slice Bx N cx) := by rw [← HLB.out]; exact HW8.out.cell 1
              have ht0 := HC.out.tr
              have ht5 := HC8.out.ok.tr
              rw [HTR.out] at ht5
              obtain ⟨ht51, ht52⟩ := ht5
              have hdr := HDR.out
              have HWT := show IntKind.i64.wrap (c.tr + x.d) = c.tr + x.d by rw [IntKind.wrap_i64]; omega
              go_wp2_with fail
              refine (True_any HC8.out).mono ?_
              rintro e v ⟨rfl, rfl⟩
              rw [HTR.out]
              go_wp2_with fail
              refine (True_any HC8.out).mono ?_
              rintro e v ⟨rfl, rfl⟩
              rw [HTR.out]
              go_wp2_with fail
              refine (Drift_any HC8.out).mono ?_
              rintro e v ⟨rfl, rfl⟩
              go_wp2_with fail
              clear p0 p1 HWT
              go_loopw [15, 16, 121] (fun _ _ i wr => ∃ j : Nat, i = .int .i64 (j : Int) ∧ j ≤ N ∧ Hid (Below wc.heap.size wc wr)) (fun _ _ i _ => N - (intOf i).toNat)
              case atStart => exact ⟨0, rfl, Nat.zero_le _, Lib.hid (Below.refl _ _)⟩
              case round =>
                obtain ⟨j, rfl, hj, HB⟩ := hrel
                by_cases hjn : j < N
                · have HC9 := Lib.hid (HC8.out.below HB.out)
                  have HA9 := Lib.hid ((Mod.of_below HB.out []).own HA8.out (by simp))
                  have hjt : j < c.ts.length := by rw [HLN.out]; exact hjn
                  have hjt5 : j < c5.ts.length := by rw [HL5.out]; exact hjn
                  have HNW := Lib.hid (CK.now_at hjt5)
                  obtain ⟨b11, o11, eA, hb11, hcell⟩ := ints_cell (IntsAt.own HA9.out) hjt
                  subst eA
                  have hjb : j < x.bs.length := by rw [HLB.out]; exact hjn
                  have HW9 := Lib.hid ((Mod.of_below HB.out []).whole HW8.out (by simp))
                  obtain ⟨b12, o12, eB, hb12, hcell2⟩ := ints_cell ((HX.out.ints.below HX8.out).below HB.out) hjb
                  have p1 : wr.cell? ⟨p, 1, none⟩ = some (.slice Bx N cx) := by rw [← HLB.out]; exact HW9.out.cell 1
                  rw [eB] at p1
                  clear eB
                  have h5 := HTS.out j hjt5 hjt hjb
                  have h0 := HPOS.out _ (List.getElem_mem hjb)
                  have hmx := HC8.out.ok.ts _ (List.getElem_mem hjt5)
                  rw [h5] at HNW hmx
                  clear h5
                  generalize c.ts[j] = t at hcell HNW hmx
                  generalize x.bs[j] = a at hcell2 HNW hmx h0
                  obtain ⟨hm0, hm1⟩ := hmx
                  have HWR := show IntKind.i64.wrap (t + a) = t + a by rw [IntKind.wrap_i64]; omega
                  have hda : decide (a < 0) = false := decide_eq_false (by omega)
                  have hdb : decide (1152921504606846976 < t + a) = false := decide_eq_false (by omega)
                  go_wp2_with fail
                  have HS := show wr.drew.cell? ⟨b11, o11 + j, none⟩ = some (.int .i64 t) from hcell
                  go_region_held3 (fun v : World => v.cell? ⟨b11, o11 + j, none⟩ = some (.int .i64 t))
                    (first
                      | exact HS
                      | (go_keep; done))
                    (first
                      | (go_at_call 11; refine (Now_any HC9.out.drew (j : Int) (by omega)).mono ?_; rintro e v ⟨rfl, rfl⟩; rw [HNW.out]))
                  all_goals
                    go_wp2_with fail
                    go_roundw
                    case rel => exact ⟨j + 1, rfl, by omega, Lib.hid (Below.drew HB.out)⟩
                    case measure => simp only [intOf]; omega
                · go_wp2_with fail
                  go_roundw
                  case rel => exact ⟨k + 1, c5, rfl, by omega, Lib.hid ⟨HC8.out.below HB.out, HL5.out, HOLD.out, below_on HX8.out HB.out⟩⟩
                  case measure => simp only [intOf]; omega
            · have hst := CK.step_no her
              have HTS := Lib.hid (show ∀ j (h1 : j < (CK.step c x.d x.bs).ts.length) (h2 : j < c.ts.length), (CK.step c x.d x.bs).ts[j] = c.ts[j] from fun j h1 h2 => by simp only [hst])
              have HTR := Lib.hid (show (CK.step c x.d x.bs).tr = c.tr by rw [hst])
              have HDR := Lib.hid (show (CK.step c x.d x.bs).dr = c.dr by rw [hst])
              clear hst
              generalize CK.err c x.d x.bs = er at her ⊢
              generalize CK.step c x.d x.bs = c5 at *
              have her2 : (er == 0) = false := beq_eq_false_iff_ne.2 her
              obtain ⟨ht1, ht2⟩ := HC.out.tr
              have HWT := show IntKind.i64.wrap (c.tr + 0) = c.tr by rw [IntKind.wrap_i64]; omega
              go_wp2_with fail
              refine (True_any HC8.out).mono ?_
              rintro e v ⟨rfl, rfl⟩
              rw [HTR.out]
              go_wp2_with fail
              refine (True_any HC8.out).mono ?_
              rintro e v ⟨rfl, rfl⟩
              rw [HTR.out]
              go_wp2_with fail
              refine (Drift_any HC8.out).mono ?_
              rintro e v ⟨rfl, rfl⟩
              rw [HDR.out]
              go_wp2_with fail
              refine (Drift_any HC8.out).mono ?_
              rintro e v ⟨rfl, rfl⟩
              rw [HDR.out]
              go_wp2_with fail
              clear HWT
              go_loopw [15, 16, 121] (fun _ _ i wr => ∃ j : Nat, i = .int .i64 (j : Int) ∧ j ≤ N ∧ Hid (Below wc.heap.size wc wr)) (fun _ _ i _ => N - (intOf i).toNat)
              case atStart => exact ⟨0, rfl, Nat.zero_le _, Lib.hid (Below.refl _ _)⟩
              case round =>
                obtain ⟨j, rfl, hj, HB⟩ := hrel
                by_cases hjn : j < N
                · have HC9 := Lib.hid (HC8.out.below HB.out)
                  have HA9 := Lib.hid ((Mod.of_below HB.out []).own HA8.out (by simp))
                  have hjt : j < c.ts.length := by rw [HLN.out]; exact hjn
                  have hjt5 : j < c5.ts.length := by rw [HL5.out]; exact hjn
                  have HNW := Lib.hid (CK.now_at hjt5)
                  obtain ⟨b11, o11, eA, hb11, hcell⟩ := ints_cell (IntsAt.own HA9.out) hjt
                  subst eA
                  have hmx := HC8.out.ok.ts _ (List.getElem_mem hjt5)
                  have h5 := HTS.out j hjt5 hjt
                  rw [h5] at HNW hmx
                  clear h5
                  generalize c.ts[j] = t at hcell HNW hmx
                  obtain ⟨hm0, hm1⟩ := hmx
                  have HWR := show IntKind.i64.wrap t = t by rw [IntKind.wrap_i64]; omega
                  have hdb : decide (1152921504606846976 < t) = false := decide_eq_false (by omega)
                  go_wp2_with fail
                  have HS := show wr.drew.cell? ⟨b11, o11 + j, none⟩ = some (.int .i64 t) from hcell
                  go_region_held3 (fun v : World => v.cell? ⟨b11, o11 + j, none⟩ = some (.int .i64 t))
                    (first
                      | exact HS
                      | (go_keep; done))
                    (first
                      | (go_at_call 11; refine (Now_any HC9.out.drew (j : Int) (by omega)).mono ?_; rintro e v ⟨rfl, rfl⟩; rw [HNW.out]))
                  all_goals
                    go_wp2_with fail
                    go_roundw
                    case rel => exact ⟨j + 1, rfl, by omega, Lib.hid (Below.drew HB.out)⟩
                    case measure => simp only [intOf]; omega
                · go_wp2_with fail
                  go_roundw
                  case rel => exact ⟨k + 1, c5, rfl, by omega, Lib.hid ⟨HC8.out.below HB.out, HL5.out, HOLD.out, below_on HX8.out HB.out⟩⟩
                  case measure => simp only [intOf]; omega
    · go_wp2_with fail
      go_ret
      exact ⟨rfl, HPL.out.bel⟩

theorem own : ownKnob Try.prog.godebug = none := by kernel_rfl
theorem laidOut : laidOutB Try.prog = true := by kernel_rfl
set_option maxRecDepth 100000 in
theorem lifted (os : Os) (started : os.Started) (H : Type) (enc : TypeId × Value → H) :
    ReturnsInHanded {} Try.checked os 5 .any (Rows.clocksForthSpec.pre6 enc Try.prog Try.f5 [] false) (Rows.clocksForthSpec.post enc Try.prog Try.f5 false true false false) := by
  refine LK.lifted_bare (C := Try.checked) (tb := 4) own started (by kernel_rfl) Try.func5 laidOut rfl (by kernel_rfl) (by kernel_rfl) Try.underlying4
    (fun ds h => by
      match ds, h with
      | [_, _], _ => rfl)
    (ChangeSpec.witness6 (enc := enc) (C := Try.checked) false ⟨#[], #[.int .i64 0, .slice none 0 0], []⟩ 8 (by kernel_rfl) (by kernel_rfl) (by kernel_rfl) (by kernel_rfl)) ?_
  intro W base args ds ps hval hA hwt _
  rw [show Try.f5.params.toList = [3, 31] by kernel_rfl] at hA hwt
  have hval' : ∀ (j : Nat) t v, (#[3, 31] : Array TypeId)[j]? = some t → args[j]? = some v → Value.okWide Try.prog W .any base t v := by
    rw [← Try.params5]; exact hval
  clear hval
  obtain ⟨v0, v1, d0, d1, pl0, pl1, rfl, rfl, rfl, h0, h1⟩ := trodAll_two hA
  obtain ⟨n0, rfl, rfl, rfl, hn0⟩ := open_int Try.underlying3 (hval' 0 3 v0 rfl rfl) h0
  have hr0 : -9223372036854775808 ≤ n0 ∧ n0 ≤ 9223372036854775807 := by simpa [Lit.wf, IntKind.min, IntKind.max, IntKind.signed, IntKind.bits] using hn0
  obtain ⟨A1, c1, xs1, rfl, hO1, hc1, hm1⟩ := open_moves (hval' 1 31 v1 rfl rfl) h1 hwt (j := 1) rfl rfl
  exact walk n0 A1 c1 xs1 W hr0 hO1 hc1 hm1

/-- The statement. -/
theorem proved : Rows.ClocksForthSaid :=
  OpenClaim.holds_of_wide 5 Try.f5 rfl rfl rfl rfl rfl rfl rfl ⟨rfl, rfl, rfl, rfl, rfl⟩ rfl rfl rfl rfl rfl (by kernel_rfl) Try.func5 (by kernel_rfl)
    (of_decide_eq_true (by kernel_rfl)) (by unfold Func.isWrapper; first | (rw [if_pos (by decide +kernel)]; kernel_rfl) | (rw [if_neg (by decide +kernel)]; exact ⟨rfl, rfl⟩))
    (fun os started H enc _ => lifted os started H enc)

end Go.Proofs.Ytbcpphckjfbkbaa.lawClocksForth
