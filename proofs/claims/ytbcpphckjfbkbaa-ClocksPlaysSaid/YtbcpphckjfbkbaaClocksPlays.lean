/- Every tick answers what the document says, and so does all that is told behind it; for every number of clocks, every list of ticks and every clock that is asked. -/
import Derived.Test.YtbcpphckjfbkbaaRows
import Derived.Test.YtbcpphckjfbkbaaClkArg
import Derived.Test.YtbcpphckjfbkbaaClkW6
import Derived.Test.YtbcpphckjfbkbaaLawBare
import Derived.JoinedCond
import Derived.OpenShut
namespace Go.Proofs.Ytbcpphckjfbkbaa.lawClocksPlays
open Go Go.RowKit Go.ChangeShapes Go.WideShapes Go.ChangeAt
set_option linter.unusedVariables false
set_option linter.unusedSimpArgs false
theorem mvs_get {w : World} {A : Option Addr} {xs : List Mv} (h : MvsAt w A xs) {k : Nat} (hk : k < xs.length) : ∃ b o B c, A = some ⟨b, o, none⟩ ∧ b < w.heap.size ∧ w.cell? ⟨b, o + k * 2, none⟩ = some (.int .i64 xs[k].d) ∧ w.cell? ⟨b, o + k * 2 + 1, none⟩ = some (.slice B xs[k].bs.length c) ∧ CameM w B c xs[k] := by
  obtain ⟨b, o, e, hb, hx⟩ := h (by omega)
  obtain ⟨B, c, k0, k1, k2⟩ := hx k _ (List.getElem?_eq_getElem hk)
  exact ⟨b, o, B, c, e, hb, k0, k1, k2⟩
/-- How the clocks and the document's clocks stand. -/
structure Pl (w wr : World) (g q n : Nat) (c : CK.Ck) (A : Option Addr) (m : Nat) : Prop where
  clk : ClkAt wr g c
  ref : RefAt wr A m c
  box : Whole wr q 33 #[.int .i64 c.tr, .slice A n m, .int .i64 c.dr]
  len : c.ts.length = n
  far : ∀ ad, A = some ad → ad.block ≠ g ∧ ad.block ≠ q
  ne : g ≠ q
  old : w.heap.size ≤ g ∧ w.heap.size ≤ q
  bel : Below w.heap.size w wr
theorem Pl.below {w wr wx : World} {g q n : Nat} {c : CK.Ck} {A : Option Addr} {m : Nat} (h : Pl w wr g q n c A m) (hb : Below wr.heap.size wr wx) : Pl w wx g q n c A m :=
  ⟨h.clk.below hb, h.ref.below hb, (Mod.of_below hb []).whole h.box (by simp), h.len, h.far, h.ne, h.old, below_on h.bel hb⟩
theorem At_n {w : World} {A : Option Addr} {n N : Nat} {c : CK.Ck} (h : RefAt w A n c) (hN : c.ts.length = N) (k : Int) (hk : -9223372036854775808 ≤ k ∧ k ≤ 9223372036854775807) :
    Calls Try.prog 17 #[.agg #[.int .i64 c.tr, .slice A N n, .int .i64 c.dr], .int .i64 k] w fun e w' => e = .returned (.int .i64 (CK.now c k)) ∧ Below w.heap.size w w' := by
  subst hN
  exact RefAt_any h k hk
set_option maxRecDepth 100000 in
set_option maxHeartbeats 8000000 in
theorem walk (n : Int) (B : Option Addr) (cap : Nat) (xs : List Mv) (ask : Int) (w : World) (hn : -9223372036854775808 ≤ n ∧ n ≤ 9223372036854775807) (hM : MvsAt w B xs) (hcap : xs.length ≤ cap) (hcap2 : cap ≤ 140737488351232) (hask : -9223372036854775808 ≤ ask ∧ ask ≤ 9223372036854775807) :
    Calls Try.prog 4 #[.int .i64 n, .slice B xs.length cap, .int .i64 ask] w (LK.True_ w) := by
  have HM := Lib.hid hM
  clear hM
  go_enter Try.func4, Try.ntmps4
  go_wp2_with fail
  refine (awake_any w).mono ?_
  rintro e w1 ⟨rfl, hb⟩
  have HX1 := Lib.hid hb
  clear hb
  by_cases hbad : n < 1 ∨ 8 < n
  · go_wp2_with fail
    refine (New_no n w1 hbad hn).mono ?_
    rintro e w2 ⟨rfl, rfl⟩
    go_wp2_with fail
    refine (RefNew_no n w1 hbad hn).mono ?_
    rintro e w2 ⟨rfl, hb⟩
    have HX2 := Lib.hid (below_on HX1.out hb)
    clear hb
    go_wp2_with fail
    go_ret
    exact ⟨rfl, HX2.out.alloc HX2.out.size _⟩
  obtain ⟨N, rfl⟩ : ∃ N : Nat, n = (N : Int) := ⟨n.toNat, by omega⟩
  have hN : 1 ≤ N ∧ N ≤ 8 := by omega
  clear hbad
  go_wp2_with fail
  refine (New_ok N w1 hN).mono ?_
  rintro e w2 ⟨rfl, hc, hb⟩
  have HC2 := Lib.hid hc
  have HX2 := Lib.hid (below_on HX1.out hb)
  have HG := Lib.hid (show w.heap.size ≤ w1.heap.size from HX1.out.size)
  clear hb hc HX1
  go_wp2_with fail
  refine (RefNew_ok N w2 hN).mono ?_
  rintro e w3 ⟨A, m, rfl, hR, hb, hA⟩
  have HC3 := Lib.hid (HC2.out.below hb.out)
  have HX3 := Lib.hid (below_on HX2.out hb.out)
  have HA := Lib.hid (fun ad (e : A = some ad) (h0 : 0 < (CK.zero N).ts.length) => And.intro (hA.out ad e) (show ad.block < w3.heap.size by obtain ⟨b, o, e2, hb, _⟩ := hR.out.ints h0; rw [e2] at e; injection e with e; subst e; exact hb))
  have HZ := Lib.hid (show (CK.zero N).ts.length = N from zeros_len N)
  have HS3 := Lib.hid (show w2.heap.size ≤ w3.heap.size from hb.out.size)
  clear hb hA
  have HPL := Lib.hid (show Pl w (w3.alloc (.cells #[.int .i64 0, .slice A N m, .int .i64 0] 33)) w1.heap.size w3.heap.size N (CK.zero N) A m from by
    have hal := (Below.refl _ w3).alloc (Nat.le_refl _) (.cells #[.int .i64 0, .slice A N m, .int .i64 0] 33)
    have h2 := HC2.out.lt
    have h3 := HC3.out.lt
    refine ⟨HC3.out.below hal, hR.out.below hal, Whole.new w3 _ _, HZ.out, fun ad e => ?_, by omega, ⟨HG.out, HX3.out.size⟩, below_on HX3.out hal⟩
    have := HA.out ad e (by rw [HZ.out]; omega)
    omega)
  clear HC2 HX2 HC3 HX3 HA HS3 HG hR
  go_wp2_with fail
  generalize w1.heap.size = g at HPL ⊢
  generalize w3.heap.size = q at HPL ⊢
  go_loopw [42] (fun i wr => ∃ (k : Nat) (c : CK.Ck) (A : Option Addr) (m : Nat), i = .int .i64 (k : Int) ∧ k ≤ xs.length ∧ Hid (Pl w wr g q N c A m)) (fun i _ => xs.length - (intOf i).toNat)
  case atStart => exact ⟨0, CK.zero N, A, m, rfl, Nat.zero_le _, HPL⟩
  case round =>
    clear HPL
    obtain ⟨k, c, A, m, rfl, hk, HPL⟩ := hrel
    by_cases hlt : k < xs.length
    · obtain ⟨b, o, Bx, cx, eB, hb, x0, x1, hx⟩ := mvs_get HM.out hlt
      have y0 := (HPL.out.bel.cell (p := ⟨b, o + k * 2, none⟩) hb).trans x0
      have y1 := (HPL.out.bel.cell (p := ⟨b, o + k * 2 + 1, none⟩) hb).trans x1
      have HX := Lib.hid hx
      subst eB
      clear x0 x1 hx hb
      generalize xs[k] = x at y0 y1 HX
      have hal := (Below.refl wr.heap.size wr).alloc (Nat.le_refl _) (.cells #[.int .i64 x.d, .slice Bx x.bs.length cx] 37)
      have HPL4 := Lib.hid (HPL.out.below hal)
      have HX4 := Lib.hid ((HX.out.below HPL.out.bel).below hal)
      have HW4 := Lib.hid (Whole.new wr 37 #[.int .i64 x.d, .slice Bx x.bs.length cx])
      have HZ4 := Lib.hid (And.intro HPL.out.clk.lt HPL.out.box.lt)
      have HAP := Lib.hid (fun ad (e : A = some ad) => show ad.block ≠ wr.heap.size from by
        obtain ⟨b, o, e2, hb, _⟩ := HPL.out.ref.ints (by have := HPL.out.ref.ok.one; omega)
        rw [e2] at e
        injection e with e
        subst e
        exact Nat.ne_of_lt hb)
      clear hal HX
      go_upto_region 12 with (fail)
      clear y0 y1 HPL
      generalize wr.alloc (.cells #[.int .i64 x.d, .slice Bx x.bs.length cx] 37) = w4 at HPL4 HX4 HW4 ⊢
      generalize wr.heap.size = p at HW4 HZ4 HAP ⊢
      have q0 : w4.cell? ⟨q, 0, none⟩ = some (.int .i64 c.tr) := HPL4.out.box.cell 0
      have q1 : w4.cell? ⟨q, 1, none⟩ = some (.slice A N m) := HPL4.out.box.cell 1
      have q2 : w4.cell? ⟨q, 2, none⟩ = some (.int .i64 c.dr) := HPL4.out.box.cell 2
      have p0 : w4.cell? ⟨p, 0, none⟩ = some (.int .i64 x.d) := HW4.out.cell 0
      have p1 : w4.cell? ⟨p, 1, none⟩ = some (.slice Bx x.bs.length cx) := HW4.out.cell 1
      have HRT := Lib.hid (RefTick_any HPL4.out.ref x.d Bx cx x.bs HX4.out.ints HX4.out.le (by have := HX4.out.cap; omega) HX4.out.d HX4.out.bs)
      rw [HPL4.out.len] at HRT
      go_wp2_with fail
      refine HRT.out.mono ?_
      rintro e w5 ⟨A5, m5, rfl, HR5, HB5, HA5⟩
      clear HRT
      have HPL5 := Lib.hid (HPL4.out.below HB5.out)
      have HX5 := Lib.hid (HX4.out.below HB5.out)
      have HW5 := Lib.hid ((Mod.of_below HB5.out []).whole HW4.out (by simp))
      have HF5 := Lib.hid (fun ad (e : A5 = some ad) => show ad.block ≠ g ∧ ad.block ≠ q ∧ ad.block ≠ p from by
        rcases HA5.out ad e with h | h
        · have h1 := HPL4.out.clk.lt
          have h2 := HPL4.out.box.lt
          have h3 := HW4.out.lt
          omega
        · exact ⟨(HPL4.out.far ad h).1, (HPL4.out.far ad h).2, HAP.out ad h⟩)
      clear q0 q1 q2 p0 p1 HPL4 HX4 HW4 HA5 HB5 HAP
      have HT := Lib.hid (fun (W : World) (h : ClkAt W g c) (A' : Option Addr) (n' : Nat) (hA : IntsAt W A' x.bs) (hG : ∀ ad, A' = some ad → ad.block ≠ g) (hl : x.bs.length ≤ n') (hn : n' ≤ 9223372036854775807) => Tick_any h x.d A' n' x.bs hA hG hl hn HX5.out.d HX5.out.bs)
      have HL5 := Lib.hid (show (CK.step c x.d x.bs).ts.length = N by rw [CK.step_len]; exact HPL5.out.len)
      unfold rv
      generalize CK.err c x.d x.bs = er at *
      generalize CK.step c x.d x.bs = c5 at *
      rw [HL5.out]
      have hal := (Below.refl w5.heap.size w5).alloc (Nat.le_refl _) (.cells #[.int .i64 c5.tr, .slice A5 N m5, .int .i64 c5.dr] 33)
      have HPL6 := Lib.hid (HPL5.out.below hal)
      have HX6 := Lib.hid (HX5.out.below hal)
      have HR6 := Lib.hid (HR5.out.below hal)
      have HW6 := Lib.hid ((Mod.of_below hal []).whole HW5.out (by simp))
      have HV6 := Lib.hid (Whole.new w5 33 #[.int .i64 c5.tr, .slice A5 N m5, .int .i64 c5.dr])
      have HN6 := Lib.hid (show w5.heap.size ≠ g ∧ w5.heap.size ≠ q ∧ w5.heap.size ≠ p by
        have h1 := HPL5.out.clk.lt
        have h2 := HPL5.out.box.lt
        have h3 := HW5.out.lt
        omega)
      have HNP := Lib.hid (show p ≠ g ∧ p ≠ q from by have := HZ4.out; omega)
      have HNQ := Lib.hid (And.intro HPL5.out.ne HPL5.out.old)
      clear hal HPL5 HX5 HR5 HW5 HZ4
      go_upto_region 13 with (fail)
      generalize w5.alloc (.cells #[.int .i64 c5.tr, .slice A5 N m5, .int .i64 c5.dr] 33) = w6 at HPL6 HX6 HR6 HW6 HV6 ⊢
      generalize w5.heap.size = p2 at HV6 HN6 ⊢
      go_cut [64] (fun s wx => s = .bool false ∧ Hid (ClkAt wx g c5) ∧ Hid (RefAt wx A5 m5 c5) ∧ Hid (Whole wx p2 33 #[.int .i64 c5.tr, .slice A5 N m5, .int .i64 c5.dr]) ∧ Hid (∃ cs : Int × Option Addr × Nat × Int, Whole wx q 33 #[.int .i64 cs.1, .slice cs.2.1 N cs.2.2.1, .int .i64 cs.2.2.2]) ∧ Hid (Below w.heap.size w wx))
      case first =>
        -- BEGIN
        have HS := And.intro (show w6.drew.cell? ⟨p, 0, none⟩ = some (.int .i64 x.d) from HW6.out.cell 0) (show w6.drew.cell? ⟨p, 1, none⟩ = some (.slice Bx x.bs.length cx) from HW6.out.cell 1)
        have HY := Lib.hid (show IntsAt w6.drew Bx x.bs from HX6.out.ints)
        have HLX := Lib.hid (show x.bs.length * 8 ≤ 140737488355328 by have := HX6.out.le; have := HX6.out.cap; omega)
        go_region_held3 (fun v : World => v.cell? ⟨p, 0, none⟩ = some (.int .i64 x.d) ∧ v.cell? ⟨p, 1, none⟩ = some (.slice Bx x.bs.length cx))
          (first
            | exact HS
            | exact And.intro ((Whole.alloc HW6.out _).cell 0) ((Whole.alloc HW6.out _).cell 1)
            | (go_keep; done))
          (first
            | (refine step_app_lit (w := w6.drew) Bx cx _ x.bs rfl HY.out _ rfl rfl (by rfl) (by rfl) HLX.out ?_; intro A7 n7 c7 w7 hm7; obtain ⟨HN7, HI7, HO7, HB7, k7, k7'⟩ := hm7; have HPL7 := Lib.hid (HPL6.out.below (below_of_drew HB7.out)); have HR7 := Lib.hid (HR6.out.below (below_of_drew HB7.out)); have HW7 := Lib.hid ((Mod.of_below (below_of_drew HB7.out) []).whole HW6.out (by simp)); have HV7 := Lib.hid ((Mod.of_below (below_of_drew HB7.out) []).whole HV6.out (by simp)); have HG7 := Lib.hid (fun ad (e : A7 = some ad) => show ad.block ≠ g from by have h1 := (own_at HO7.out ad e).1; have h2 := HPL6.out.clk.lt; have h3 : w6.drew.heap.size = w6.heap.size := rfl; omega); have e7 := HN7.out; subst e7; clear HS; have HS := And.intro (show w7.cell? ⟨p, 0, none⟩ = some (.int .i64 x.d) from HW7.out.cell 0) (show w7.cell? ⟨p, 1, none⟩ = some (.slice Bx x.bs.length cx) from HW7.out.cell 1))
            | (go_at_call 10; refine (HT.out _ HPL7.out.clk A7 c7 HI7.out HG7.out k7 k7').mono ?_; rintro e w8 ⟨rfl, HC8, HM8⟩; have HW8 := Lib.hid (HM8.out.whole HW7.out (by simpa using HNP.out.1)); have HV8 := Lib.hid (HM8.out.whole HV7.out (by simpa using HN6.out.1)); have HQ8 := Lib.hid (HM8.out.whole HPL7.out.box (by simpa using HPL7.out.ne.symm)); have HR8 := Lib.hid (HR7.out.mod HM8.out (fun ad e => by simpa using (HF5.out ad e).1)); have HX8 := Lib.hid (HPL7.out.bel.trans (HM8.out.below HPL7.out.bel.size (by simpa using HPL7.out.old.1))); clear HS; have HS := And.intro (show w8.cell? ⟨p, 0, none⟩ = some (.int .i64 x.d) from HW8.out.cell 0) (show w8.cell? ⟨p, 1, none⟩ = some (.slice Bx x.bs.length cx) from HW8.out.cell 1)))
        all_goals
          go_wp2_with fail
          go_meet
          exact ⟨by first | rfl | simp, HC8, HR8, HV8, Lib.hid ⟨(_, _, _, _), HQ8.out⟩, HX8⟩
        -- END
      case rest =>
        obtain ⟨rfl, HC8, HR8, HV8, HQ8, HX8⟩ := hcut
        obtain ⟨cs, hq8⟩ := HQ8.out
        have HQ9 := Lib.hid hq8
        clear HQ8 hq8 HPL6 HX6 HR6 HW6 HV6 HT
        have p0 : wc.cell? ⟨p2, 0, none⟩ = some (.int .i64 c5.tr) := HV8.out.cell 0
        have p1 : wc.cell? ⟨p2, 1, none⟩ = some (.slice A5 N m5) := HV8.out.cell 1
        have p3 : wc.cell? ⟨p2, 2, none⟩ = some (.int .i64 c5.dr) := HV8.out.cell 2
        have f0 := HQ9.out.frozen 0
        have f1 := HQ9.out.frozen 1
        have f2 := HQ9.out.frozen 2
        have q0 : wc.cell? ⟨q, 0, none⟩ = some (.int .i64 cs.1) := HQ9.out.cell 0
        have q1 : wc.cell? ⟨q, 1, none⟩ = some (.slice cs.2.1 N cs.2.2.1) := HQ9.out.cell 1
        have q2 : wc.cell? ⟨q, 2, none⟩ = some (.int .i64 cs.2.2.2) := HQ9.out.cell 2
        have HM9 := Lib.hid (mod3 wc q 0 1 2 (.int .i64 c5.tr) (.slice A5 N m5) (.int .i64 c5.dr))
        have HP9 := Lib.hid (show Pl w (((wc.setCell ⟨q, 0, none⟩ (.int .i64 c5.tr)).setCell ⟨q, 1, none⟩ (.slice A5 N m5)).setCell ⟨q, 2, none⟩ (.int .i64 c5.dr)) g q N c5 A5 m5 from
          ⟨HC8.out.mod HM9.out (by simpa using HNQ.out.1), HR8.out.mod HM9.out (fun ad e => by simpa using (HF5.out ad e).2.1), ((HQ9.out.store 0 (.int .i64 c5.tr)).store 1 (.slice A5 N m5)).store 2 (.int .i64 c5.dr), HL5.out, fun ad e => ⟨(HF5.out ad e).1, (HF5.out ad e).2.1⟩, HNQ.out.1, HNQ.out.2, HX8.out.trans (HM9.out.below HX8.out.size (by simpa using HNQ.out.2.2))⟩)
        go_upto_region 16 with (fail)
        clear p0 p1 p3 f0 f1 f2 q0 q1 q2 HC8 HR8 HV8 HQ9 HX8 HM9
        generalize World.setCell _ ⟨q, 2, none⟩ (.int .i64 c5.dr) = wb at HP9 ⊢
        have HS := And.intro (show wb.drew.cell? ⟨q, 0, none⟩ = some (.int .i64 c5.tr) from HP9.out.box.cell 0) (And.intro (show wb.drew.cell? ⟨q, 1, none⟩ = some (.slice A5 N m5) from HP9.out.box.cell 1) (show wb.drew.cell? ⟨q, 2, none⟩ = some (.int .i64 c5.dr) from HP9.out.box.cell 2))
        have HPD := Lib.hid (show Pl w wb.drew g q N c5 A5 m5 from HP9.out.below (Below.drew (Below.refl _ _)))
        have HLN := Lib.hid (show ((c5.ts.length : Nat) : Int) = (N : Int) by rw [HL5.out])
        go_region_held3 (fun v : World => v.cell? ⟨q, 0, none⟩ = some (.int .i64 c5.tr) ∧ v.cell? ⟨q, 1, none⟩ = some (.slice A5 N m5) ∧ v.cell? ⟨q, 2, none⟩ = some (.int .i64 c5.dr))
          (first
            | exact HS
            | (go_keep; done))
          (first
            | (go_at_call 15; refine (True_any HPD.out.clk).mono ?_; rintro e v ⟨rfl, rfl⟩)
            | (go_at_call 12; refine (Drift_any HPD.out.clk).mono ?_; rintro e v ⟨rfl, rfl⟩)
            | (go_at_call 16; refine (Len_any HPD.out.clk).mono ?_; rintro e v ⟨rfl, rfl⟩; rw [HLN.out])
            | (go_at_call 11; refine (Now_any HPD.out.clk ask hask).mono ?_; rintro e v ⟨rfl, rfl⟩)
            | (go_at_call 17; refine (At_n HPD.out.ref HL5.out ask hask).mono ?_; rintro e v ⟨rfl, hb⟩; replace HPD := Lib.hid (HPD.out.below hb); clear HS; have HS := And.intro (show v.cell? ⟨q, 0, none⟩ = some (.int .i64 c5.tr) from HPD.out.box.cell 0) (And.intro (show v.cell? ⟨q, 1, none⟩ = some (.slice A5 N m5) from HPD.out.box.cell 1) (show v.cell? ⟨q, 2, none⟩ = some (.int .i64 c5.dr) from HPD.out.box.cell 2))))
        all_goals
          have HPV := HPD
          clear HS HPD HP9
          go_wp2_with fail
          go_loopw [15] (fun i wr => ∃ j : Nat, i = .int .i64 (j : Int) ∧ j ≤ N ∧ Hid (Pl w wr g q N c5 A5 m5)) (fun i _ => N - (intOf i).toNat)
          case atStart => exact ⟨0, rfl, Nat.zero_le _, HPV⟩
          case round =>
            clear HPV
            obtain ⟨j, rfl, hj, HPV⟩ := hrel
            by_cases hjn : j < N
            · have hjt : j < c5.ts.length := by rw [HL5.out]; exact hjn
              obtain ⟨b5, o5, e5, hb5, hcell⟩ := ints_cell HPV.out.ref.ints hjt
              have HNW := Lib.hid (CK.now_at hjt)
              have q1 : wr.cell? ⟨q, 1, none⟩ = some (.slice A5 N m5) := HPV.out.box.cell 1
              rw [e5] at q1
              clear e5
              generalize c5.ts[j] = t at hcell HNW
              have HS := And.intro (show wr.drew.cell? ⟨q, 1, none⟩ = some (.slice (some ⟨b5, o5, none⟩) N m5) from q1) (show wr.drew.cell? ⟨b5, o5 + j, none⟩ = some (.int .i64 t) from hcell)
              have HCD := Lib.hid HPV.out.clk.drew
              clear q1 hcell
              go_wp2_with fail
              go_region_held3 (fun v : World => v.cell? ⟨q, 1, none⟩ = some (.slice (some ⟨b5, o5, none⟩) N m5) ∧ v.cell? ⟨b5, o5 + j, none⟩ = some (.int .i64 t))
                (first
                  | exact HS
                  | (go_keep; done))
                (first
                  | (go_at_call 11; refine (Now_any HCD.out (j : Int) (by omega)).mono ?_; rintro e v ⟨rfl, rfl⟩; rw [HNW.out]))
              all_goals
                go_wp2_with fail
                go_roundw
                case rel => exact ⟨j + 1, rfl, by omega, Lib.hid (HPV.out.below (Below.drew (Below.refl _ _)))⟩
                case measure => simp only [intOf]; omega
            · go_wp2_with fail
              go_roundw
              case rel => exact ⟨k + 1, c5, A5, m5, rfl, by omega, HPV⟩
              case measure => simp only [intOf]; omega
    · go_wp2_with fail
      go_ret
      exact ⟨rfl, HPL.out.bel⟩

theorem own : ownKnob Try.prog.godebug = none := by kernel_rfl
theorem laidOut : laidOutB Try.prog = true := by kernel_rfl
set_option maxRecDepth 100000 in
theorem lifted (os : Os) (started : os.Started) (H : Type) (enc : TypeId × Value → H) :
    ReturnsInHanded {} Try.checked os 4 .any (Rows.clocksPlaysSpec.pre6 enc Try.prog Try.f4 [] false) (Rows.clocksPlaysSpec.post enc Try.prog Try.f4 false true false false) := by
  refine LK.lifted_bare (C := Try.checked) (tb := 4) own started (by kernel_rfl) Try.func4 laidOut rfl (by kernel_rfl) (by kernel_rfl) Try.underlying4
    (fun ds h => by
      match ds, h with
      | [_, _, _], _ => rfl)
    (ChangeSpec.witness6 (enc := enc) (C := Try.checked) false ⟨#[], #[.int .i64 0, .slice none 0 0, .int .i64 0], []⟩ 8 (by kernel_rfl) (by kernel_rfl) (by kernel_rfl) (by kernel_rfl)) ?_
  intro W base args ds ps hval hA hwt _
  rw [show Try.f4.params.toList = [3, 31, 3] by kernel_rfl] at hA hwt
  have hval' : ∀ (j : Nat) t v, (#[3, 31, 3] : Array TypeId)[j]? = some t → args[j]? = some v → Value.okWide Try.prog W .any base t v := by
    rw [← Try.params4]; exact hval
  clear hval
  obtain ⟨v0, v1, v2, d0, d1, d2, pl0, pl1, pl2, rfl, rfl, rfl, h0, h1, h2⟩ := trodAll_three hA
  obtain ⟨n0, rfl, rfl, rfl, hn0⟩ := open_int Try.underlying3 (hval' 0 3 v0 rfl rfl) h0
  have hr0 : -9223372036854775808 ≤ n0 ∧ n0 ≤ 9223372036854775807 := by simpa [Lit.wf, IntKind.min, IntKind.max, IntKind.signed, IntKind.bits] using hn0
  obtain ⟨A1, c1, xs1, rfl, hO1, hc1, hm1⟩ := open_moves (hval' 1 31 v1 rfl rfl) h1 hwt (j := 1) rfl rfl
  obtain ⟨n2, rfl, rfl, rfl, hn2⟩ := open_int Try.underlying3 (hval' 2 3 v2 rfl rfl) h2
  have hr2 : -9223372036854775808 ≤ n2 ∧ n2 ≤ 9223372036854775807 := by simpa [Lit.wf, IntKind.min, IntKind.max, IntKind.signed, IntKind.bits] using hn2
  exact walk n0 A1 c1 xs1 n2 W hr0 hO1 hc1 hm1 hr2

/-- The statement. -/
theorem proved : Rows.ClocksPlaysSaid :=
  OpenClaim.holds_of_wide 4 Try.f4 rfl rfl rfl rfl rfl rfl rfl ⟨rfl, rfl, rfl, rfl, rfl⟩ rfl rfl rfl rfl rfl (by kernel_rfl) Try.func4 (by kernel_rfl)
    (of_decide_eq_true (by kernel_rfl)) (by unfold Func.isWrapper; first | (rw [if_pos (by decide +kernel)]; kernel_rfl) | (rw [if_neg (by decide +kernel)]; exact ⟨rfl, rfl⟩))
    (fun os started H enc _ => lifted os started H enc)

end Go.Proofs.Ytbcpphckjfbkbaa.lawClocksPlays
