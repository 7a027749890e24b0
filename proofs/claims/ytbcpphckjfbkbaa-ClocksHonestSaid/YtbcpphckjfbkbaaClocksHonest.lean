/- The drift is at most rho just if every tick kept within it, and then so did all time between any two moments; for every number of clocks, every list of ticks and every rho. -/
import Derived.Test.YtbcpphckjfbkbaaRows
import Derived.Test.YtbcpphckjfbkbaaClkHist
import Derived.Test.YtbcpphckjfbkbaaLawBare
import Derived.JoinedCond
import Derived.OpenShut
namespace Go.Proofs.Ytbcpphckjfbkbaa.lawClocksHonest
open Go Go.RowKit Go.ChangeShapes Go.WideShapes Go.ChangeAt
set_option linter.unusedVariables false
set_option linter.unusedSimpArgs false
theorem mvs_get {w : World} {A : Option Addr} {xs : List Mv} (h : MvsAt w A xs) {k : Nat} (hk : k < xs.length) : ∃ b o B c, A = some ⟨b, o, none⟩ ∧ b < w.heap.size ∧ w.cell? ⟨b, o + k * 2, none⟩ = some (.int .i64 xs[k].d) ∧ w.cell? ⟨b, o + k * 2 + 1, none⟩ = some (.slice B xs[k].bs.length c) ∧ CameM w B c xs[k] := by
  obtain ⟨b, o, e, hb, hx⟩ := h (by omega)
  obtain ⟨B, c, k0, k1, k2⟩ := hx k _ (List.getElem?_eq_getElem hk)
  exact ⟨b, o, B, c, e, hb, k0, k1, k2⟩
/-- How the clocks stand. -/
structure Cl (w wr : World) (g n : Nat) (c : CK.Ck) : Prop where
  clk : ClkAt wr g c
  len : c.ts.length = n
  old : w.heap.size ≤ g
  bel : Below w.heap.size w wr
theorem Cl.below {w wr wx : World} {g n : Nat} {c : CK.Ck} (h : Cl w wr g n c) (hb : Below wr.heap.size wr wx) : Cl w wx g n c := ⟨h.clk.below hb, h.len, h.old, below_on h.bel hb⟩
theorem take_next {l : List Int} {k : Nat} (h : k < l.length) : l.take (k + 1) = l.take k ++ [l[k]] := by
  rw [List.take_add_one, List.getElem?_eq_getElem h]; rfl
theorem row_from {w : World} {b1 b2 : Nat} {e : TypeId} {s n : Nat} {v : Value} {xs : List Value} (h : w.ownsRow b1 e s v n xs) (hb : b2 ≤ b1) : w.ownsRow b2 e s v n xs := by
  refine ⟨h.1, ?_⟩
  rcases h.2 with h0 | ⟨g, cap, cur, e1, h1, hr⟩
  · exact .inl h0
  · exact .inr ⟨g, cap, cur, e1, Nat.le_trans hb h1, hr⟩
theorem grew_keep {w w1 w2 : World} {xs : List Int} {v : Value} (h : Grew w xs v w1) (hb : Below w1.heap.size w1 w2) : Grew w xs v w2 := ⟨(Mod.of_below hb []).own h.1 (by simp), below_on h.2 hb⟩
theorem kept_take {d r : Int} {bs : List Int} {j : Nat} (h : j < bs.length) : CK.kept d r (bs.take (j + 1)) = (CK.kept d r (bs.take j) && TM.honest d bs[j] r) := by
  unfold CK.kept
  rw [take_next h, List.all_append]
  simp
theorem Honest_at (d a r : Int) (w : World) (hd : -9223372036854775808 ≤ d ∧ d ≤ 9223372036854775807) (ha : -9223372036854775808 ≤ a ∧ a ≤ 9223372036854775807) (hr : -9223372036854775808 ≤ r ∧ r ≤ 9223372036854775807) {b : Bool} (hb : TM.honest d a r = b) :
    Calls Try.prog 18 #[.int .i64 d, .int .i64 a, .int .i64 r] w fun e w' => e = .returned (.bool b) ∧ Below w.heap.size w w' := by
  subst hb
  exact (Tm.Honest_any d a r w hd ha hr).mono fun e w' h => ⟨h.1, h.2.below (Nat.le_refl _)⟩
theorem own_addr1 {w : World} {B n : Nat} {e : TypeId} {v : Value} {xs : List Value} (h : w.ownsRow B e 1 v n xs) (hn : 0 < n) : ∃ g c, v = .slice (some ⟨g, 0, none⟩) n c ∧ B ≤ g ∧ g < w.heap.size ∧ n ≤ c ∧ c ≤ 9223372036854775807 := by
  have hl := h.1
  rw [Nat.mul_one] at hl
  obtain ⟨g, cap, hv, hb, hlt⟩ := h.form (by omega)
  obtain ⟨A, c, e, h1, h2⟩ := own_shape h
  rw [hv] at e
  injection e with _ _ e3
  subst e3
  exact ⟨g, cap, hv, hb, hlt, h1, h2⟩
theorem hdr_cell {w : World} {B n g c N : Nat} {hs : List H3} (h : w.ownsRow B 27 1 (.slice (some ⟨g, 0, none⟩) n c) n (hs.map (H3.hdr N))) {q : Nat} (hq : q < hs.length) : w.cell? ⟨g, q, none⟩ = some (.slice hs[q].A N hs[q].m) := by
  have := h.cells (g := g) rfl q (H3.hdr N hs[q]) (by rw [List.getElem?_map, List.getElem?_eq_getElem hq]; rfl)
  rw [Addr.add_lit, Nat.zero_add] at this
  exact this
theorem num_cell {w : World} {B n g c : Nat} {xs : List Int} (h : w.ownsRow B 3 1 (.slice (some ⟨g, 0, none⟩) n c) n (i64s xs)) {q : Nat} (hq : q < xs.length) : w.cell? ⟨g, q, none⟩ = some (.int .i64 xs[q]) := by
  have := h.cells (g := g) rfl q (i64 xs[q]) (by simp [i64s, hq])
  rw [Addr.add_lit, Nat.zero_add] at this
  exact this
theorem not_in {v : Value} {k : Nat} (h : v.ownBlock ≠ some k) : k ∉ v.ownBlock.toList := fun hx => h (by simpa using hx)
theorem far_own {v : Value} {g n m : Nat} (h : v.ownBlock ≠ some g) : ∀ k, (Value.slice (some ⟨g, 0, none⟩) n m).ownBlock = some k → k ∉ v.ownBlock.toList := fun k hk => by
  have e : g = k := by simpa [Value.ownBlock] using hk
  subst e
  exact not_in h
theorem new_ne {v v2 : Value} {g N : Nat} (h : v2.ownBlock = v.ownBlock ∨ ∃ k, v2.ownBlock = some k ∧ N ≤ k) (h1 : v.ownBlock ≠ some g) (h2 : g < N) : v2.ownBlock ≠ some g := by
  rcases h with e | ⟨y, e, hy⟩
  · rw [e]; exact h1
  · rw [e]; intro e2; injection e2 with e2; omega
/-- The start: one moment. -/
theorem start_hs {w w2 : World} {g n : Nat} (hg : g < w2.heap.size) (hw : w.heap.size ≤ w2.heap.size) (hn : n ≤ 8) : Hs w (((w2.alloc (.cells #[.int .i64 0] 3)).alloc (.cells (madeCells #[.int .i64 0] n) 3)).alloc (.cells #[.slice (some ⟨w2.heap.size + 1, 0, none⟩) n n] 27)) g n [0]
    (.slice (some ⟨w2.heap.size, 0, none⟩) 1 1) (.slice (some ⟨w2.heap.size + 1 + 1, 0, none⟩) 1 1) [⟨some ⟨w2.heap.size + 1, 0, none⟩, n, List.replicate n 0⟩] := by
  have h1 : (w2.alloc (.cells #[.int .i64 0] 3)).ownsRow w2.heap.size 3 1 (.slice (some ⟨w2.heap.size, 0, none⟩) 1 1) 1 [.int .i64 0] := World.ownsRow_lit w2 #[.int .i64 0] 1 (Nat.le_refl _) (by decide) rfl
  have h2 := World.ownsRow_lit (e := 27) (size := 1) ((w2.alloc (.cells #[.int .i64 0] 3)).alloc (.cells (madeCells #[.int .i64 0] n) 3)) #[.slice (some ⟨w2.heap.size + 1, 0, none⟩) n n] 1 (Nat.le_refl _) (by decide) rfl
  have h3 := made_ints (w2.alloc (.cells #[.int .i64 0] 3)) n
  simp only [World.size_alloc] at h2 h3
  refine ⟨row_from ((h1.alloc _).alloc _) hw, row_from h2 (by omega), fun a ha => ?_, by simp only [World.size_alloc]; omega, ?_, ?_⟩
  · rw [List.mem_singleton.1 ha]
    refine ⟨h3.below ((Below.refl _ _).alloc (Nat.le_refl _) _), fun ad e => ?_⟩
    injection e with e
    subst e
    simp only [Value.ownBlock, World.size_alloc]
    simp
    omega
  · simp [Value.ownBlock]; omega
  · simp [Value.ownBlock]; omega
set_option maxRecDepth 100000 in
set_option maxHeartbeats 16000000 in
theorem walk (n : Int) (B : Option Addr) (cap : Nat) (xs : List Mv) (rho : Int) (w : World) (hn : -9223372036854775808 ≤ n ∧ n ≤ 9223372036854775807) (hM : MvsAt w B xs) (hcap : xs.length ≤ cap) (hcap2 : cap ≤ 140737488351232) (hrho : -9223372036854775808 ≤ rho ∧ rho ≤ 9223372036854775807) :
    Calls Try.prog 6 #[.int .i64 n, .slice B xs.length cap, .int .i64 rho] w (LK.True_ w) := by
  have HM := Lib.hid hM
  clear hM
  go_enter Try.func6, Try.ntmps6
  go_wp2_with fail
  refine (awake_any w).mono ?_
  rintro e w1 ⟨rfl, hb⟩
  have HX1 := Lib.hid hb
  clear hb
  by_cases hbad : n < 1 ∨ 8 < n
  · go_wp2_with fail
    refine (New_no n w1 hbad hn).mono ?_
    rintro e w2 ⟨rfl, rfl⟩
    go_wp2_with fail
    go_ret
    exact ⟨rfl, HX1.out⟩
  obtain ⟨N, rfl⟩ : ∃ N : Nat, n = (N : Int) := ⟨n.toNat, by omega⟩
  have hN : 1 ≤ N ∧ N ≤ 8 := by omega
  clear hbad
  go_wp2_with fail
  refine (New_ok N w1 hN).mono ?_
  rintro e w2 ⟨rfl, hc, hb⟩
  have HZ := Lib.hid (show (CK.zero N).ts.length = N from List.length_replicate)
  have HPL := Lib.hid (show Cl w w2 w1.heap.size N (CK.zero N) from ⟨hc, HZ.out, HX1.out.size, below_on HX1.out hb⟩)
  clear hb hc HX1
  by_cases hout : rho < 0 ∨ 999 < rho ∨ 60 < xs.length
  · rcases hout with h | h | h
    all_goals
      go_wp2_with fail
      all_goals
        go_ret
        exact ⟨rfl, HPL.out.bel⟩
  have hr : 0 ≤ rho ∧ rho ≤ 999 := by omega
  have h60 : xs.length ≤ 60 := by omega
  have HR := Lib.hid hr
  clear hout
  have hmk : ∀ w' : World, (Instr.makeSlice 27 (.int .i64 (N : Int)) (.int .i64 (N : Int))).run Try.prog w' = .ok (.slice (some ⟨w'.heap.size, 0, none⟩) N N) (w'.alloc (.cells (madeCells #[.int .i64 0] N) 3)) := fun w' => run_make_row' (P := Try.prog) 27 3 (.int .i64 0) 8 Try.underlying27 info_int rfl .i64 .i64 N (by omega) (by omega) w'
  have HHS := Lib.hid (start_hs (w := w) HPL.out.clk.lt HPL.out.bel.size hN.2)
  have HPL2 := Lib.hid (HPL.out.below ((((Below.refl w2.heap.size w2).alloc (Nat.le_refl _) (.cells #[.int .i64 0] 3)).alloc (by simp) (.cells (madeCells #[.int .i64 0] N) 3)).alloc (by simp only [World.size_alloc]; omega) (.cells #[.slice (some ⟨w2.heap.size + 1, 0, none⟩) N N] 27)))
  have HMO := Lib.hid (CK.Moments.start N HR.out)
  have HDR := Lib.hid (show decide ((CK.zero N).dr ≤ rho) = true from decide_eq_true (by show (0 : Int) ≤ rho; omega))
  clear HPL
  go_wp2_with fail
  generalize World.alloc _ (.cells #[.slice (some ⟨w2.heap.size + 1, 0, none⟩) N N] 27) = w3 at HHS HPL2 ⊢
  generalize w2.heap.size = z2 at HHS ⊢
  generalize w1.heap.size = g at HHS HPL2 ⊢
  go_loopw [9, 10, 11, 54] (fun h V U i wr => ∃ (k : Nat) (c : CK.Ck) (T : List Int) (hs : List H3), i = .int .i64 (k : Int) ∧ k ≤ xs.length ∧ h = .bool (decide (c.dr ≤ rho)) ∧ Hid (Cl w wr g N c) ∧ Hid (Hs w wr g N T V U hs) ∧ Hid (CK.Moments c rho N T (hs.map H3.l)) ∧ Hid (T.length ≤ k + 1)) (fun _ _ _ i _ => xs.length - (intOf i).toNat)
  case atStart => exact ⟨0, CK.zero N, [0], _, rfl, Nat.zero_le _, by rw [HDR.out], HPL2, HHS, HMO, Lib.hid (Nat.le_refl _)⟩
  case round =>
    clear HPL2 HHS HMO HDR hmk
    obtain ⟨k, c, T, hs, rfl, hk, rfl, HPL, HHS, HMO, HLT⟩ := hrel
    obtain ⟨V, rfl⟩ : ∃ y, y = u10 := ⟨_, rfl⟩
    obtain ⟨U, rfl⟩ : ∃ y, y = u11 := ⟨_, rfl⟩
    by_cases hlt : k < xs.length
    · obtain ⟨b, o, Bx, cx, eB, hb, x0, x1, hx⟩ := mvs_get HM.out hlt
      have y0 := (HPL.out.bel.cell (p := ⟨b, o + k * 2, none⟩) hb).trans x0
      have y1 := (HPL.out.bel.cell (p := ⟨b, o + k * 2 + 1, none⟩) hb).trans x1
      have HX := Lib.hid hx
      subst eB
      clear x0 x1 hx hb
      generalize xs[k] = x at y0 y1 HX
      have hal := (Below.refl wr.heap.size wr).alloc (Nat.le_refl _) (.cells #[.int .i64 x.d, .slice Bx x.bs.length cx] 37)
      have HPL6 := Lib.hid (HPL.out.below hal)
      have HHS6 := Lib.hid (HHS.out.below hal)
      have HW6 := Lib.hid (Whole.new wr 37 #[.int .i64 x.d, .slice Bx x.bs.length cx])
      have HNP := Lib.hid (show wr.heap.size ≠ g by have := HPL.out.clk.lt; omega)
      clear hal
      go_upto_region 14 with (fail)
      clear y0 y1 HPL HHS
      generalize wr.alloc (.cells #[.int .i64 x.d, .slice Bx x.bs.length cx] 37) = w4 at HPL6 HHS6 HW6 ⊢
      generalize wr.heap.size = p at HW6 HNP ⊢
      have HX6 := Lib.hid (HX.out.below HPL6.out.bel)
      have HT := Lib.hid (fun (W : World) (h : ClkAt W g c) (A' : Option Addr) (n' : Nat) (hA : IntsAt W A' x.bs) (hG : ∀ ad, A' = some ad → ad.block ≠ g) (hl : x.bs.length ≤ n') (hn : n' ≤ 9223372036854775807) => Tick_any h x.d A' n' x.bs hA hG hl hn HX6.out.d HX6.out.bs)
      go_cut [66] (fun s wx => s = .bool (CK.err c x.d x.bs != 0) ∧ Hid (ClkAt wx g (CK.step c x.d x.bs)) ∧ Hid (Whole wx p 37 #[.int .i64 x.d, .slice Bx x.bs.length cx]) ∧ Hid (Hs w wx g N T V U hs) ∧ Hid (Below w.heap.size w wx))
      case first =>
        -- BEGIN
        have HS := And.intro (show w4.drew.cell? ⟨p, 0, none⟩ = some (.int .i64 x.d) from HW6.out.cell 0) (show w4.drew.cell? ⟨p, 1, none⟩ = some (.slice Bx x.bs.length cx) from HW6.out.cell 1)
        have HY := Lib.hid (show IntsAt w4.drew Bx x.bs from HX6.out.ints)
        have HLX := Lib.hid (show x.bs.length * 8 ≤ 140737488355328 by have := HX6.out.le; have := HX6.out.cap; omega)
        go_region_held3 (fun v : World => v.cell? ⟨p, 0, none⟩ = some (.int .i64 x.d) ∧ v.cell? ⟨p, 1, none⟩ = some (.slice Bx x.bs.length cx))
          (first
            | exact HS
            | exact And.intro ((Whole.alloc HW6.out _).cell 0) ((Whole.alloc HW6.out _).cell 1)
            | (go_keep; done))
          (first
            | (refine step_app_lit (w := w4.drew) Bx cx _ x.bs rfl HY.out _ rfl rfl (by rfl) (by rfl) HLX.out ?_; intro A7 n7 c7 w7 hm7; obtain ⟨HN7, HI7, HO7, HB7, k7, k7'⟩ := hm7; have HPL7 := Lib.hid (HPL6.out.below (below_of_drew HB7.out)); have HA7 := Lib.hid (HHS6.out.below (below_of_drew HB7.out)); have HW7 := Lib.hid ((Mod.of_below (below_of_drew HB7.out) []).whole HW6.out (by simp)); have HG7 := Lib.hid (fun ad (e : A7 = some ad) => show ad.block ≠ g from by have h1 := (own_at HO7.out ad e).1; have h2 := HPL6.out.clk.lt; have h3 : w4.drew.heap.size = w4.heap.size := rfl; omega); have e7 := HN7.out; subst e7; clear HS; have HS := And.intro (show w7.cell? ⟨p, 0, none⟩ = some (.int .i64 x.d) from HW7.out.cell 0) (show w7.cell? ⟨p, 1, none⟩ = some (.slice Bx x.bs.length cx) from HW7.out.cell 1))
            | (go_at_call 10; refine (HT.out _ HPL7.out.clk A7 c7 HI7.out HG7.out k7 k7').mono ?_; rintro e w8 ⟨rfl, HC8, HM8⟩; have HW8 := Lib.hid (HM8.out.whole HW7.out (by simpa using HNP.out)); have HA8 := Lib.hid (HA7.out.mod HM8.out (fun y hy => .inl (by simpa using hy))); have HX8 := Lib.hid (HPL7.out.bel.trans (HM8.out.below HPL7.out.bel.size (by simpa using HPL7.out.old))); clear HS; have HS := And.intro (show w8.cell? ⟨p, 0, none⟩ = some (.int .i64 x.d) from HW8.out.cell 0) (show w8.cell? ⟨p, 1, none⟩ = some (.slice Bx x.bs.length cx) from HW8.out.cell 1)))
        all_goals
          go_wp2_with fail
          go_meet
          exact ⟨by first | rfl | simp, HC8, HW8, HA8, HX8⟩
        -- END
      case rest =>
        obtain ⟨rfl, HC8, HW8, HH8, HX8⟩ := hcut
        have HLN := Lib.hid HPL6.out.len
        have HOLD := Lib.hid HPL6.out.old
        have HDX := Lib.hid HX6.out.d
        have HCS := Lib.hid HPL6.out.clk.ok
        have HL5 := Lib.hid (show (CK.step c x.d x.bs).ts.length = N by rw [CK.step_len]; exact HLN.out)
        clear HPL6 HHS6 HX6 HW6 HT
        by_cases her : CK.err c x.d x.bs = 0
        · have hE := CK.err_ok.1 her
          have HLB := Lib.hid (show x.bs.length = N by rw [hE.1]; exact HLN.out)
          have HNM0 := Lib.hid (HMO.out.next (d := x.d) (bs := x.bs) HCS.out HLN.out HR.out her)
          have HKD := Lib.hid (show decide ((CK.step c x.d x.bs).dr ≤ rho) = (decide (c.dr ≤ rho) && CK.kept x.d rho x.bs) by rw [CK.step_ok her]; exact CK.drift_kept HR.out)
          rw [show (CK.err c x.d x.bs != 0) = false by rw [her]; rfl]
          clear her hE
          generalize CK.step c x.d x.bs = c5 at *
          generalize decide (c.dr ≤ rho) = fl at HKD ⊢
          obtain ⟨wa, rfl⟩ : ∃ y, y = wc := ⟨_, rfl⟩
          go_wp2_with fail
          go_loopw [9, 14, 15] (fun h v i wr => ∃ j : Nat, i = .int .i64 (j : Int) ∧ j ≤ N ∧ h = .bool (fl && CK.kept x.d rho (x.bs.take j)) ∧ Hid (Grew wa (c5.ts.take j) v wr)) (fun _ _ i _ => N - (intOf i).toNat)
          case atStart => exact ⟨0, rfl, Nat.zero_le _, by simp [CK.kept], Lib.hid (by rw [List.take_zero]; exact Grew.nil wa)⟩
          case round =>
            obtain ⟨j, rfl, hj, rfl, HG⟩ := hrel
            obtain ⟨wb, rfl⟩ : ∃ y, y = wr := ⟨_, rfl⟩
            have HW9 := Lib.hid ((Mod.of_below HG.out.2 []).whole HW8.out (by simp))
            by_cases hjn : j < N
            · have hjt : j < c5.ts.length := by rw [HL5.out]; exact hjn
              have hjb : j < x.bs.length := by rw [HLB.out]; exact hjn
              have HNW := Lib.hid (CK.now_at hjt)
              have HTN := Lib.hid (take_next hjt)
              have HKT := Lib.hid (show (fl && CK.kept x.d rho (x.bs.take (j + 1))) = ((fl && CK.kept x.d rho (x.bs.take j)) && TM.honest x.d x.bs[j] rho) by rw [kept_take hjb, Bool.and_assoc])
              have HLG := Lib.hid (show ((c5.ts.take j).length + 1) * 8 ≤ 140737488355328 by rw [List.length_take]; omega)
              have HIB := Lib.hid (HX.out.bs _ (List.getElem_mem hjb))
              obtain ⟨b12, o12, eB, hb12, hcell2⟩ := ints_cell ((HX.out.ints.below HX8.out).below HG.out.2) hjb
              have p0 : wb.cell? ⟨p, 0, none⟩ = some (.int .i64 x.d) := HW9.out.cell 0
              have p1 : wb.cell? ⟨p, 1, none⟩ = some (.slice Bx N cx) := by rw [← HLB.out]; exact HW9.out.cell 1
              rw [eB] at p1
              clear eB
              generalize c5.ts[j] = t at HNW HTN
              generalize x.bs[j] = a at hcell2 HKT HIB
              go_wp2_with fail
              go_cut [9] (fun h wx => h = .bool (fl && CK.kept x.d rho (x.bs.take (j + 1))) ∧ Hid (Below wb.heap.size wb wx))
              case first =>
                obtain ⟨bv, hbv⟩ : ∃ y, (fl && CK.kept x.d rho (x.bs.take j)) = y := ⟨_, rfl⟩
                rw [hbv]
                have HBV := Lib.hid hbv
                clear hbv
                obtain ⟨hv, hhv⟩ : ∃ y, TM.honest x.d a rho = y := ⟨_, rfl⟩
                have HON := Lib.hid (fun W => Honest_at x.d a rho W HDX.out HIB.out hrho hhv)
                have HHV := Lib.hid hhv
                clear hhv
                cases bv with
                | false =>
                  go_region
                  all_goals
                    go_wp2_with fail
                    go_meet
                    exact ⟨by rw [HKT.out, HBV.out]; rfl, Lib.hid (Below.drew (Below.refl _ _))⟩
                | true =>
                  have HS := And.intro (show wb.drew.cell? ⟨p, 0, none⟩ = some (.int .i64 x.d) from p0) (And.intro (show wb.drew.cell? ⟨p, 1, none⟩ = some (.slice (some ⟨b12, o12, none⟩) N cx) from p1) (show wb.drew.cell? ⟨b12, o12 + j, none⟩ = some (.int .i64 a) from hcell2))
                  have HPL3 := Lib.hid (And.intro (show p < wb.drew.heap.size from HW9.out.lt) (show b12 < wb.drew.heap.size from hb12))
                  go_region_held3 (fun v : World => v.cell? ⟨p, 0, none⟩ = some (.int .i64 x.d) ∧ v.cell? ⟨p, 1, none⟩ = some (.slice (some ⟨b12, o12, none⟩) N cx) ∧ v.cell? ⟨b12, o12 + j, none⟩ = some (.int .i64 a))
                    (first
                      | exact HS
                      | (go_keep; done))
                    (first
                      | (go_at_call 18; refine (HON.out _).mono ?_; rintro e v ⟨rfl, hb9⟩; have HB9 := Lib.hid hb9; have HS9 := And.intro ((hb9.cell (p := ⟨p, 0, none⟩) HPL3.out.1).trans HS.1) (And.intro ((hb9.cell (p := ⟨p, 1, none⟩) HPL3.out.1).trans HS.2.1) ((hb9.cell (p := ⟨b12, o12 + j, none⟩) HPL3.out.2).trans HS.2.2)); clear HS hb9; have HS := HS9))
                  all_goals
                    go_wp2_with fail
                    go_meet
                    exact ⟨by rw [HKT.out, HBV.out, HHV.out]; rfl, Lib.hid (below_of_drew HB9.out)⟩
              case rest =>
                obtain ⟨rfl, HB⟩ := hcut
                have HG10 := Lib.hid (grew_keep HG.out HB.out)
                clear p0 p1 hcell2
                go_wp2_with fail
                refine (Now_any (HC8.out.below HG10.out.2) (j : Int) (by omega)).mono ?_
                rintro e w5 ⟨rfl, rfl⟩
                rw [HNW.out]
                go_wp2_with (at_builtin; refine app_one rfl (.tmp 89) (.tmp 93) rfl _ _ HG10.out rfl t rfl HLG.out ?_; intro v2 w5 hg2; rw [← HTN.out] at hg2; have HG5 := Lib.hid hg2; clear hg2)
                go_roundw
                case rel => exact ⟨j + 1, rfl, by omega, rfl, HG5⟩
                case measure => simp only [intOf]; omega
            · have hG := HG.out
              rw [List.take_of_length_le (show c5.ts.length ≤ j by rw [HL5.out]; omega)] at hG
              have hO := hG.1
              rw [HL5.out] at hO
              obtain ⟨gN, m14, e, hg1, hg2, hg3, hg4⟩ := own_addr1 hO (by omega)
              subst e
              have HO9 := Lib.hid hO
              have HC9 := Lib.hid (HC8.out.below hG.2)
              have HH9 := Lib.hid (HH8.out.below hG.2)
              have HX9 := Lib.hid (below_on HX8.out hG.2)
              have HGN := Lib.hid (show gN ≠ g ∧ V.ownBlock ≠ some gN ∧ U.ownBlock ≠ some gN ∧ gN < wb.heap.size from by
                refine ⟨?_, fun e => ?_, fun e => ?_, hg2⟩
                · have := HC8.out.lt; omega
                · have := (HH8.out.tr.lt gN e).2; omega
                · have := (HH8.out.hd.lt gN e).2; omega)
              have hfl : (fl && CK.kept x.d rho (x.bs.take j)) = decide (c5.dr ≤ rho) := by rw [List.take_of_length_le (by have := HLB.out; omega), ← HKD.out]
              rw [hfl]
              generalize hg5 : decide (c5.dr ≤ rho) = fl5
              have HFL := Lib.hid hg5
              have HLH := Lib.hid (show hs.length = T.length from by have := HMO.out.len; rw [List.length_map] at this; exact this.symm)
              have HLT5 := Lib.hid (show (T ++ [c5.tr]).length ≤ k + 1 + 1 by rw [List.length_append]; have := HLT.out; simp; omega)
              have HLT1 := Lib.hid (show (T.length + 1) * 8 ≤ 140737488355328 by have := HLT.out; omega)
              have HLT2 := Lib.hid (show (hs.length + 1) * 24 ≤ 140737488355328 by have := HLT.out; have := HLH.out; omega)
              clear hG hO HG hfl hg1 hg2 HC8 HH8 HX8 HW8 HW9
              go_wp2_with fail
              refine (True_any HC9.out).mono ?_
              rintro e w5 ⟨rfl, rfl⟩
              go_wp2_with (first
                | (at_builtin; refine app_truth rfl (.tmp 95) (.tmp 98) rfl w.heap.size V T HH9.out.tr HX9.out.size rfl c5.tr rfl HLT1.out ?_; intro V2 w6 ho6 hm6 hv6; have HH10 := Lib.hid (HH9.out.truth ho6 hm6 hv6); have HC10 := Lib.hid (HC9.out.mod hm6 (not_in HH9.out.vg)); have HO10 := Lib.hid (hm6.own HO9.out (far_own HGN.out.2.1)); have HX10 := Lib.hid (HX9.out.trans (hm6.below HX9.out.size (fun y hy => (HH9.out.tr.lt y (by simpa using hy)).1))); have HV2 := Lib.hid (new_ne hv6 HGN.out.2.1 HGN.out.2.2.2); have HS6 := Lib.hid hm6.size; clear ho6 hm6 hv6)
                | (at_builtin; refine app_times rfl (.tmp 100) (.tmp 102) rfl w.heap.size U N hs HH10.out.hd HX10.out.size rfl ⟨some ⟨gN, 0, none⟩, m14, c5.ts⟩ rfl HLT2.out ?_; intro U2 w7 ho7 hm7 hv7; have HH11 := Lib.hid (HH10.out.times ho7 hm7 hv7 (IntsAt.own HO10.out) (fun ad e => by injection e with e; subst e; exact ⟨HGN.out.1, HV2.out, HGN.out.2.2.1, Nat.lt_of_lt_of_le HGN.out.2.2.2 HS6.out⟩)); have HC11 := Lib.hid (HC10.out.mod hm7 (not_in HH10.out.ug)); have HO11 := Lib.hid (hm7.own HO10.out (far_own HGN.out.2.2.1)); have HX11 := Lib.hid (HX10.out.trans (hm7.below HX10.out.size (fun y hy => (HH10.out.hd.lt y (by simpa using hy)).1))); clear ho7 hm7 hv7))
              refine (Drift_any HC11.out).mono ?_
              rintro e w8 ⟨rfl, rfl⟩
              have HNM : Hid (CK.Moments c5 rho N (T ++ [c5.tr]) ((hs ++ [(⟨some ⟨gN, 0, none⟩, m14, c5.ts⟩ : H3)]).map H3.l)) := Lib.hid (by rw [List.map_append]; exact HNM0.out)
              have HLH5 := Lib.hid (show (hs ++ [(⟨some ⟨gN, 0, none⟩, m14, c5.ts⟩ : H3)]).length = (T ++ [c5.tr]).length by rw [List.length_append, List.length_append, HLH.out]; rfl)
              obtain ⟨gT, cT0, e1, _, _, _, _⟩ := own_addr1 HH11.out.tr (by rw [List.length_append]; simp)
              obtain ⟨gU, cU0, e2, _, _, _, _⟩ := own_addr1 HH11.out.hd (by rw [List.length_append]; simp)
              subst e1
              subst e2
              generalize hT5 : T ++ [c5.tr] = T5 at *
              generalize hH5 : hs ++ [(⟨some ⟨gN, 0, none⟩, m14, c5.ts⟩ : H3)] = hs5 at *
              clear hT5 hH5 HNM0 HLT HLH HLT1 HLT2 HKD HC9 HH9 HO9 HX9 HC10 HH10 HO10 HX10 HV2 HS6 HMO
              go_wp2_with fail
              clear hg5
              cases fl5 with
              | true =>
                go_loopw [16, 17, 112] (fun _ _ i wr => ∃ q : Nat, i = .int .i64 (q : Int) ∧ q ≤ T5.length ∧ Hid (Below w7.heap.size w7 wr)) (fun _ _ i _ => T5.length - (intOf i).toNat)
                case atStart => exact ⟨0, rfl, Nat.zero_le _, Lib.hid (Below.refl _ _)⟩
                case round =>
                  obtain ⟨q, rfl, hq, HBQ⟩ := hrel
                  by_cases hqn : q < T5.length
                  · go_wp2_with fail
                    go_loopw [17] (fun i wr => ∃ j : Nat, i = .int .i64 (j : Int) ∧ j ≤ N ∧ Hid (Below w7.heap.size w7 wr)) (fun i _ => N - (intOf i).toNat)
                    case atStart => exact ⟨0, rfl, Nat.zero_le _, HBQ⟩
                    case round =>
                      clear HBQ
                      obtain ⟨j, rfl, hj, HBJ⟩ := hrel
                      by_cases hjn : j < N
                      · have HC12 := Lib.hid (HC11.out.below HBJ.out)
                        have HH12 := Lib.hid (HH11.out.below HBJ.out)
                        have hqh : q < hs5.length := by rw [HLH5.out]; exact hqn
                        have hjt : j < c5.ts.length := by rw [HL5.out]; exact hjn
                        obtain ⟨_, hA3⟩ := HH12.out.li _ (List.getElem_mem hqh)
                        have hl3 : hs5[q].l.length = N := HNM.out.row _ (List.mem_map.2 ⟨_, List.getElem_mem hqh, rfl⟩)
                        obtain ⟨b3, o3, e3, hb3, hc3⟩ := ints_cell (HH12.out.li _ (List.getElem_mem hqh)).1 (show j < hs5[q].l.length by rw [hl3]; exact hjn)
                        have cT := num_cell HH12.out.tr hqn
                        have cU := hdr_cell HH12.out.hd hqh
                        have cN := num_cell ((Mod.of_below HBJ.out []).own HO11.out (by simp)) hjt
                        rw [e3] at cU
                        have hho := HNM.out.hon (of_decide_eq_true HFL.out) q hqn (by rw [List.length_map]; exact hqh) j hjt (by simp only [List.getElem_map]; rw [hl3]; exact hjn)
                        simp only [List.getElem_map] at hho
                        have hp1 := HNM.out.pos.1 _ (List.getElem_mem hqn)
                        have hp2 := HNM.out.pos.2 _ (List.mem_map.2 ⟨_, List.getElem_mem hqh, rfl⟩) _ (List.getElem_mem (show j < hs5[q].l.length by rw [hl3]; exact hjn))
                        have hp3 := HC12.out.ok.tr
                        have hp4 := HC12.out.ok.ts _ (List.getElem_mem hjt)
                        clear e3 hA3
                        generalize T5[q] = tq at cT hho hp1
                        generalize hs5[q].l[j] = lq at hc3 hho hp2
                        generalize hs5[q].m = mq at cU
                        generalize c5.ts[j] = nq at cN hho hp4
                        have HON := Lib.hid (fun W => Honest_at (c5.tr - tq) (nq - lq) rho W (by omega) (by omega) hrho hho)
                        have hw1 : IntKind.i64.wrap (c5.tr - tq) = c5.tr - tq := by rw [IntKind.wrap_i64]; omega
                        have hw2 : IntKind.i64.wrap (nq - lq) = nq - lq := by rw [IntKind.wrap_i64]; omega
                        clear hho hp1 hp2 hp3 hp4 hl3
                        go_wp2_with fail
                        have HS := And.intro (show wr.drew.cell? ⟨gT, q, none⟩ = some (.int .i64 tq) from cT) (And.intro (show wr.drew.cell? ⟨gN, j, none⟩ = some (.int .i64 nq) from cN) (And.intro (show wr.drew.cell? ⟨gU, q, none⟩ = some (.slice (some ⟨b3, o3, none⟩) N mq) from cU) (show wr.drew.cell? ⟨b3, o3 + j, none⟩ = some (.int .i64 lq) from hc3)))
                        have HLTS := Lib.hid (show gT < wr.drew.heap.size ∧ gN < wr.drew.heap.size ∧ gU < wr.drew.heap.size ∧ b3 < wr.drew.heap.size from ⟨World.block_lt_of_cell? _ _ cT, World.block_lt_of_cell? _ _ cN, World.block_lt_of_cell? _ _ cU, hb3⟩)
                        clear cT cN cU hc3 hb3
                        go_region_held3 (fun v : World => v.cell? ⟨gT, q, none⟩ = some (.int .i64 tq) ∧ v.cell? ⟨gN, j, none⟩ = some (.int .i64 nq) ∧ v.cell? ⟨gU, q, none⟩ = some (.slice (some ⟨b3, o3, none⟩) N mq) ∧ v.cell? ⟨b3, o3 + j, none⟩ = some (.int .i64 lq))
                          (first
                            | exact HS
                            | (go_keep; done))
                          (first
                            | (go_at_call 15; refine (True_any HC12.out.drew).mono ?_; rintro e v ⟨rfl, rfl⟩)
                            | (go_at_call 18; refine (HON.out _).mono ?_; rintro e v ⟨rfl, hb9⟩; have HB9 := Lib.hid hb9; have HS9 := And.intro ((hb9.cell (p := ⟨gT, q, none⟩) HLTS.out.1).trans HS.1) (And.intro ((hb9.cell (p := ⟨gN, j, none⟩) HLTS.out.2.1).trans HS.2.1) (And.intro ((hb9.cell (p := ⟨gU, q, none⟩) HLTS.out.2.2.1).trans HS.2.2.1) ((hb9.cell (p := ⟨b3, o3 + j, none⟩) HLTS.out.2.2.2).trans HS.2.2.2))); clear HS hb9; have HS := HS9))
                        all_goals
                          go_wp2_with fail
                          go_roundw
                          case rel => exact ⟨j + 1, rfl, by omega, Lib.hid (below_on HBJ.out (below_of_drew HB9.out))⟩
                          case measure => simp only [intOf]; omega
                      · go_wp2_with fail
                        go_roundw
                        case rel => exact ⟨q + 1, rfl, by omega, HBJ⟩
                        case measure => simp only [intOf]; omega
                  · go_wp2_with fail
                    go_roundw
                    case rel => exact ⟨k + 1, c5, T5, hs5, rfl, by omega, by rw [HFL.out], Lib.hid ⟨HC11.out.below HBQ.out, HL5.out, HOLD.out, below_on HX11.out HBQ.out⟩, Lib.hid (HH11.out.below HBQ.out), HNM, HLT5⟩
                    case measure => simp only [intOf]; omega
              | false =>
                go_loopw [16, 17, 112] (fun _ _ i wr => ∃ q : Nat, i = .int .i64 (q : Int) ∧ q ≤ T5.length ∧ Hid (Below w7.heap.size w7 wr)) (fun _ _ i _ => T5.length - (intOf i).toNat)
                case atStart => exact ⟨0, rfl, Nat.zero_le _, Lib.hid (Below.refl _ _)⟩
                case round =>
                  obtain ⟨q, rfl, hq, HBQ⟩ := hrel
                  by_cases hqn : q < T5.length
                  · go_wp2_with fail
                    go_loopw [17] (fun i wr => ∃ j : Nat, i = .int .i64 (j : Int) ∧ j ≤ N ∧ Hid (Below w7.heap.size w7 wr)) (fun i _ => N - (intOf i).toNat)
                    case atStart => exact ⟨0, rfl, Nat.zero_le _, HBQ⟩
                    case round =>
                      clear HBQ
                      obtain ⟨j, rfl, hj, HBJ⟩ := hrel
                      by_cases hjn : j < N
                      · go_wp2_with fail
                        go_roundw
                        case rel => exact ⟨q + 1, rfl, by omega, HBJ⟩
                        case measure => simp only [intOf]; omega
                      · go_wp2_with fail
                        go_roundw
                        case rel => exact ⟨q + 1, rfl, by omega, HBJ⟩
                        case measure => simp only [intOf]; omega
                  · go_wp2_with fail
                    go_roundw
                    case rel => exact ⟨k + 1, c5, T5, hs5, rfl, by omega, by rw [HFL.out], Lib.hid ⟨HC11.out.below HBQ.out, HL5.out, HOLD.out, below_on HX11.out HBQ.out⟩, Lib.hid (HH11.out.below HBQ.out), HNM, HLT5⟩
                    case measure => simp only [intOf]; omega
        · have hst := CK.step_no her
          have hb : (CK.err c x.d x.bs != 0) = true := by simpa using her
          rw [hb]
          rw [hst] at HC8
          clear her hb hst HL5
          go_wp2_with fail
          go_roundw
          case rel => exact ⟨k + 1, c, T, hs, rfl, by omega, rfl, Lib.hid ⟨HC8.out, HLN.out, HOLD.out, HX8.out⟩, HH8, HMO, Lib.hid (by have := HLT.out; omega)⟩
          case measure => simp only [intOf]; omega
    · go_wp2_with fail
      go_ret
      exact ⟨rfl, HPL.out.bel⟩

theorem own : ownKnob Try.prog.godebug = none := by kernel_rfl
theorem laidOut : laidOutB Try.prog = true := by kernel_rfl
set_option maxRecDepth 100000 in
theorem lifted (os : Os) (started : os.Started) (H : Type) (enc : TypeId × Value → H) :
    ReturnsInHanded {} Try.checked os 6 .any (Rows.clocksHonestSpec.pre6 enc Try.prog Try.f6 [] false) (Rows.clocksHonestSpec.post enc Try.prog Try.f6 false true false false) := by
  refine LK.lifted_bare (C := Try.checked) (tb := 4) own started (by kernel_rfl) Try.func6 laidOut rfl (by kernel_rfl) (by kernel_rfl) Try.underlying4
    (fun ds h => by
      match ds, h with
      | [_, _, _], _ => rfl)
    (ChangeSpec.witness6 (enc := enc) (C := Try.checked) false ⟨#[], #[.int .i64 0, .slice none 0 0, .int .i64 0], []⟩ 8 (by kernel_rfl) (by kernel_rfl) (by kernel_rfl) (by kernel_rfl)) ?_
  intro W base args ds ps hval hA hwt _
  rw [show Try.f6.params.toList = [3, 31, 3] by kernel_rfl] at hA hwt
  have hval' : ∀ (j : Nat) t v, (#[3, 31, 3] : Array TypeId)[j]? = some t → args[j]? = some v → Value.okWide Try.prog W .any base t v := by
    rw [← Try.params6]; exact hval
  clear hval
  obtain ⟨v0, v1, v2, d0, d1, d2, pl0, pl1, pl2, rfl, rfl, rfl, h0, h1, h2⟩ := trodAll_three hA
  obtain ⟨n0, rfl, rfl, rfl, hn0⟩ := open_int Try.underlying3 (hval' 0 3 v0 rfl rfl) h0
  have hr0 : -9223372036854775808 ≤ n0 ∧ n0 ≤ 9223372036854775807 := by simpa [Lit.wf, IntKind.min, IntKind.max, IntKind.signed, IntKind.bits] using hn0
  obtain ⟨A1, c1, xs1, rfl, hO1, hc1, hm1⟩ := open_moves (hval' 1 31 v1 rfl rfl) h1 hwt (j := 1) rfl rfl
  obtain ⟨n2, rfl, rfl, rfl, hn2⟩ := open_int Try.underlying3 (hval' 2 3 v2 rfl rfl) h2
  have hr2 : -9223372036854775808 ≤ n2 ∧ n2 ≤ 9223372036854775807 := by simpa [Lit.wf, IntKind.min, IntKind.max, IntKind.signed, IntKind.bits] using hn2
  exact walk n0 A1 c1 xs1 n2 W hr0 hO1 hc1 hm1 hr2

/-- The statement. -/
theorem proved : Rows.ClocksHonestSaid :=
  OpenClaim.holds_of_wide 6 Try.f6 rfl rfl rfl rfl rfl rfl rfl ⟨rfl, rfl, rfl, rfl, rfl⟩ rfl rfl rfl rfl rfl (by kernel_rfl) Try.func6 (by kernel_rfl)
    (of_decide_eq_true (by kernel_rfl)) (by unfold Func.isWrapper; first | (rw [if_pos (by decide +kernel)]; kernel_rfl) | (rw [if_neg (by decide +kernel)]; exact ⟨rfl, rfl⟩))
    (fun os started H enc _ => lifted os started H enc)

end Go.Proofs.Ytbcpphckjfbkbaa.lawClocksHonest
