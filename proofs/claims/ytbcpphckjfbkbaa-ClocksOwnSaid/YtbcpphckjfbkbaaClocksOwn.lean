/- Numbers that are handed in stay, nil clocks stand at 0, and two sets of clocks do not touch each other; for every number of clocks, every tick and every clock that is asked. -/
import Derived.Test.YtbcpphckjfbkbaaRows
import Derived.Test.YtbcpphckjfbkbaaClkArg
import Derived.Test.YtbcpphckjfbkbaaClkW6
import Derived.Test.YtbcpphckjfbkbaaLawBare
import Derived.JoinedCond
import Derived.OpenShut
namespace Go.Proofs.Ytbcpphckjfbkbaa.lawClocksOwn
open Go Go.RowKit Go.ChangeShapes Go.WideShapes Go.ChangeAt
set_option linter.unusedVariables false
set_option linter.unusedSimpArgs false
theorem app_lits {w1 : World} {ops : Array Oper} {rest : List Oper} {o : Oper} {a : Act} {Q : Exit → Act → World → Prop} (hgd : o.guard = none) (s x : Operand)
    (ho : o.op = .call { callee := .builtin .append, args := #[s, x], argTypes := #[27, 27] })
    (base : Nat) (v : Value) (pre : List Int) (hown : w1.ownsRow base 3 1 v pre.length (i64s pre)) (hb : base ≤ w1.heap.size) (hs : a.eval s = v) (j k : Int) (hx : a.eval x = .slice (some ⟨w1.heap.size, 0, none⟩) 2 2) (hl : (pre.length + 2) * 8 ≤ 140737488355328)
    (h : ∀ v' w2, w2.ownsRow base 3 1 v' (pre ++ [j, k]).length (i64s (pre ++ [j, k])) → Mod v.ownBlock.toList w1 w2 → wpList Try.prog ops Q rest (a.put o.dst v') w2) : wpList Try.prog ops Q (o :: rest) a (w1.alloc (.cells #[.int .i64 j, .int .i64 k] 3)) := by
  obtain ⟨i0, hi, hz0, hz1, hz2⟩ := info_parts info_int
  refine wpList_append_own_at _ hgd s x 27 ho base 3 i0 (.int .i64 0) 1 8 Try.underlying27 hi hz0 hz1 hz2 rfl (by decide) v pre.length (i64s pre) hs (hown.alloc _) ⟨w1.heap.size, 0, none⟩ 2 2 [.int .i64 j, .int .i64 k] hx rfl
    (World.news_of_block (cs := #[.int .i64 j, .int .i64 k]) (t := 3) (fr := (0, 0)) (heap_alloc_new w1 _)) (one_i64 (l := [j, k])) (by unfold maxLen; omega) (by omega) (by rw [World.size_alloc]; omega) ?_
  intro v' w2 hown' hgrow _ _
  refine h v' w2 (by rw [List.length_append, i64s_append]; exact hown') (((Mod.refl _ w1).alloc _).grown hgrow (fun k hk => .inl (by rw [hk]; simp)))
theorem own_cell {w : World} {B n c g : Nat} {xs : List Int} (h : w.ownsRow B 3 1 (.slice (some ⟨g, 0, none⟩) n c) n (i64s xs)) {j : Nat} (hj : j < xs.length) : w.cell? ⟨g, j, none⟩ = some (.int .i64 xs[j]) := by
  have := h.cells (g := g) rfl j (i64 xs[j]) (by simp [i64s, hj])
  rw [Addr.add_lit, Nat.zero_add] at this
  exact this
theorem own_frozen {B n c g : Nat} {w : World} {xs : List Value} (h : w.ownsRow B 3 1 (.slice (some ⟨g, 0, none⟩) n c) n xs) (i : Nat) : w.frozen? ⟨g, i, none⟩ = false := by
  rcases h.2 with ⟨e, _⟩ | ⟨g', cap, cur, e, _, hh, _⟩
  · cases e
  · injection e with e1 _ _
    injection e1 with e1
    injection e1 with e1
    subst e1
    simp [World.frozen?, hh]
theorem own_addr {w : World} {B n : Nat} {v : Value} {xs : List Value} (h : w.ownsRow B 3 1 v n xs) (hn : 0 < n) : ∃ g c, v = .slice (some ⟨g, 0, none⟩) n c ∧ B ≤ g ∧ g < w.heap.size ∧ n ≤ c ∧ c ≤ 9223372036854775807 := by
  have hl := h.1
  rw [Nat.mul_one] at hl
  obtain ⟨g, cap, hv, hb, hlt⟩ := h.form (by omega)
  obtain ⟨A, c, e, h1, h2⟩ := own_shape h
  rw [hv] at e
  injection e with _ _ e3
  subst e3
  exact ⟨g, cap, hv, hb, hlt, h1, h2⟩
set_option maxRecDepth 100000 in
set_option maxHeartbeats 16000000 in
theorem walk (n : Int) (B : Option Addr) (cap : Nat) (x : Mv) (ask : Int) (w : World) (hn : -9223372036854775808 ≤ n ∧ n ≤ 9223372036854775807) (hM : CameM w B cap x) (hask : -9223372036854775808 ≤ ask ∧ ask ≤ 9223372036854775807) :
    Calls Try.prog 7 #[.int .i64 n, .agg #[.int .i64 x.d, .slice B x.bs.length cap], .int .i64 ask] w (LK.True_ w) := by
  have hal := (Below.refl w.heap.size w).alloc (Nat.le_refl _) (.cells #[.int .i64 x.d, .slice B x.bs.length cap] 37)
  have HX := Lib.hid hal
  have HM := Lib.hid (hM.below hal)
  have HW := Lib.hid (Whole.new w 37 #[.int .i64 x.d, .slice B x.bs.length cap])
  have HBO := Lib.hid (fun ad (e : B = some ad) (h0 : 0 < x.bs.length) => show ad.block < w.heap.size by obtain ⟨b, o, e2, hb, _⟩ := hM.ints h0; rw [e2] at e; injection e with e; subst e; exact hb)
  clear hal hM
  go_enter Try.func7, Try.ntmps7
  go_upto_region 1 with (fail)
  generalize w.alloc (.cells #[.int .i64 x.d, .slice B x.bs.length cap] 37) = w0 at HX HM HW ⊢
  generalize hp : w.heap.size = p at HW
  have HP := Lib.hid hp
  clear hp
  go_wp2_with fail
  refine (awake_any w0).mono ?_
  rintro e w1 ⟨rfl, hb⟩
  have HX1 := Lib.hid (below_on HX.out hb)
  have HM1 := Lib.hid (HM.out.below hb)
  have HW1 := Lib.hid ((Mod.of_below hb []).whole HW.out (by simp))
  clear hb HX HM HW
  go_wp2_with fail
  go_cut [47] (fun s wx => s = .bool false ∧ Hid (Below w1.heap.size w1 wx))
  case first =>
    -- BEGIN
    have HS := And.intro (show w1.drew.cell? ⟨p, 0, none⟩ = some (.int .i64 x.d) from HW1.out.cell 0) (show w1.drew.cell? ⟨p, 1, none⟩ = some (.slice B x.bs.length cap) from HW1.out.cell 1)
    have HY := Lib.hid (show IntsAt w1.drew B x.bs from HM1.out.ints)
    have HLX := Lib.hid (show x.bs.length * 8 ≤ 140737488355328 by have := HM1.out.le; have := HM1.out.cap; omega)
    go_region_held3 (fun v : World => v.cell? ⟨p, 0, none⟩ = some (.int .i64 x.d) ∧ v.cell? ⟨p, 1, none⟩ = some (.slice B x.bs.length cap))
      (first
        | exact HS
        | exact And.intro ((Whole.alloc HW1.out _).cell 0) ((Whole.alloc HW1.out _).cell 1)
        | (go_keep; done))
      (first
        | (refine step_app_lit (w := w1.drew) B cap _ x.bs rfl HY.out _ rfl rfl (by rfl) (by rfl) HLX.out ?_; intro A7 n7 c7 w7 hm7; obtain ⟨HN7, HI7, HO7, HB7, k7, k7'⟩ := hm7; have HW7 := Lib.hid ((Mod.of_below (below_of_drew HB7.out) []).whole HW1.out (by simp)); clear HS; have HS := And.intro (show w7.cell? ⟨p, 0, none⟩ = some (.int .i64 x.d) from HW7.out.cell 0) (show w7.cell? ⟨p, 1, none⟩ = some (.slice B x.bs.length cap) from HW7.out.cell 1))
        | (go_at_call 10; refine (Tick_nil _ _ _).mono ?_; rintro e v ⟨rfl, rfl⟩)
        | (go_at_call 15; refine (True_nil _).mono ?_; rintro e v ⟨rfl, rfl⟩)
        | (go_at_call 12; refine (Drift_nil _).mono ?_; rintro e v ⟨rfl, rfl⟩)
        | (go_at_call 16; refine (Len_nil _).mono ?_; rintro e v ⟨rfl, rfl⟩)
        | (go_at_call 11; refine (Now_nil _ _ hask).mono ?_; rintro e v ⟨rfl, rfl⟩))
    all_goals
      go_wp2_with fail
      go_meet
      exact ⟨by first | rfl | simp, Lib.hid (below_of_drew HB7.out)⟩
    -- END
  case rest =>
    obtain ⟨rfl, HB2⟩ := hcut
    have HX2 := Lib.hid (below_on HX1.out HB2.out)
    have HM2 := Lib.hid (HM1.out.below HB2.out)
    have HW2 := Lib.hid ((Mod.of_below HB2.out []).whole HW1.out (by simp))
    clear HX1 HM1 HW1 HB2
    by_cases hbad : n < 1 ∨ 8 < n
    · go_wp2_with fail
      refine (New_no n wc hbad hn).mono ?_
      rintro e w2 ⟨rfl, rfl⟩
      go_wp2_with fail
      refine (New_no n wc hbad hn).mono ?_
      rintro e w2 ⟨rfl, rfl⟩
      go_wp2_with fail
      go_ret
      exact ⟨rfl, HX2.out⟩
    obtain ⟨N, rfl⟩ : ∃ N : Nat, n = (N : Int) := ⟨n.toNat, by omega⟩
    have hN : 1 ≤ N ∧ N ≤ 8 := by omega
    clear hbad
    go_wp2_with fail
    refine (New_ok N wc hN).mono ?_
    rintro e w3 ⟨rfl, hc, hb⟩
    have HX3 := Lib.hid (below_on HX2.out hb)
    have HM3 := Lib.hid (HM2.out.below hb)
    have HW3 := Lib.hid ((Mod.of_below hb []).whole HW2.out (by simp))
    have HC3 := Lib.hid hc
    have HPG := Lib.hid (show p < wc.heap.size from HW2.out.lt)
    have HG := Lib.hid HX2.out.size
    clear hb hc HX2 HM2 HW2
    generalize wc.heap.size = g at HPG HG HC3 ⊢
    go_wp2_with fail
    refine (New_ok N w3 hN).mono ?_
    rintro e w4 ⟨rfl, hc, hb⟩
    have HX4 := Lib.hid (below_on HX3.out hb)
    have HM4 := Lib.hid (HM3.out.below hb)
    have HW4 := Lib.hid ((Mod.of_below hb []).whole HW3.out (by simp))
    have HC4 := Lib.hid (HC3.out.below hb)
    have HD4 := Lib.hid hc
    have HGG := Lib.hid (show g < w3.heap.size from HC3.out.lt)
    clear hb hc HX3 HM3 HW3 HC3
    generalize w3.heap.size = g2 at HGG HD4 ⊢
    have p1 : w4.cell? ⟨p, 1, none⟩ = some (.slice B x.bs.length cap) := HW4.out.cell 1
    have p1' : (w4.alloc (.cells #[] 3)).cell? ⟨p, 1, none⟩ = some (.slice B x.bs.length cap) := (Whole.alloc HW4.out _).cell 1
    have HLX := Lib.hid (show x.bs.length * 8 ≤ 140737488355328 ∧ (x.bs.length + 2) * 8 ≤ 140737488355328 by have := HM4.out.le; have := HM4.out.cap; omega)
    go_wp2_with (first
      | (at_builtin; refine app_all rfl (.tmp 70) (.tmp 72) rfl B cap _ x.bs rfl HM4.out.ints _ rfl rfl rfl HLX.out.1 ?_; intro A5 n5 c5 w5 hm5; obtain ⟨HN5, HI5, HO5, HB5, k5, k5'⟩ := hm5; have e5 := HN5.out; subst e5; have HS5 := Lib.hid HB5.out.size)
      | (at_builtin; refine app_lits rfl (.tmp 73) (.tmp 74) rfl w4.heap.size _ x.bs HO5.out HS5.out rfl (-91) (-92) rfl HLX.out.2 ?_; intro v6 w6 ho6 hm6; have HO6 := Lib.hid ho6; have HM6 := Lib.hid hm6; clear ho6 hm6))
    have hmm : Below w4.heap.size w4 w6 := HB5.out.trans (HM6.out.below HS5.out (fun k hk => by
      have := HO5.out.lt k (by simpa using hk)
      omega))
    have HX6 := Lib.hid (below_on HX4.out hmm)
    have HM7 := Lib.hid (HM4.out.below hmm)
    have HW6 := Lib.hid ((Mod.of_below hmm []).whole HW4.out (by simp))
    have HC6 := Lib.hid (HC4.out.below hmm)
    have HD6 := Lib.hid (HD4.out.below hmm)
    obtain ⟨f, cf, e6, hf1, hf2, hf3, hf4⟩ := own_addr HO6.out (by rw [List.length_append]; simp)
    subst e6
    have HFF := Lib.hid (show f ≠ g ∧ f ≠ g2 ∧ f ≠ p ∧ w.heap.size ≤ f by
      have h1 := HC4.out.lt
      have h2 := HD4.out.lt
      have h3 := HW4.out.lt
      have h4 := HX4.out.size
      omega)
    have HLL := Lib.hid (show (x.bs ++ [-91, -92]).length = x.bs.length + 2 by rw [List.length_append]; rfl)
    have HIT := Lib.hid (show IntsAt w6 (some ⟨f, 0, none⟩) x.bs by have := (IntsAt.own HO6.out).take x.bs.length; rwa [List.take_left] at this)
    have HLA := Lib.hid (fun i (h : i < x.bs.length) (h2 : i < (x.bs ++ [-91, -92]).length) => show (x.bs ++ [-91, -92])[i] = x.bs[i] from List.getElem_append_left h)
    have HLB := Lib.hid (fun i (h : x.bs.length ≤ i) (h2 : i < (x.bs ++ [-91, -92]).length) => show (x.bs ++ [-91, -92])[i] = -91 - (i : Int) + (x.bs.length : Int) from by
      rw [List.getElem_append_right h]
      have h3 : i = x.bs.length ∨ i = x.bs.length + 1 := by have := HLL.out; omega
      rcases h3 with rfl | rfl
      · simp
      · simp only [Nat.add_sub_cancel_left]
        show (-92 : Int) = _
        omega)
    clear hmm HX4 HM4 HW4 HC4 HD4 HB5 HO5 HI5 HN5 HM6 hf1 hf2 p1 p1' k5 k5'
    have hcf : x.bs.length ≤ cf := by rw [HLL.out] at hf3; omega
    have hlz : x.bs.length + 2 ≤ 17592186044416 := by have := HLX.out; omega
    generalize hL : (x.bs ++ [-91, -92]) = L at *
    have HLeq := Lib.hid hL
    clear hL
    rw [HLL.out] at HO6
    rw [HLL.out]
    have p0 : w6.cell? ⟨p, 0, none⟩ = some (.int .i64 x.d) := HW6.out.cell 0
    have p1 : w6.cell? ⟨p, 1, none⟩ = some (.slice B x.bs.length cap) := HW6.out.cell 1
    have p0' : w6.drew.cell? ⟨p, 0, none⟩ = some (.int .i64 x.d) := p0
    have p1' : w6.drew.cell? ⟨p, 1, none⟩ = some (.slice B x.bs.length cap) := p1
    have HTK := Lib.hid (Tick_any (w := w6.drew) (g := g) HC6.out.drew x.d (some ⟨f, 0, none⟩) cf x.bs HIT.out (fun ad e => by injection e with e; subst e; exact HFF.out.1) hcf hf4 HM7.out.d HM7.out.bs)
    generalize CK.err (CK.zero N) x.d x.bs = er at *
    generalize CK.step (CK.zero N) x.d x.bs = c5 at *
    go_cut [84] (fun s wx => s = .int .i64 er ∧ Hid (ClkAt wx g c5) ∧ Hid (Mod [g] w6 wx))
    case first =>
      go_region_with (go_at_call 10; refine HTK.out.mono ?_; rintro e w8 ⟨rfl, HC8, HM8⟩)
      all_goals
        go_wp2_with fail
        go_meet
        exact ⟨rfl, HC8, Lib.hid HM8.out.from_drew⟩
    case rest =>
      obtain ⟨rfl, HC8, HMG⟩ := hcut
      clear p0 p1 p0' p1' HTK
      have HD8 := Lib.hid (HD6.out.mod HMG.out (by have := HGG.out; simp; omega))
      have HW8 := Lib.hid (HMG.out.whole HW6.out (by simp; have := HPG.out; omega))
      have HO8 := Lib.hid (HMG.out.own HO6.out (fun k hk => by
        have e : f = k := by simpa [Value.ownBlock] using hk
        subst e
        simpa using HFF.out.1))
      have HX8 := Lib.hid (HX6.out.trans (HMG.out.below HX6.out.size (by simpa using HG.out)))
      have HI8 := Lib.hid (show IntsAt wc B x.bs from by
        by_cases h0 : 0 < x.bs.length
        · exact HM7.out.ints.mod HMG.out (fun ad e hg => by
            rw [List.mem_singleton] at hg
            have h1 := HBO.out ad e h0
            have h2 := HG.out
            omega)
        · exact fun h => absurd h h0)
      clear HC6 HD6 HW6 HO6 HX6 HIT HMG HM7
      have p1 : wc.cell? ⟨p, 1, none⟩ = some (.slice B x.bs.length cap) := HW8.out.cell 1
      go_wp2_with fail
      clear p1
      go_loopw [13, 88] (fun _ i wr => ∃ j : Nat, i = .int .i64 (j : Int) ∧ j ≤ x.bs.length ∧ Hid (Below wc.heap.size wc wr)) (fun _ i _ => x.bs.length - (intOf i).toNat)
      case atStart => exact ⟨0, rfl, Nat.zero_le _, Lib.hid (Below.refl _ _)⟩
      case round =>
        obtain ⟨j, rfl, hj, HB⟩ := hrel
        by_cases hjn : j < x.bs.length
        · have hjL : j < L.length := by rw [HLL.out]; omega
          have HW9 := Lib.hid ((Mod.of_below HB.out []).whole HW8.out (by simp))
          have HO9 := Lib.hid ((Mod.of_below HB.out []).own HO8.out (by simp))
          obtain ⟨b, o, eB, hb, hcell⟩ := ints_cell (HI8.out.below HB.out) hjn
          have p1 : wr.cell? ⟨p, 1, none⟩ = some (.slice B x.bs.length cap) := HW9.out.cell 1
          rw [eB] at p1
          have c1 := own_cell HO9.out hjL
          rw [HLA.out j hjn hjL] at c1
          clear eB
          generalize x.bs[j] = t at hcell c1
          have q1 : wr.drew.cell? ⟨p, 1, none⟩ = some (.slice (some ⟨b, o, none⟩) x.bs.length cap) := p1
          have q2 : wr.drew.cell? ⟨b, o + j, none⟩ = some (.int .i64 t) := hcell
          have q3 : wr.drew.cell? ⟨f, j, none⟩ = some (.int .i64 t) := c1
          go_wp2_with fail
          go_region
          all_goals
            go_wp2_with fail
            go_roundw
            case rel => exact ⟨j + 1, rfl, by omega, Lib.hid (Below.drew HB.out)⟩
            case measure => simp only [intOf]; omega
        · have HC9 := Lib.hid (HC8.out.below HB.out)
          have HD9 := Lib.hid (HD8.out.below HB.out)
          have HW9 := Lib.hid ((Mod.of_below HB.out []).whole HW8.out (by simp))
          have HO9 := Lib.hid ((Mod.of_below HB.out []).own HO8.out (by simp))
          have HX9 := Lib.hid (below_on HX8.out HB.out)
          clear HC8 HD8 HW8 HO8 HX8 HI8 HB
          go_wp2_with fail
          refine (Now_any HC9.out ask hask).mono ?_
          rintro e v ⟨rfl, rfl⟩
          go_wp2_with fail
          go_loopw [15, 107] (fun _ i wx => ∃ (k : Nat) (L2 : List Int), i = .int .i64 (k : Int) ∧ k ≤ x.bs.length + 2 ∧ Hid (L2.length = L.length) ∧ Hid (∀ i, k ≤ i → L2[i]? = L[i]?) ∧ Hid (wx.ownsRow w4.heap.size 3 1 (.slice (some ⟨f, 0, none⟩) (x.bs.length + 2) cf) (x.bs.length + 2) (i64s L2)) ∧ Hid (Mod [f] wr wx)) (fun _ i _ => x.bs.length + 2 - (intOf i).toNat)
          case atStart => exact ⟨0, L, rfl, Nat.zero_le _, Lib.hid rfl, Lib.hid (fun _ _ => rfl), HO9, Lib.hid (Mod.refl _ _)⟩
          case round =>
            obtain ⟨k, L2, rfl, hk, HL2, HTL, HO, HM⟩ := hrel
            have HW10 := Lib.hid (HM.out.whole HW9.out (by have := HFF.out; simp; omega))
            by_cases hkn : k < x.bs.length + 2
            · have hkL : k < L.length := by rw [HLL.out]; exact hkn
              have hkL2 : k < L2.length := by rw [HL2.out]; exact hkL
              have HLK := Lib.hid (show L2[k] = L[k] from by
                have := HTL.out k (Nat.le_refl _)
                rw [List.getElem?_eq_getElem hkL, List.getElem?_eq_getElem hkL2] at this
                exact Option.some.inj this)
              have c1 := own_cell HO.out hkL2
              have fz := own_frozen HO.out k
              have p1 : wr.cell? ⟨p, 1, none⟩ = some (.slice B x.bs.length cap) := HW10.out.cell 1
              have q1 : wr.drew.cell? ⟨p, 1, none⟩ = some (.slice B x.bs.length cap) := p1
              have HNX := Lib.hid (show ∃ L3 : List Int, L3.length = L.length ∧ (∀ i, k + 1 ≤ i → L3[i]? = L[i]?) ∧ (wr.setCell ⟨f, k, none⟩ (.int .i64 7)).ownsRow w4.heap.size 3 1 (.slice (some ⟨f, 0, none⟩) (x.bs.length + 2) cf) (x.bs.length + 2) (i64s L3) from by
                refine ⟨L2.set k 7, by rw [List.length_set]; exact HL2.out, fun i hi => by rw [List.getElem?_set_ne (by omega)]; exact HTL.out i (by omega), ?_⟩
                have := (HO.out.stored k (.int .i64 7)).1
                unfold i64s at this ⊢
                rw [List.map_set]
                exact this)
              by_cases hge : x.bs.length ≤ k
              · have c2 : wr.cell? ⟨f, k, none⟩ = some (.int .i64 (-91 - (k : Int) + (x.bs.length : Int))) := by rw [c1, HLK.out, HLB.out k hge hkL]
                have q2 : wr.drew.cell? ⟨f, k, none⟩ = some (.int .i64 (-91 - (k : Int) + (x.bs.length : Int))) := c2
                have hw1 : IntKind.i64.wrap (-91 - (k : Int)) = -91 - (k : Int) := by rw [IntKind.wrap_i64]; omega
                have hw2 : IntKind.i64.wrap (-91 - (k : Int) + (x.bs.length : Int)) = -91 - (k : Int) + (x.bs.length : Int) := by rw [IntKind.wrap_i64]; omega
                have hd1 : decide ((x.bs.length : Int) ≤ (k : Int)) = true := decide_eq_true (by omega)
                clear c1
                go_wp2_with fail
                go_region
                all_goals
                  go_wp2_with fail
                  go_roundw
                  case rel =>
                    obtain ⟨L3, h1, h2, h3⟩ := HNX.out
                    exact ⟨k + 1, L3, rfl, by omega, Lib.hid h1, Lib.hid h2, Lib.hid h3, Lib.hid (HM.out.store (p := ⟨f, k, none⟩) (.inl (by simp)) _).drew⟩
                  case measure => simp only [intOf]; omega
              · have hd1 : decide ((x.bs.length : Int) ≤ (k : Int)) = false := decide_eq_false (by omega)
                go_wp2_with fail
                go_region
                all_goals
                  go_wp2_with fail
                  go_roundw
                  case rel =>
                    obtain ⟨L3, h1, h2, h3⟩ := HNX.out
                    exact ⟨k + 1, L3, rfl, by omega, Lib.hid h1, Lib.hid h2, Lib.hid h3, Lib.hid (HM.out.store (p := ⟨f, k, none⟩) (.inl (by simp)) _).drew⟩
                  case measure => simp only [intOf]; omega
            · have HC10 := Lib.hid (HC9.out.mod HM.out (by have := HFF.out; simp; omega))
              have HD10 := Lib.hid (HD9.out.mod HM.out (by have := HFF.out; simp; omega))
              have HX10 := Lib.hid (HX9.out.trans (HM.out.below HX9.out.size (by simpa using HFF.out.2.2.2)))
              have hz0 : CK.now (CK.zero N) 0 = 0 := by
                unfold CK.now CK.zero
                simp only [Int.lt_irrefl, if_false, Int.toNat_zero]
                rw [List.getElem?_replicate]
                split <;> rfl
              have HZ0 := Lib.hid hz0
              clear hz0
              go_wp2_with fail
              refine (Now_any HC10.out ask hask).mono ?_
              rintro e v ⟨rfl, rfl⟩
              go_wp2_with fail
              refine (True_any HD10.out).mono ?_
              rintro e v ⟨rfl, rfl⟩
              rw [show (CK.zero N).tr = 0 from rfl]
              go_wp2_with fail
              refine (Now_any HD10.out 0 (by decide)).mono ?_
              rintro e v ⟨rfl, rfl⟩
              rw [HZ0.out]
              go_wp2_with fail
              refine (Drift_any HD10.out).mono ?_
              rintro e v ⟨rfl, rfl⟩
              rw [show (CK.zero N).dr = 0 from rfl]
              go_wp2_with fail
              go_ret
              exact ⟨rfl, HX10.out⟩

theorem own : ownKnob Try.prog.godebug = none := by kernel_rfl
theorem laidOut : laidOutB Try.prog = true := by kernel_rfl
set_option maxRecDepth 100000 in
theorem lifted (os : Os) (started : os.Started) (H : Type) (enc : TypeId × Value → H) :
    ReturnsInHanded {} Try.checked os 7 .any (Rows.clocksOwnSpec.pre6 enc Try.prog Try.f7 [] false) (Rows.clocksOwnSpec.post enc Try.prog Try.f7 false true false false) := by
  refine LK.lifted_bare (C := Try.checked) (tb := 4) own started (by kernel_rfl) Try.func7 laidOut rfl (by kernel_rfl) (by kernel_rfl) Try.underlying4
    (fun ds h => by
      match ds, h with
      | [_, _, _], _ => rfl)
    (ChangeSpec.witness6 (enc := enc) (C := Try.checked) false ⟨#[], #[.int .i64 0, .agg #[.int .i64 0, .slice none 0 0], .int .i64 0], []⟩ 8 (by kernel_rfl) (by kernel_rfl) (by kernel_rfl) (by kernel_rfl)) ?_
  intro W base args ds ps hval hA hwt _
  rw [show Try.f7.params.toList = [3, 37, 3] by kernel_rfl] at hA hwt
  have hval' : ∀ (j : Nat) t v, (#[3, 37, 3] : Array TypeId)[j]? = some t → args[j]? = some v → Value.okWide Try.prog W .any base t v := by
    rw [← Try.params7]; exact hval
  clear hval
  obtain ⟨v0, v1, v2, d0, d1, d2, pl0, pl1, pl2, rfl, rfl, rfl, h0, h1, h2⟩ := trodAll_three hA
  obtain ⟨n0, rfl, rfl, rfl, hn0⟩ := open_int Try.underlying3 (hval' 0 3 v0 rfl rfl) h0
  have hr0 : -9223372036854775808 ≤ n0 ∧ n0 ≤ 9223372036854775807 := by simpa [Lit.wf, IntKind.min, IntKind.max, IntKind.signed, IntKind.bits] using hn0
  obtain ⟨A1, c1, x1, rfl, hC1⟩ := open_move (hval' 1 37 v1 rfl rfl) h1 hwt (j := 1) rfl rfl
  obtain ⟨n2, rfl, rfl, rfl, hn2⟩ := open_int Try.underlying3 (hval' 2 3 v2 rfl rfl) h2
  have hr2 : -9223372036854775808 ≤ n2 ∧ n2 ≤ 9223372036854775807 := by simpa [Lit.wf, IntKind.min, IntKind.max, IntKind.signed, IntKind.bits] using hn2
  exact walk n0 A1 c1 x1 n2 W hr0 hC1 hr2

/-- The statement. -/
theorem proved : Rows.ClocksOwnSaid :=
  OpenClaim.holds_of_wide 7 Try.f7 rfl rfl rfl rfl rfl rfl rfl ⟨rfl, rfl, rfl, rfl, rfl⟩ rfl rfl rfl rfl rfl (by kernel_rfl) Try.func7 (by kernel_rfl)
    (of_decide_eq_true (by kernel_rfl)) (by unfold Func.isWrapper; first | (rw [if_pos (by decide +kernel)]; kernel_rfl) | (rw [if_neg (by decide +kernel)]; exact ⟨rfl, rfl⟩))
    (fun os started H enc _ => lifted os started H enc)

end Go.Proofs.Ytbcpphckjfbkbaa.lawClocksOwn
