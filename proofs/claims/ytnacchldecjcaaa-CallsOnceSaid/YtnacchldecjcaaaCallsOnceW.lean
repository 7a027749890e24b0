/- The walk of CallsOnce: it answers true, and old memory stands. -/
import Derived.Test.YtnacchldecjcaaaRows
import Derived.Test.YtnacchldecjcaaaCaC
import Derived.Test.YtnacchldecjcaaaCaArg
import Derived.Test.YtnacchldecjcaaaCaOnce
import Derived.Test.YtnacchldecjcaaaLaw
import Derived.JoinedCond
import Derived.OpenShut
import Derived.Deep.CutBlock
namespace Go.Proofs.Ytnacchldecjcaaa.lawCallsOnce
open Go Go.RowKit Go.ChangeShapes Go.WideShapes Go.ChangeAt
set_option linter.unusedVariables false
set_option linter.unusedSimpArgs false
open CA (Cl St)
open WM (Msg)
set_option maxRecDepth 100000
set_option maxHeartbeats 16000000 in
theorem walk (n0 : Int) (A1 : Option Addr) (c1 : Nat) (os : List Op) (w : World) (hr0 : -9223372036854775808 ≤ n0 ∧ n0 ≤ 9223372036854775807) (hO : OpsAt w A1 os) (hc : os.length ≤ c1) (hm : c1 * 112 ≤ 140737488351232) (hW : ∀ o ∈ os, OpW o) :
    Calls Try.prog 4 #[.int .i64 n0, .slice A1 os.length c1] w (LK.True_ w) := by
  have HO := Lib.hid hO
  have HW := Lib.hid hW
  obtain ⟨n, hn⟩ : ∃ n, os.length = n := ⟨_, rfl⟩
  have HN := Lib.hid hn
  have HC1 := Lib.hid (show n ≤ c1 by omega)
  have hn47 : n ≤ 140737488351232 := by omega
  rw [hn]
  clear hO hW hc hm hn
  go_enter Try.func4, Try.ntmps4
  go_wp2_with fail
  refine (awake_any w).mono ?_
  rintro e w1 ⟨rfl, hb⟩
  have HB1 := Lib.hid hb
  clear hb
  by_cases hbt : ¬ (1 ≤ n0 ∧ n0 ≤ 1099511627776)
  · as_aux_lemma =>
      go_wp2_with fail
      refine (New_no n0 w1 hbt).mono ?_
      rintro e w2 ⟨rfl, rfl⟩
      by_cases h1 : n0 < 1
      · go_wp2_with fail
        go_ret
        exact ⟨rfl, HB1.out⟩
      · have h2 : 1099511627776 < n0 := by omega
        go_wp2_with fail
        go_ret
        exact ⟨rfl, HB1.out⟩
  have hbt := Classical.not_not.1 hbt
  go_wp2_with fail
  refine (New_yes n0 w1 hbt).mono ?_
  rintro e w2 ⟨rfl, hc, hb, hs⟩
  have HS0 := Lib.hid (show K2 w w2 (w1.heap.size + 1) w1.heap.size (CA.new n0) (.slice none 0 0) [] from ⟨K1.start HB1.out hc hb, World.ownsRow_nil _ _ _ _⟩)
  have HSN := Lib.hid (Sn.new n0)
  generalize w1.heap.size + 1 = g at HS0 ⊢
  generalize hM : w1.heap.size = M at HS0
  have HMM := Lib.hid hM
  have HBT := Lib.hid hbt
  clear hc hb hs hM hbt hr0
  go_wp2_with fail
  go_loopw [49, 7, 8] (fun i l v wx => ∃ (k : Nat) (s : St) (xs : List Int), i = .int .i64 (k : Int) ∧ k ≤ n ∧ k ≤ 301 ∧ l = .int .i64 (xs.length : Int) ∧ Hid (K2 w wx g M s v xs) ∧ Hid (Sn n0 s xs k)) (fun i _ _ _ => n - (intOf i).toNat)
  case atStart => exact ⟨0, CA.new n0, [], rfl, by omega, by omega, rfl, HS0, HSN⟩
  case round =>
    obtain ⟨k, s, xs, rfl, hk, hk2, rfl, HS, HSN⟩ := hrel
    by_cases hlt : k < n
    rotate_left
    · obtain rfl : k = n := by omega
      as_aux_lemma =>
        go_wp2_with fail
        go_ret
        exact ⟨rfl, HS.out.st.below⟩
    have hw : IntKind.i64.wrap ((k : Int) + 1) = (k : Int) + 1 := IntWalk.i64_in _ (by omega)
    have d1 : (k : Int) < (n : Int) := by omega
    have d2 : (0 : Int) ≤ (k : Int) := by omega
    obtain ⟨bo, oo, hA, hbo, hxs⟩ := HO.out (by have := HN.out; omega)
    subst hA
    have hko : k < os.length := by rw [HN.out]; exact hlt
    have hc13 := hxs k (os[k]'hko) (List.getElem?_eq_getElem hko)
    have hbb := HS.out.st.below
    have HWO := Lib.hid (HW.out _ (List.getElem_mem hko))
    have hcell : ∀ j v, (c13 (os[k]'hko))[j]? = some v → wr.cell? ⟨bo, oo + k * 13 + j, none⟩ = some v := fun j v hv => by have := (hbb.cell (p := ⟨bo, oo + (k * 13 + j), none⟩) hbo).trans (hc13 j v hv); rwa [← Nat.add_assoc] at this
    clear hxs hc13 hbb hbo
    generalize os[k]'hko = o at hcell HWO
    clear hko
    have a0 := hcell 0 _ rfl
    have a1 := hcell 1 _ rfl
    have a2 := hcell 2 _ rfl
    have a3 := hcell 3 _ rfl
    have a4 := hcell 4 _ rfl
    have a5 := hcell 5 _ rfl
    have a6 := hcell 6 _ rfl
    have a7 := hcell 7 _ rfl
    have a8 := hcell 8 _ rfl
    have a9 := hcell 9 _ rfl
    have a10 := hcell 10 _ rfl
    have a11 := hcell 11 _ rfl
    have a12 := hcell 12 _ rfl
    simp only [Nat.add_zero] at a0
    clear hcell
    have HS3 := Lib.hid (HS.out.box (.cells #[.int .i64 o.kind, .int .i64 o.n, .int .i64 o.frm, .int .i64 o.x.seq, .int .i64 o.x.dst, .int .i64 o.x.verb, .string o.x.path, .int .i64 o.x.mode, .int .i64 o.x.term, .int .i64 o.x.id, .bool o.x.fresh, .int .i64 o.x.sent, .int .i64 o.x.tries] 39))
    have HOW := Lib.hid (Whole.new wr 39 #[.int .i64 o.kind, .int .i64 o.n, .int .i64 o.frm, .int .i64 o.x.seq, .int .i64 o.x.dst, .int .i64 o.x.verb, .string o.x.path, .int .i64 o.x.mode, .int .i64 o.x.term, .int .i64 o.x.id, .bool o.x.fresh, .int .i64 o.x.sent, .int .i64 o.x.tries])
    go_upto_region 11 with (fail)
    clear a0 a1 a2 a3 a4 a5 a6 a7 a8 a9 a10 a11 a12 HS
    generalize wr.heap.size = go at HOW ⊢
    generalize wr.alloc (.cells #[.int .i64 o.kind, .int .i64 o.n, .int .i64 o.frm, .int .i64 o.x.seq, .int .i64 o.x.dst, .int .i64 o.x.verb, .string o.x.path, .int .i64 o.x.mode, .int .i64 o.x.term, .int .i64 o.x.id, .bool o.x.fresh, .int .i64 o.x.sent, .int .i64 o.x.tries] 39) = w3 at HS3 HOW ⊢
    by_cases h300 : (300 : Int) < (k : Int)
    · as_aux_lemma =>
        go_wp2_with fail
        go_ret
        exact ⟨rfl, HS3.out.st.below⟩
    have hk300 : k ≤ 300 := by omega
    have o0 : w3.cell? ⟨go, 0, none⟩ = some (.int .i64 o.kind) := HOW.out.cell 0
    have o1 : w3.cell? ⟨go, 1, none⟩ = some (.int .i64 o.n) := HOW.out.cell 1
    go_upto_block 2 with (fail)
    have HLEN := Lib.hid HSN.out.len
    go_cut [7, 8, 11, 12, 13, 14, 15, 16] from 57 to 113 (fun l v t11 t12 t13 t14 t15 t16 wx => ∃ (s : St) (xs : List Int), l = .int .i64 (xs.length : Int) ∧ Hid (K2 w wx g M s v xs) ∧ Hid (Sn n0 s xs (k + 1)))
    case first =>
      by_cases n2 : o.kind = 2
      · have e2 : (o.kind == 2) = true := by simpa using n2
        clear n2
        as_aux_lemma =>
          go_wp2_with fail
          refine (Again_any HS3.out.st.at_ o.n).mono ?_
          rintro e w5 ⟨rfl, ht⟩
          have HS4 := Lib.hid (HS3.out.put1 ht)
          clear ht HS3 HOW o0 o1
          generalize aggC _ = v5
          go_wp2_with fail
          go_meet
          exact ⟨_, xs, rfl, HS4, Lib.hid (HSN.out.again (by omega) o.n)⟩
      · by_cases n3 : o.kind = 3
        · have e2 : (o.kind == 2) = false := by simpa using n2
          have e3 : (o.kind == 3) = true := by simpa using n3
          clear n2 n3
          as_aux_lemma =>
            go_wp2_with fail
            refine (Close_any HS3.out.st.at_ o.n).mono ?_
            rintro e w5 ⟨rfl, ht⟩
            have HS4 := Lib.hid (HS3.out.put1 ht)
            have HOW4 := Lib.hid (HS3.out.st.far1 HOW.out (by decide) ht)
            have HQ := Lib.hid (show CA.has s o.n = true → (CA.get s o.n).seq = o.n from fun h => (CA.get_mem h).2)
            have HGN := Lib.hid (show CA.has (CA.close s o.n) o.n = false by
              cases hh : CA.has (CA.close s o.n) o.n with
              | false => rfl
              | true =>
                obtain ⟨x, hx, e⟩ := CA.has_iff.1 hh
                have := (List.mem_filter.1 hx).2
                simp [e] at this)
            clear ht HS3 HOW o0 o1
            generalize hgx : CA.get s o.n = x at *
            clear hgx
            generalize CA.has s o.n = hs at *
            have HS5 := Lib.hid (HS4.out.box (.cells (ten x) 32))
            have HX5 := Lib.hid (show ClBlk (w5.alloc (.cells (ten x) 32)) w5.heap.size x from Whole.new w5 _ _)
            have HOW5 := Lib.hid (HOW4.out.alloc (.cells (ten x) 32))
            clear HS4 HOW4
            unfold aggC
            rw [show ten x = #[.int .i64 x.seq, .int .i64 x.dst, .int .i64 x.verb, .string x.path, .int .i64 x.mode, .int .i64 x.term, .int .i64 x.id, .bool x.fresh, .int .i64 x.sent, .int .i64 x.tries] from rfl] at HS5 HX5 HOW5 ⊢
            go_upto_region 25 with (fail)
            generalize w5.alloc _ = w6 at HS5 HX5 HOW5 ⊢
            generalize w5.heap.size = p at HX5 ⊢
            have o1 : w6.cell? ⟨go, 1, none⟩ = some (.int .i64 o.n) := HOW5.out.cell 1
            go_wp2_with fail
            clear o1
            refine (Get_any HS5.out.st.at_ o.n).mono ?_
            rintro e w7 ⟨rfl, hb⟩
            have HS6 := Lib.hid (HS5.out.on hb)
            have HX6 := Lib.hid (show ClBlk w7 p x from blk_on HX5.out hb)
            have HOW6 := Lib.hid (blk_on HOW5.out hb)
            rw [HGN.out]
            clear hb HS5 HX5 HOW5 HGN
            generalize CA.get _ o.n = y
            have HS7 := Lib.hid (HS6.out.box (.cells (ten y) 32))
            have HX7 := Lib.hid (show ClBlk (w7.alloc (.cells (ten y) 32)) p x from HX6.out.alloc _)
            have HOW7 := Lib.hid (HOW6.out.alloc (.cells (ten y) 32))
            clear HS6 HX6 HOW6
            unfold aggC
            rw [show ten y = #[.int .i64 y.seq, .int .i64 y.dst, .int .i64 y.verb, .string y.path, .int .i64 y.mode, .int .i64 y.term, .int .i64 y.id, .bool y.fresh, .int .i64 y.sent, .int .i64 y.tries] from rfl] at HS7 HX7 HOW7 ⊢
            go_upto_region 26 with (fail)
            generalize w7.alloc _ = w8 at HS7 HX7 HOW7 ⊢
            generalize w7.heap.size = p2
            have o1 : w8.cell? ⟨go, 1, none⟩ = some (.int .i64 o.n) := HOW7.out.cell 1
            have x0 : w8.cell? ⟨p, 0, none⟩ = some (.int .i64 x.seq) := HX7.out.cell 0
            cases hs with
            | false =>
              go_wp2_with fail
              go_meet
              exact ⟨_, xs, rfl, HS7, Lib.hid (HSN.out.close o.n)⟩
            | true =>
              have hq := HQ.out rfl
              rw [hq] at x0
              go_wp2_with fail
              go_meet
              exact ⟨_, xs, rfl, HS7, Lib.hid (HSN.out.close o.n)⟩
        · have e2 : (o.kind == 2) = false := by simpa using n2
          have e3 : (o.kind == 3) = false := by simpa using n3
          clear n2 n3
          obtain ⟨q0, q1, q2, q3, q4, q5, q6, q7, q8, q9⟩ : w3.cell? ⟨go, 3, none⟩ = some (.int .i64 o.x.seq) ∧ w3.cell? ⟨go, 4, none⟩ = some (.int .i64 o.x.dst) ∧ w3.cell? ⟨go, 5, none⟩ = some (.int .i64 o.x.verb) ∧ w3.cell? ⟨go, 6, none⟩ = some (.string o.x.path) ∧ w3.cell? ⟨go, 7, none⟩ = some (.int .i64 o.x.mode) ∧ w3.cell? ⟨go, 8, none⟩ = some (.int .i64 o.x.term) ∧ w3.cell? ⟨go, 9, none⟩ = some (.int .i64 o.x.id) ∧ w3.cell? ⟨go, 10, none⟩ = some (.bool o.x.fresh) ∧ w3.cell? ⟨go, 11, none⟩ = some (.int .i64 o.x.sent) ∧ w3.cell? ⟨go, 12, none⟩ = some (.int .i64 o.x.tries) := ⟨HOW.out.cell 3, HOW.out.cell 4, HOW.out.cell 5, HOW.out.cell 6, HOW.out.cell 7, HOW.out.cell 8, HOW.out.cell 9, HOW.out.cell 10, HOW.out.cell 11, HOW.out.cell 12⟩
          as_aux_lemma =>
            go_wp2_with fail
            clear q0 q1 q2 q3 q4 q5 q6 q7 q8 q9
            refine (Open_any HS3.out.st.at_ o.n o.x HWO.out.x).mono ?_
            rintro e w5 ⟨rfl, ht⟩
            have HS4 := Lib.hid (HS3.out.put2 ht)
            have HOW4 := Lib.hid (HS3.out.st.far2 HOW.out (by decide) ht)
            have HINV := Lib.hid HS3.out.st.at_.inv
            clear ht HS3 HOW o0 o1 e2 e3
            by_cases hf : CA.fault s o.n o.x = 0
            · have hg1 : CA.given s o.n o.x = (xs.length : Int) + 1 := by unfold CA.given; rw [if_pos hf]; exact HSN.out.next
              have hg2 : CA.start s o.n o.x = CA.put s o.n o.x := by unfold CA.start; rw [if_pos hf]
              rw [hg2] at HS4
              rw [hf, hg1]
              have hwx : IntKind.i64.wrap ((xs.length : Int) + 1) = (xs.length : Int) + 1 := IntWalk.i64_in _ (by have := HLEN.out; omega)
              have o1 : w5.cell? ⟨go, 1, none⟩ = some (.int .i64 o.n) := HOW4.out.cell 1
              clear hf hg1 hg2
              go_wp2_with (first
                | (at_builtin; refine K2.app HS4.out rfl (.tmp 76) (.tmp 79) rfl rfl o.n rfl (by have := HLEN.out; omega) ?_; intro v6 w6 hk6; have HS6 := Lib.hid hk6; clear hk6))
              go_meet
              exact ⟨_, xs ++ [o.n], by rw [List.length_append, List.length_singleton]; simp, HS6, Lib.hid (HSN.out.put HINV.out o.n o.x)⟩
            · have hg1 : CA.given s o.n o.x = 0 := by unfold CA.given; rw [if_neg hf]
              have hg2 : CA.start s o.n o.x = s := by unfold CA.start; rw [if_neg hf]
              rw [hg2] at HS4
              rw [hg1]
              have hf2 : (CA.fault s o.n o.x != 0) = true := by simpa using hf
              generalize CA.fault s o.n o.x = ff at hf hf2 ⊢
              clear hg1 hg2
              go_wp2_with fail
              go_meet
              exact ⟨s, xs, rfl, HS4, Lib.hid HSN.out.same⟩
    case rest =>
    obtain ⟨s', xs', rfl, HS5, HSN5⟩ := hcut
    as_aux_lemma =>
      clear HS3 HOW o0 o1 HSN HLEN
      go_wp2_with fail
      refine (List_any HS5.out.st.at_).mono ?_
      rintro e wl ⟨vl, rfl, ho, hb⟩
      have HS6 := Lib.hid (HS5.out.on hb)
      obtain ⟨LA, lc, rfl, hlc, hlc2⟩ := own_shape ho
      have HL6 := Lib.hid (ClsAt.own ho)
      have HI6 := Lib.hid HS5.out.st.at_.inv
      clear ho hb HS5
      have hl4 := HI6.out.len
      have hll := HSN5.out.len
      obtain ⟨A2, c2, rfl, hc2, hc3⟩ := own_shape HS6.out.row
      go_upto_region 29 with (fail)
      obtain ⟨m, hm⟩ : ∃ m, s'.on.length = m := ⟨_, rfl⟩
      have HMM := Lib.hid hm
      rw [hm] at hl4 hlc ⊢
      clear hm
      have HNX := Lib.hid HSN5.out.next
      go_cut [144] from 116 to 143 (fun b wx => b = .bool false ∧ Hid (Below wl.heap.size wl wx))
      case first =>
        by_cases hz : m = 0
        · have HLW := Lib.hid (show CA.low s' = (xs'.length : Int) + 1 by
            have : s'.on = [] := List.eq_nil_of_length_eq_zero (by rw [HMM.out]; exact hz)
            unfold CA.low
            rw [this]
            exact HNX.out)
          have HZ := Lib.hid hz
          clear hz
          as_aux_lemma =>
            refine region_vany [some 116, some 117, some 118, some 119, some 120, some 121, some 122, some 123, some 124, some 125, some 126, some 127, some 128, some 129, some 130, some 131, some 132, some 133, some 134, some 135, some 136, some 137, some 138, some 139, some 140, some 141, some 142, some 143, some 144] [.slice LA m lc, .int .i64 (m : Int), .bool false, .bool false, .slice LA m lc, .int .i64 (m : Int), .bool true, .bool true, .pointer (some ⟨g, 0, none⟩), .int .i64 (CA.low s'), .int .i64 (xs'.length : Int), .int .i64 ((xs'.length : Int) + 1), .bool false, .bool false, .bool false, .bool false, .slice LA m lc, .int .i64 (m : Int), .bool false, .bool false, undef, undef, undef, undef, undef, undef, undef, .bool false, .bool false] (fun y => Below wl.heap.size wl y) [[], [0], [0, 1], [0, 1, 2], [0, 1, 2, 3], [0, 1, 2, 3, 4], [0, 1, 2, 3, 4, 5], [0, 1, 2, 3, 4, 5, 6], [0, 1, 2, 3, 4, 5, 6, 7], [0, 1, 2, 3, 4, 5, 6, 7, 8], [0, 1, 2, 3, 4, 5, 6, 7], [0, 1, 2, 3, 4, 5, 6, 7, 10], [0, 1, 2, 3, 4, 5, 6, 7, 8, 9, 10, 11], [0, 1, 2, 3, 4, 5, 6, 7, 8, 9, 10, 11, 12], [0, 1, 2, 3, 4, 5, 6, 7, 8, 9, 10, 11, 12, 13], [0, 1, 2, 3, 4, 5, 6, 7, 8, 9, 10, 11, 12, 13, 14], [0, 1, 2, 3, 4, 5, 6, 7, 8, 9, 10, 11, 12, 13, 14, 15], [0, 1, 2, 3, 4, 5, 6, 7, 8, 9, 10, 11, 12, 13, 14, 15, 16], [0, 1, 2, 3, 4, 5, 6, 7, 8, 9, 10, 11, 12, 13, 14, 15, 16, 17], [0, 1, 2, 3, 4, 5, 6, 7, 8, 9, 10, 11, 12, 13, 14, 15, 16, 17, 18], [0, 1, 2, 3, 4, 5, 6, 7, 8, 9, 10, 11, 12, 13, 14, 15, 16, 17, 18, 19], [0, 1, 2, 3, 4, 5, 6, 7, 8, 9, 10, 11, 12, 13, 14, 15, 16, 17, 18, 19, 20], [0, 1, 2, 3, 4, 5, 6, 7, 8, 9, 10, 11, 12, 13, 14, 15, 16, 17, 18, 19], [0, 1, 2, 3, 4, 5, 6, 7, 8, 9, 10, 11, 12, 13, 14, 15, 16, 17, 18, 19, 22], [0, 1, 2, 3, 4, 5, 6, 7, 8, 9, 10, 11, 12, 13, 14, 15, 16, 17, 18, 19, 22, 23], [0, 1, 2, 3, 4, 5, 6, 7, 8, 9, 10, 11, 12, 13, 14, 15, 16, 17, 18, 19, 22, 23, 24], [0, 1, 2, 3, 4, 5, 6, 7, 8, 9, 10, 11, 12, 13, 14, 15, 16, 17, 18, 19, 20, 21, 22, 23, 24, 25], [0, 1, 2, 3, 4, 5, 6, 7, 8, 9, 10, 11, 12, 13, 14, 15, 16, 17, 18, 19, 20, 21, 22, 23, 24, 25, 26], [0, 1, 2, 3, 4, 5, 6, 7, 8, 9, 10, 11, 12, 13, 14, 15, 16, 17, 18, 19, 20, 21, 22, 23, 24, 25, 26, 27]] (by kernel_rfl) rfl (by kernel_rfl) (by kernel_rfl) (by kernel_rfl) (by exact (Below.refl _ _).drew) (Z := fun vs => ch _ vs 116 [28, 27, 26, 25, 24, 23, 22, 21, 20, 19, 18, 17, 16, 15, 14, 13, 12, 11, 10, 9, 8, 7, 6, 5, 4, 3, 2, 1, 0]) (fun _ => rfl) ?_ ?_
            · skip
              refine VAll.snoc (i := 28) ?_ rfl rfl trivial ?_
              rotate_left
              · intro B y hI hL K E hK
                have hB := hI
                have t131 : B.tmps[131]? = some (.bool false) := hL.at_ 15 (by decide) 131 rfl
                have t143 : B.tmps[143]? = some (.bool false) := hL.at_ 27 (by decide) 143 rfl
                clear hL
                refine Box.mk ?_
                go_simp
                exact hK.out _ _ hB rfl
              refine VAll.snoc (i := 27) ?_ rfl rfl (fun h => absurd rfl h) ?_
              rotate_left
              · intro B y hI hL hg K E hK
                have hB := hI
                clear hg
                have t135 : B.tmps[135]? = some (.bool false) := hL.at_ 19 (by decide) 135 rfl
                have t142 : B.tmps[142]? = some (undef) := hL.at_ 26 (by decide) 142 rfl
                clear hL
                refine Box.mk ?_
                go_simp
                exact hK.out _ _ hB rfl
              refine VAll.snoc (i := 26) ?_ rfl rfl (fun _ => rfl) ?_
              rotate_left
              · intro B y hI hL hg
                have hg : (.bool false : Value) = .bool true := hg
                cases hg
              refine VAll.snoc (i := 25) ?_ rfl rfl (fun _ => rfl) ?_
              rotate_left
              · intro B y hI hL hg
                have hg : (.bool false : Value) = .bool true := hg
                cases hg
              refine VAll.snoc (i := 24) ?_ rfl rfl (fun _ => rfl) ?_
              rotate_left
              · intro B y hI hL hg
                have hg : (.bool false : Value) = .bool true := hg
                cases hg
              refine VAll.snoc (i := 23) ?_ rfl rfl (fun _ => rfl) ?_
              rotate_left
              · intro B y hI hL hg
                have hg : (.bool false : Value) = .bool true := hg
                cases hg
              refine VAll.snoc (i := 22) ?_ rfl rfl (fun _ => rfl) ?_
              rotate_left
              · intro B y hI hL hg
                have hg : (.bool false : Value) = .bool true := hg
                cases hg
              refine VAll.snoc (i := 21) ?_ rfl rfl (fun _ => rfl) ?_
              rotate_left
              · intro B y hI hL hg
                have hg : (.bool false : Value) = .bool true := hg
                cases hg
              refine VAll.snoc (i := 20) ?_ rfl rfl (fun _ => rfl) ?_
              rotate_left
              · intro B y hI hL hg
                have hg : (.bool false : Value) = .bool true := hg
                cases hg
              refine VAll.snoc (i := 19) ?_ rfl rfl (fun h => absurd rfl h) ?_
              rotate_left
              · intro B y hI hL hg K E hK
                have hB := hI
                clear hg
                have t134 : B.tmps[134]? = some (.bool false) := hL.at_ 18 (by decide) 134 rfl
                clear hL
                refine Box.mk ?_
                go_simp
                exact hK.out _ _ hB rfl
              refine VAll.snoc (i := 18) ?_ rfl rfl (fun h => absurd rfl h) ?_
              rotate_left
              · intro B y hI hL hg K E hK
                have hB := hI
                clear hg
                have t133 : B.tmps[133]? = some (.int .i64 (m : Int)) := hL.at_ 17 (by decide) 133 rfl
                clear hL
                refine Box.mk ?_
                have hd : decide ((0 : Int) < (m : Int)) = false := by have := HZ.out; simp; omega
                have hd2 : ¬ (0 : Int) < (m : Int) := by have := HZ.out; omega
                have hd3 : decide (0 < m) = false := by have := HZ.out; simp; omega
                go_simp
                exact hK.out _ _ hB rfl
              refine VAll.snoc (i := 17) ?_ rfl rfl (fun h => absurd rfl h) ?_
              rotate_left
              · intro B y hI hL hg K E hK
                have hB := hI
                clear hg
                have t132 : B.tmps[132]? = some (.slice LA m lc) := hL.at_ 16 (by decide) 132 rfl
                clear hL
                refine Box.mk ?_
                go_simp
                exact hK.out _ _ hB rfl
              refine VAll.snoc (i := 16) ?_ rfl rfl (fun h => absurd rfl h) ?_
              rotate_left
              · intro B y hI hL hg K E hK
                have hB := hI
                clear hg
                have t17 : B.tmps[17]? = some (.slice LA m lc) := (hL.out 17 rfl).trans rfl
                clear hL
                refine Box.mk ?_
                go_simp
                exact hK.out _ _ hB rfl
              refine VAll.snoc (i := 15) ?_ rfl rfl trivial ?_
              rotate_left
              · intro B y hI hL K E hK
                have hB := hI
                have t130 : B.tmps[130]? = some (.bool false) := hL.at_ 14 (by decide) 130 rfl
                clear hL
                refine Box.mk ?_
                go_simp
                exact hK.out _ _ hB rfl
              refine VAll.snoc (i := 14) ?_ rfl rfl trivial ?_
              rotate_left
              · intro B y hI hL K E hK
                have hB := hI
                have t119 : B.tmps[119]? = some (.bool false) := hL.at_ 3 (by decide) 119 rfl
                have t129 : B.tmps[129]? = some (.bool false) := hL.at_ 13 (by decide) 129 rfl
                clear hL
                refine Box.mk ?_
                go_simp
                exact hK.out _ _ hB rfl
              refine VAll.snoc (i := 13) ?_ rfl rfl (fun h => absurd rfl h) ?_
              rotate_left
              · intro B y hI hL hg K E hK
                have hB := hI
                clear hg
                have t123 : B.tmps[123]? = some (.bool true) := hL.at_ 7 (by decide) 123 rfl
                have t128 : B.tmps[128]? = some (.bool false) := hL.at_ 12 (by decide) 128 rfl
                clear hL
                refine Box.mk ?_
                go_simp
                exact hK.out _ _ hB rfl
              refine VAll.snoc (i := 12) ?_ rfl rfl (fun h => absurd rfl h) ?_
              rotate_left
              · intro B y hI hL hg K E hK
                have hB := hI
                clear hg
                have t125 : B.tmps[125]? = some (.int .i64 (CA.low s')) := hL.at_ 9 (by decide) 125 rfl
                have t127 : B.tmps[127]? = some (.int .i64 ((xs'.length : Int) + 1)) := hL.at_ 11 (by decide) 127 rfl
                clear hL
                refine Box.mk ?_
                have hd : (CA.low s' != (xs'.length : Int) + 1) = false := by rw [HLW.out]; simp
                go_simp
                exact hK.out _ _ hB rfl
              refine VAll.snoc (i := 11) ?_ rfl rfl (fun h => absurd rfl h) ?_
              rotate_left
              · intro B y hI hL hg K E hK
                have hB := hI
                clear hg
                have t126 : B.tmps[126]? = some (.int .i64 (xs'.length : Int)) := hL.at_ 10 (by decide) 126 rfl
                clear hL
                refine Box.mk ?_
                have hw1 : IntKind.i64.wrap ((xs'.length : Int) + 1) = (xs'.length : Int) + 1 := IntWalk.i64_in _ (by omega)
                go_simp
                exact hK.out _ _ hB rfl
              refine VAll.snoc (i := 10) ?_ rfl rfl (fun h => absurd rfl h) ?_
              rotate_left
              · intro B y hI hL hg K E hK
                have hB := hI
                clear hg
                have t7 : B.tmps[7]? = some (.int .i64 (xs'.length : Int)) := (hL.out 7 rfl).trans rfl
                clear hL
                refine Box.mk ?_
                go_simp
                exact hK.out _ _ hB rfl
              refine VAll.snoc (i := 9) ?_ rfl rfl (fun h => absurd rfl h) ?_
              rotate_left
              · intro B y hI hL hg K E hK
                have hB := hI
                clear hg
                have t124 : B.tmps[124]? = some (.pointer (some ⟨g, 0, none⟩)) := hL.at_ 8 (by decide) 124 rfl
                clear hL
                refine Box.mk ?_
                go_simp
                with_reducible refine (Low_any (HS6.out.st.at_.below hB)).mono ?_
                rintro e w5 ⟨rfl, hb⟩
                go_simp
                exact hK.out _ _ (below_on hB hb) rfl
              refine VAll.snoc (i := 8) ?_ rfl rfl (fun h => absurd rfl h) ?_
              rotate_left
              · intro B y hI hL hg K E hK
                have hB := hI
                clear hg
                have t5 : B.tmps[5]? = some (.pointer (some ⟨g, 0, none⟩)) := (hL.out 5 rfl).trans rfl
                clear hL
                refine Box.mk ?_
                go_simp
                exact hK.out _ _ hB rfl
              refine VAll.snoc (i := 7) ?_ rfl rfl (fun h => absurd rfl h) ?_
              rotate_left
              · intro B y hI hL hg K E hK
                have hB := hI
                clear hg
                have t122 : B.tmps[122]? = some (.bool true) := hL.at_ 6 (by decide) 122 rfl
                clear hL
                refine Box.mk ?_
                go_simp
                exact hK.out _ _ hB rfl
              refine VAll.snoc (i := 6) ?_ rfl rfl (fun h => absurd rfl h) ?_
              rotate_left
              · intro B y hI hL hg K E hK
                have hB := hI
                clear hg
                have t121 : B.tmps[121]? = some (.int .i64 (m : Int)) := hL.at_ 5 (by decide) 121 rfl
                clear hL
                refine Box.mk ?_
                have hd : ((m : Int) == 0) = true := by have := HZ.out; simp; omega
                go_simp
                exact hK.out _ _ hB rfl
              refine VAll.snoc (i := 5) ?_ rfl rfl (fun h => absurd rfl h) ?_
              rotate_left
              · intro B y hI hL hg K E hK
                have hB := hI
                clear hg
                have t120 : B.tmps[120]? = some (.slice LA m lc) := hL.at_ 4 (by decide) 120 rfl
                clear hL
                refine Box.mk ?_
                go_simp
                exact hK.out _ _ hB rfl
              refine VAll.snoc (i := 4) ?_ rfl rfl (fun h => absurd rfl h) ?_
              rotate_left
              · intro B y hI hL hg K E hK
                have hB := hI
                clear hg
                have t17 : B.tmps[17]? = some (.slice LA m lc) := (hL.out 17 rfl).trans rfl
                clear hL
                refine Box.mk ?_
                go_simp
                exact hK.out _ _ hB rfl
              refine VAll.snoc (i := 3) ?_ rfl rfl trivial ?_
              rotate_left
              · intro B y hI hL K E hK
                have hB := hI
                have t118 : B.tmps[118]? = some (.bool false) := hL.at_ 2 (by decide) 118 rfl
                clear hL
                refine Box.mk ?_
                go_simp
                exact hK.out _ _ hB rfl
              refine VAll.snoc (i := 2) ?_ rfl rfl trivial ?_
              rotate_left
              · intro B y hI hL K E hK
                have hB := hI
                have t117 : B.tmps[117]? = some (.int .i64 (m : Int)) := hL.at_ 1 (by decide) 117 rfl
                clear hL
                refine Box.mk ?_
                have hd : decide ((4 : Int) < (m : Int)) = false := by simp; omega
                have hd2 : ¬ (4 : Int) < (m : Int) := by omega
                go_simp
                exact hK.out _ _ hB rfl
              refine VAll.snoc (i := 1) ?_ rfl rfl trivial ?_
              rotate_left
              · intro B y hI hL K E hK
                have hB := hI
                have t116 : B.tmps[116]? = some (.slice LA m lc) := hL.at_ 0 (by decide) 116 rfl
                clear hL
                refine Box.mk ?_
                go_simp
                exact hK.out _ _ hB rfl
              refine VAll.snoc (i := 0) ?_ rfl rfl trivial ?_
              rotate_left
              · intro B y hI hL K E hK
                have hB := hI
                have t17 : B.tmps[17]? = some (.slice LA m lc) := (hL.out 17 rfl).trans rfl
                clear hL
                refine Box.mk ?_
                go_simp
                exact hK.out _ _ hB rfl
              exact VAll.nil
            · intro vs y hI hall
              have hB := hI
              have e28 : vs 28 = .bool false := hall 28 (by decide)
              clear hall
              refine Box.mk ?_
              simp only [e28, ch, cq, allPut, puts, Act.put, List.setIfInBounds_toArray, List.set_cons_zero, List.set_cons_succ]
              go_wp2_with fail
              go_meet
              exact ⟨rfl, Lib.hid hB⟩
        · obtain ⟨x0, hx0⟩ : ∃ x0, s'.on[0]? = some x0 := ⟨s'.on[0]'(by rw [HMM.out]; omega), List.getElem?_eq_getElem _⟩
          have HLW := Lib.hid (show CA.low s' = x0.seq by
            unfold CA.low
            cases ho : s'.on with
            | nil => rw [ho] at hx0; cases hx0
            | cons a r => rw [ho] at hx0; injection hx0 with e; subst e; rfl)
          obtain ⟨bl, ol, hA, hbl, hx0c, _⟩ := HL6.out.ten hx0
          subst hA
          have HBL := Lib.hid hbl
          have HX0 := Lib.hid (show wl.cell? ⟨bl, ol, none⟩ = some (.int .i64 x0.seq) by simpa using hx0c)
          clear hbl hx0c hx0
          as_aux_lemma =>
            refine region_vany [some 116, some 117, some 118, some 119, some 120, some 121, some 122, some 123, some 124, some 125, some 126, some 127, some 128, some 129, some 130, some 131, some 132, some 133, some 134, some 135, some 136, some 137, some 138, some 139, some 140, some 141, some 142, some 143, some 144] [.slice (some ⟨bl, ol, none⟩) m lc, .int .i64 (m : Int), .bool false, .bool false, .slice (some ⟨bl, ol, none⟩) m lc, .int .i64 (m : Int), .bool false, .bool false, undef, undef, undef, undef, undef, .bool false, .bool false, .bool false, .slice (some ⟨bl, ol, none⟩) m lc, .int .i64 (m : Int), .bool true, .bool true, .pointer (some ⟨g, 0, none⟩), .int .i64 (CA.low s'), .slice (some ⟨bl, ol, none⟩) m lc, .pointer (some ⟨bl, ol, none⟩), .pointer (some ⟨bl, ol, none⟩), .int .i64 x0.seq, .bool false, .bool false, .bool false] (fun y => Below wl.heap.size wl y) [[], [0], [0, 1], [0, 1, 2], [0, 1, 2, 3], [0, 1, 2, 3, 4], [0, 1, 2, 3, 4, 5], [0, 1, 2, 3, 4, 5, 6], [0, 1, 2, 3, 4, 5, 6, 7], [0, 1, 2, 3, 4, 5, 6, 7, 8], [0, 1, 2, 3, 4, 5, 6, 7], [0, 1, 2, 3, 4, 5, 6, 7, 10], [0, 1, 2, 3, 4, 5, 6, 7, 8, 9, 10, 11], [0, 1, 2, 3, 4, 5, 6, 7, 8, 9, 10, 11, 12], [0, 1, 2, 3, 4, 5, 6, 7, 8, 9, 10, 11, 12, 13], [0, 1, 2, 3, 4, 5, 6, 7, 8, 9, 10, 11, 12, 13, 14], [0, 1, 2, 3, 4, 5, 6, 7, 8, 9, 10, 11, 12, 13, 14, 15], [0, 1, 2, 3, 4, 5, 6, 7, 8, 9, 10, 11, 12, 13, 14, 15, 16], [0, 1, 2, 3, 4, 5, 6, 7, 8, 9, 10, 11, 12, 13, 14, 15, 16, 17], [0, 1, 2, 3, 4, 5, 6, 7, 8, 9, 10, 11, 12, 13, 14, 15, 16, 17, 18], [0, 1, 2, 3, 4, 5, 6, 7, 8, 9, 10, 11, 12, 13, 14, 15, 16, 17, 18, 19], [0, 1, 2, 3, 4, 5, 6, 7, 8, 9, 10, 11, 12, 13, 14, 15, 16, 17, 18, 19, 20], [0, 1, 2, 3, 4, 5, 6, 7, 8, 9, 10, 11, 12, 13, 14, 15, 16, 17, 18, 19], [0, 1, 2, 3, 4, 5, 6, 7, 8, 9, 10, 11, 12, 13, 14, 15, 16, 17, 18, 19, 22], [0, 1, 2, 3, 4, 5, 6, 7, 8, 9, 10, 11, 12, 13, 14, 15, 16, 17, 18, 19, 22, 23], [0, 1, 2, 3, 4, 5, 6, 7, 8, 9, 10, 11, 12, 13, 14, 15, 16, 17, 18, 19, 22, 23, 24], [0, 1, 2, 3, 4, 5, 6, 7, 8, 9, 10, 11, 12, 13, 14, 15, 16, 17, 18, 19, 20, 21, 22, 23, 24, 25], [0, 1, 2, 3, 4, 5, 6, 7, 8, 9, 10, 11, 12, 13, 14, 15, 16, 17, 18, 19, 20, 21, 22, 23, 24, 25, 26], [0, 1, 2, 3, 4, 5, 6, 7, 8, 9, 10, 11, 12, 13, 14, 15, 16, 17, 18, 19, 20, 21, 22, 23, 24, 25, 26, 27]] (by kernel_rfl) rfl (by kernel_rfl) (by kernel_rfl) (by kernel_rfl) (by exact (Below.refl _ _).drew) (Z := fun vs => ch _ vs 116 [28, 27, 26, 25, 24, 23, 22, 21, 20, 19, 18, 17, 16, 15, 14, 13, 12, 11, 10, 9, 8, 7, 6, 5, 4, 3, 2, 1, 0]) (fun _ => rfl) ?_ ?_
            · skip
              refine VAll.snoc (i := 28) ?_ rfl rfl trivial ?_
              rotate_left
              · intro B y hI hL K E hK
                have hB := hI
                have t131 : B.tmps[131]? = some (.bool false) := hL.at_ 15 (by decide) 131 rfl
                have t143 : B.tmps[143]? = some (.bool false) := hL.at_ 27 (by decide) 143 rfl
                clear hL
                refine Box.mk ?_
                go_simp
                exact hK.out _ _ hB rfl
              refine VAll.snoc (i := 27) ?_ rfl rfl (fun h => absurd rfl h) ?_
              rotate_left
              · intro B y hI hL hg K E hK
                have hB := hI
                clear hg
                have t135 : B.tmps[135]? = some (.bool true) := hL.at_ 19 (by decide) 135 rfl
                have t142 : B.tmps[142]? = some (.bool false) := hL.at_ 26 (by decide) 142 rfl
                clear hL
                refine Box.mk ?_
                go_simp
                exact hK.out _ _ hB rfl
              refine VAll.snoc (i := 26) ?_ rfl rfl (fun h => absurd rfl h) ?_
              rotate_left
              · intro B y hI hL hg K E hK
                have hB := hI
                clear hg
                have t137 : B.tmps[137]? = some (.int .i64 (CA.low s')) := hL.at_ 21 (by decide) 137 rfl
                have t141 : B.tmps[141]? = some (.int .i64 x0.seq) := hL.at_ 25 (by decide) 141 rfl
                clear hL
                refine Box.mk ?_
                have hd : (CA.low s' != x0.seq) = false := by rw [HLW.out]; simp
                go_simp
                exact hK.out _ _ hB rfl
              refine VAll.snoc (i := 25) ?_ rfl rfl (fun h => absurd rfl h) ?_
              rotate_left
              · intro B y hI hL hg K E hK
                have hB := hI
                clear hg
                have t140 : B.tmps[140]? = some (.pointer (some ⟨bl, ol, none⟩)) := hL.at_ 24 (by decide) 140 rfl
                clear hL
                refine Box.mk ?_
                have hc := (hB.cell (p := ⟨bl, ol, none⟩) HBL.out).trans HX0.out
                go_simp
                exact hK.out _ _ hB rfl
              refine VAll.snoc (i := 24) ?_ rfl rfl (fun h => absurd rfl h) ?_
              rotate_left
              · intro B y hI hL hg K E hK
                have hB := hI
                clear hg
                have t139 : B.tmps[139]? = some (.pointer (some ⟨bl, ol, none⟩)) := hL.at_ 23 (by decide) 139 rfl
                clear hL
                refine Box.mk ?_
                go_simp
                exact hK.out _ _ hB rfl
              refine VAll.snoc (i := 23) ?_ rfl rfl (fun h => absurd rfl h) ?_
              rotate_left
              · intro B y hI hL hg K E hK
                have hB := hI
                clear hg
                have t138 : B.tmps[138]? = some (.slice (some ⟨bl, ol, none⟩) m lc) := hL.at_ 22 (by decide) 138 rfl
                clear hL
                refine Box.mk ?_
                have hd2 : (0 : Int) < (m : Int) := by omega
                have hd3 : 0 < m := by omega
                go_simp
                exact hK.out _ _ hB rfl
              refine VAll.snoc (i := 22) ?_ rfl rfl (fun h => absurd rfl h) ?_
              rotate_left
              · intro B y hI hL hg K E hK
                have hB := hI
                clear hg
                have t17 : B.tmps[17]? = some (.slice (some ⟨bl, ol, none⟩) m lc) := (hL.out 17 rfl).trans rfl
                clear hL
                refine Box.mk ?_
                go_simp
                exact hK.out _ _ hB rfl
              refine VAll.snoc (i := 21) ?_ rfl rfl (fun h => absurd rfl h) ?_
              rotate_left
              · intro B y hI hL hg K E hK
                have hB := hI
                clear hg
                have t136 : B.tmps[136]? = some (.pointer (some ⟨g, 0, none⟩)) := hL.at_ 20 (by decide) 136 rfl
                clear hL
                refine Box.mk ?_
                go_simp
                with_reducible refine (Low_any (HS6.out.st.at_.below hB)).mono ?_
                rintro e w5 ⟨rfl, hb⟩
                go_simp
                exact hK.out _ _ (below_on hB hb) rfl
              refine VAll.snoc (i := 20) ?_ rfl rfl (fun h => absurd rfl h) ?_
              rotate_left
              · intro B y hI hL hg K E hK
                have hB := hI
                clear hg
                have t5 : B.tmps[5]? = some (.pointer (some ⟨g, 0, none⟩)) := (hL.out 5 rfl).trans rfl
                clear hL
                refine Box.mk ?_
                go_simp
                exact hK.out _ _ hB rfl
              refine VAll.snoc (i := 19) ?_ rfl rfl (fun h => absurd rfl h) ?_
              rotate_left
              · intro B y hI hL hg K E hK
                have hB := hI
                clear hg
                have t134 : B.tmps[134]? = some (.bool true) := hL.at_ 18 (by decide) 134 rfl
                clear hL
                refine Box.mk ?_
                go_simp
                exact hK.out _ _ hB rfl
              refine VAll.snoc (i := 18) ?_ rfl rfl (fun h => absurd rfl h) ?_
              rotate_left
              · intro B y hI hL hg K E hK
                have hB := hI
                clear hg
                have t133 : B.tmps[133]? = some (.int .i64 (m : Int)) := hL.at_ 17 (by decide) 133 rfl
                clear hL
                refine Box.mk ?_
                have hd : decide ((0 : Int) < (m : Int)) = true := by simp; omega
                have hd2 : (0 : Int) < (m : Int) := by omega
                have hd3 : decide (0 < m) = true := by simp; omega
                go_simp
                exact hK.out _ _ hB rfl
              refine VAll.snoc (i := 17) ?_ rfl rfl (fun h => absurd rfl h) ?_
              rotate_left
              · intro B y hI hL hg K E hK
                have hB := hI
                clear hg
                have t132 : B.tmps[132]? = some (.slice (some ⟨bl, ol, none⟩) m lc) := hL.at_ 16 (by decide) 132 rfl
                clear hL
                refine Box.mk ?_
                go_simp
                exact hK.out _ _ hB rfl
              refine VAll.snoc (i := 16) ?_ rfl rfl (fun h => absurd rfl h) ?_
              rotate_left
              · intro B y hI hL hg K E hK
                have hB := hI
                clear hg
                have t17 : B.tmps[17]? = some (.slice (some ⟨bl, ol, none⟩) m lc) := (hL.out 17 rfl).trans rfl
                clear hL
                refine Box.mk ?_
                go_simp
                exact hK.out _ _ hB rfl
              refine VAll.snoc (i := 15) ?_ rfl rfl trivial ?_
              rotate_left
              · intro B y hI hL K E hK
                have hB := hI
                have t130 : B.tmps[130]? = some (.bool false) := hL.at_ 14 (by decide) 130 rfl
                clear hL
                refine Box.mk ?_
                go_simp
                exact hK.out _ _ hB rfl
              refine VAll.snoc (i := 14) ?_ rfl rfl trivial ?_
              rotate_left
              · intro B y hI hL K E hK
                have hB := hI
                have t119 : B.tmps[119]? = some (.bool false) := hL.at_ 3 (by decide) 119 rfl
                have t129 : B.tmps[129]? = some (.bool false) := hL.at_ 13 (by decide) 129 rfl
                clear hL
                refine Box.mk ?_
                go_simp
                exact hK.out _ _ hB rfl
              refine VAll.snoc (i := 13) ?_ rfl rfl (fun h => absurd rfl h) ?_
              rotate_left
              · intro B y hI hL hg K E hK
                have hB := hI
                clear hg
                have t123 : B.tmps[123]? = some (.bool false) := hL.at_ 7 (by decide) 123 rfl
                have t128 : B.tmps[128]? = some (undef) := hL.at_ 12 (by decide) 128 rfl
                clear hL
                refine Box.mk ?_
                go_simp
                exact hK.out _ _ hB rfl
              refine VAll.snoc (i := 12) ?_ rfl rfl (fun _ => rfl) ?_
              rotate_left
              · intro B y hI hL hg
                have hg : (.bool false : Value) = .bool true := hg
                cases hg
              refine VAll.snoc (i := 11) ?_ rfl rfl (fun _ => rfl) ?_
              rotate_left
              · intro B y hI hL hg
                have hg : (.bool false : Value) = .bool true := hg
                cases hg
              refine VAll.snoc (i := 10) ?_ rfl rfl (fun _ => rfl) ?_
              rotate_left
              · intro B y hI hL hg
                have hg : (.bool false : Value) = .bool true := hg
                cases hg
              refine VAll.snoc (i := 9) ?_ rfl rfl (fun _ => rfl) ?_
              rotate_left
              · intro B y hI hL hg
                have hg : (.bool false : Value) = .bool true := hg
                cases hg
              refine VAll.snoc (i := 8) ?_ rfl rfl (fun _ => rfl) ?_
              rotate_left
              · intro B y hI hL hg
                have hg : (.bool false : Value) = .bool true := hg
                cases hg
              refine VAll.snoc (i := 7) ?_ rfl rfl (fun h => absurd rfl h) ?_
              rotate_left
              · intro B y hI hL hg K E hK
                have hB := hI
                clear hg
                have t122 : B.tmps[122]? = some (.bool false) := hL.at_ 6 (by decide) 122 rfl
                clear hL
                refine Box.mk ?_
                go_simp
                exact hK.out _ _ hB rfl
              refine VAll.snoc (i := 6) ?_ rfl rfl (fun h => absurd rfl h) ?_
              rotate_left
              · intro B y hI hL hg K E hK
                have hB := hI
                clear hg
                have t121 : B.tmps[121]? = some (.int .i64 (m : Int)) := hL.at_ 5 (by decide) 121 rfl
                clear hL
                refine Box.mk ?_
                have hd : ((m : Int) == 0) = false := by simp; omega
                have hd2 : ¬ (m : Int) = 0 := by omega
                go_simp
                exact hK.out _ _ hB rfl
              refine VAll.snoc (i := 5) ?_ rfl rfl (fun h => absurd rfl h) ?_
              rotate_left
              · intro B y hI hL hg K E hK
                have hB := hI
                clear hg
                have t120 : B.tmps[120]? = some (.slice (some ⟨bl, ol, none⟩) m lc) := hL.at_ 4 (by decide) 120 rfl
                clear hL
                refine Box.mk ?_
                go_simp
                exact hK.out _ _ hB rfl
              refine VAll.snoc (i := 4) ?_ rfl rfl (fun h => absurd rfl h) ?_
              rotate_left
              · intro B y hI hL hg K E hK
                have hB := hI
                clear hg
                have t17 : B.tmps[17]? = some (.slice (some ⟨bl, ol, none⟩) m lc) := (hL.out 17 rfl).trans rfl
                clear hL
                refine Box.mk ?_
                go_simp
                exact hK.out _ _ hB rfl
              refine VAll.snoc (i := 3) ?_ rfl rfl trivial ?_
              rotate_left
              · intro B y hI hL K E hK
                have hB := hI
                have t118 : B.tmps[118]? = some (.bool false) := hL.at_ 2 (by decide) 118 rfl
                clear hL
                refine Box.mk ?_
                go_simp
                exact hK.out _ _ hB rfl
              refine VAll.snoc (i := 2) ?_ rfl rfl trivial ?_
              rotate_left
              · intro B y hI hL K E hK
                have hB := hI
                have t117 : B.tmps[117]? = some (.int .i64 (m : Int)) := hL.at_ 1 (by decide) 117 rfl
                clear hL
                refine Box.mk ?_
                have hd : decide ((4 : Int) < (m : Int)) = false := by simp; omega
                have hd2 : ¬ (4 : Int) < (m : Int) := by omega
                go_simp
                exact hK.out _ _ hB rfl
              refine VAll.snoc (i := 1) ?_ rfl rfl trivial ?_
              rotate_left
              · intro B y hI hL K E hK
                have hB := hI
                have t116 : B.tmps[116]? = some (.slice (some ⟨bl, ol, none⟩) m lc) := hL.at_ 0 (by decide) 116 rfl
                clear hL
                refine Box.mk ?_
                go_simp
                exact hK.out _ _ hB rfl
              refine VAll.snoc (i := 0) ?_ rfl rfl trivial ?_
              rotate_left
              · intro B y hI hL K E hK
                have hB := hI
                have t17 : B.tmps[17]? = some (.slice (some ⟨bl, ol, none⟩) m lc) := (hL.out 17 rfl).trans rfl
                clear hL
                refine Box.mk ?_
                go_simp
                exact hK.out _ _ hB rfl
              exact VAll.nil
            · intro vs y hI hall
              have hB := hI
              have e28 : vs 28 = .bool false := hall 28 (by decide)
              clear hall
              refine Box.mk ?_
              simp only [e28, ch, cq, allPut, puts, Act.put, List.setIfInBounds_toArray, List.set_cons_zero, List.set_cons_succ]
              go_wp2_with fail
              go_meet
              exact ⟨rfl, Lib.hid hB⟩
      case rest =>
      obtain ⟨rfl, HB7⟩ := hcut
      as_aux_lemma =>
        have HS7 := Lib.hid (HS6.out.on HB7.out)
        have HL7 := Lib.hid (HL6.out.below HB7.out)
        clear HS6 HL6 HB7
        go_wp2_with fail
        go_loopw [147] (fun j wx => ∃ q : Nat, j = .int .i64 (q : Int) ∧ q ≤ m ∧ Hid (Below wc.heap.size wc wx)) (fun j _ => m - (intOf j).toNat)
        case atStart => exact ⟨0, rfl, by omega, Lib.hid (Below.refl _ _)⟩
        case round =>
          obtain ⟨q, rfl, hq, HB⟩ := hrel
          by_cases hqm : q < m
          rotate_left
          · obtain rfl : q = m := by omega
            as_aux_lemma =>
              go_wp2_with fail
              go_roundw
              case rel => exact ⟨k + 1, s', xs', by simp, by omega, by omega, rfl, Lib.hid (HS7.out.on HB.out), HSN5⟩
              case measure => simp [intOf]; omega
          have hw3 : IntKind.i64.wrap ((q : Int) + 1) = (q : Int) + 1 := IntWalk.i64_in _ (by omega)
          have d3 : (q : Int) < (m : Int) := by omega
          have d4 : (0 : Int) ≤ (q : Int) := by omega
          obtain ⟨x, hx⟩ : ∃ x, s'.on[q]? = some x := ⟨s'.on[q]'(by rw [HMM.out]; exact hqm), List.getElem?_eq_getElem _⟩
          have HXM := Lib.hid (List.mem_of_getElem? hx)
          obtain ⟨bl, ol, hA, hbl, x0, x1, x2, x3, x4, x5, x6, x7, x8, x9⟩ := (HL7.out.below HB.out).ten hx
          subst hA
          have HXQ := Lib.hid hx
          clear hbl hx
          have HB8 := Lib.hid (HB.out.alloc HB.out.size (.cells (ten x) 32))
          have HKX := Lib.hid (show ClBlk (wr.alloc (.cells (ten x) 32)) wr.heap.size x from Whole.new wr _ _)
          rw [show ten x = #[.int .i64 x.seq, .int .i64 x.dst, .int .i64 x.verb, .string x.path, .int .i64 x.mode, .int .i64 x.term, .int .i64 x.id, .bool x.fresh, .int .i64 x.sent, .int .i64 x.tries] from rfl] at HB8 HKX
          go_upto_region 34 with (fail)
          clear x0 x1 x2 x3 x4 x5 x6 x7 x8 x9 HB
          generalize wr.heap.size = p at HKX ⊢
          generalize wr.alloc _ = w9 at HB8 HKX ⊢
          as_aux_lemma =>
            have HC9 := Lib.hid (HS7.out.at_w HB8.out)
            have HLE := Lib.hid (HI6.out.low_le x HXM.out)
            have HLR := Lib.hid (show 1 ≤ CA.low s' ∧ CA.low s' ≤ 1099511627777 by have h1 := HI6.out.low_rng; have h2 := HI6.out.next; omega)
            have HLO := Lib.hid (HI6.out.lo x HXM.out)
            have HLA := Lib.hid (show x.seq ≤ (xs'.length : Int) by have h1 := HLO.out; have h2 := HNX.out; omega)
            have HWI := Lib.hid (show x.seq < CA.low s' + 8 by have h1 := HLO.out; have h2 := HI6.out.win; omega)
            have HEA := Lib.hid (HSN5.out.each x HXM.out)
            have HTR := Lib.hid (show 1 ≤ x.tries from HEA.out.2.1)
            obtain ⟨j2, hj2⟩ : ∃ j2 : Nat, x.seq - 1 = (j2 : Int) := ⟨(x.seq - 1).toNat, by have := HLO.out; omega⟩
            have HJ2 := Lib.hid hj2
            have HJL := Lib.hid (show j2 < xs'.length by have := HLA.out; omega)
            have hsent : xs'[j2]? = some x.sent := by have := HEA.out.1; rwa [show (x.seq - 1).toNat = j2 by omega] at this
            obtain ⟨b2, o2, hA2, hb2, hcs⟩ := (IntsAt.own (HS7.out.on HB8.out).row) (by have := HJL.out; omega)
            subst hA2
            have HSE := Lib.hid (show w9.cell? ⟨b2, o2 + j2, none⟩ = some (.int .i64 x.sent) from hcs j2 _ hsent)
            have HB2 := Lib.hid hb2
            clear hj2 hsent hcs hb2 d3 d4
            go_cut [201] from 152 to 200 (fun b wx => b = .bool false ∧ Hid (Below w9.heap.size w9 wx))
            case first =>
              cases q with
              | zero =>
                as_aux_lemma =>
                  refine region_vany [some 152, some 153, some 154, some 155, some 156, some 157, some 158, some 159, some 160, some 161, some 162, some 163, some 164, some 165, some 166, some 167, some 168, some 169, some 170, some 171, some 172, some 173, some 174, some 175, some 176, some 177, some 178, some 179, some 180, some 181, some 182, some 183, some 184, some 185, some 186, some 187, some 188, some 189, some 190, some 191, some 192, some 193, some 194, some 195, some 196, some 197, some 198, some 199, some 200, some 201] [.pointer (some ⟨p, 0, none⟩), .int .i64 x.seq, .pointer (some ⟨g, 0, none⟩), .int .i64 (CA.low s'), .bool false, .bool false, .pointer (some ⟨p, 0, none⟩), .int .i64 x.seq, .pointer (some ⟨g, 0, none⟩), .int .i64 (CA.low s'), .int .i64 (CA.low s' + 8), .bool false, .bool false, .bool false, .pointer (some ⟨p, 0, none⟩), .int .i64 x.seq, .int .i64 (xs'.length : Int), .bool false, .bool false, .bool false, .int .i64 ((0 : Nat) : Int), .bool false, .bool false, undef, undef, undef, undef, undef, undef, undef, undef, undef, .bool false, .bool false, .bool false, .pointer (some ⟨p, 8, none⟩), .int .i64 x.sent, .slice (some ⟨b2, o2, none⟩) xs'.length c2, .pointer (some ⟨p, 0, none⟩), .int .i64 x.seq, .int .i64 (j2 : Int), .pointer (some ⟨b2, o2 + j2, none⟩), .int .i64 x.sent, .bool false, .bool false, .bool false, .pointer (some ⟨p, 9, none⟩), .int .i64 x.tries, .bool false, .bool false] (fun y => Below w9.heap.size w9 y) [[], [0], [], [2], [0, 1, 2, 3], [0, 1, 2, 3, 4], [0, 1, 2, 3, 4, 5], [0, 1, 2, 3, 4, 5, 6], [0, 1, 2, 3, 4, 5], [0, 1, 2, 3, 4, 5, 8], [0, 1, 2, 3, 4, 5, 8, 9], [0, 1, 2, 3, 4, 5, 6, 7, 8, 9, 10], [0, 1, 2, 3, 4, 5, 6, 7, 8, 9, 10, 11], [0, 1, 2, 3, 4, 5, 6, 7, 8, 9, 10, 11, 12], [0, 1, 2, 3, 4, 5, 6, 7, 8, 9, 10, 11, 12, 13], [0, 1, 2, 3, 4, 5, 6, 7, 8, 9, 10, 11, 12, 13, 14], [0, 1, 2, 3, 4, 5, 6, 7, 8, 9, 10, 11, 12, 13], [0, 1, 2, 3, 4, 5, 6, 7, 8, 9, 10, 11, 12, 13, 14, 15, 16], [0, 1, 2, 3, 4, 5, 6, 7, 8, 9, 10, 11, 12, 13, 14, 15, 16, 17], [0, 1, 2, 3, 4, 5, 6, 7, 8, 9, 10, 11, 12, 13, 14, 15, 16, 17, 18], [0, 1, 2, 3, 4, 5, 6, 7, 8, 9, 10, 11, 12, 13, 14, 15, 16, 17, 18, 19], [0, 1, 2, 3, 4, 5, 6, 7, 8, 9, 10, 11, 12, 13, 14, 15, 16, 17, 18, 19, 20], [0, 1, 2, 3, 4, 5, 6, 7, 8, 9, 10, 11, 12, 13, 14, 15, 16, 17, 18, 19, 20, 21], [0, 1, 2, 3, 4, 5, 6, 7, 8, 9, 10, 11, 12, 13, 14, 15, 16, 17, 18, 19, 20, 21, 22], [0, 1, 2, 3, 4, 5, 6, 7, 8, 9, 10, 11, 12, 13, 14, 15, 16, 17, 18, 19, 20, 21, 22, 23], [0, 1, 2, 3, 4, 5, 6, 7, 8, 9, 10, 11, 12, 13, 14, 15, 16, 17, 18, 19, 20, 21, 22], [0, 1, 2, 3, 4, 5, 6, 7, 8, 9, 10, 11, 12, 13, 14, 15, 16, 17, 18, 19, 20, 21, 22], [0, 1, 2, 3, 4, 5, 6, 7, 8, 9, 10, 11, 12, 13, 14, 15, 16, 17, 18, 19, 20, 21, 22, 26], [0, 1, 2, 3, 4, 5, 6, 7, 8, 9, 10, 11, 12, 13, 14, 15, 16, 17, 18, 19, 20, 21, 22, 25, 26, 27], [0, 1, 2, 3, 4, 5, 6, 7, 8, 9, 10, 11, 12, 13, 14, 15, 16, 17, 18, 19, 20, 21, 22, 25, 26, 27, 28], [0, 1, 2, 3, 4, 5, 6, 7, 8, 9, 10, 11, 12, 13, 14, 15, 16, 17, 18, 19, 20, 21, 22, 25, 26, 27, 28, 29], [0, 1, 2, 3, 4, 5, 6, 7, 8, 9, 10, 11, 12, 13, 14, 15, 16, 17, 18, 19, 20, 21, 22, 23, 24, 25, 26, 27, 28, 29, 30], [0, 1, 2, 3, 4, 5, 6, 7, 8, 9, 10, 11, 12, 13, 14, 15, 16, 17, 18, 19, 20, 21, 22, 23, 24, 25, 26, 27, 28, 29, 30, 31], [0, 1, 2, 3, 4, 5, 6, 7, 8, 9, 10, 11, 12, 13, 14, 15, 16, 17, 18, 19, 20, 21, 22, 23, 24, 25, 26, 27, 28, 29, 30, 31, 32], [0, 1, 2, 3, 4, 5, 6, 7, 8, 9, 10, 11, 12, 13, 14, 15, 16, 17, 18, 19, 20, 21, 22, 23, 24, 25, 26, 27, 28, 29, 30, 31, 32, 33], [0, 1, 2, 3, 4, 5, 6, 7, 8, 9, 10, 11, 12, 13, 14, 15, 16, 17, 18, 19, 20, 21, 22, 23, 24, 25, 26, 27, 28, 29, 30, 31, 32, 33, 34], [0, 1, 2, 3, 4, 5, 6, 7, 8, 9, 10, 11, 12, 13, 14, 15, 16, 17, 18, 19, 20, 21, 22, 23, 24, 25, 26, 27, 28, 29, 30, 31, 32, 33, 34, 35], [0, 1, 2, 3, 4, 5, 6, 7, 8, 9, 10, 11, 12, 13, 14, 15, 16, 17, 18, 19, 20, 21, 22, 23, 24, 25, 26, 27, 28, 29, 30, 31, 32, 33, 34], [0, 1, 2, 3, 4, 5, 6, 7, 8, 9, 10, 11, 12, 13, 14, 15, 16, 17, 18, 19, 20, 21, 22, 23, 24, 25, 26, 27, 28, 29, 30, 31, 32, 33, 34], [0, 1, 2, 3, 4, 5, 6, 7, 8, 9, 10, 11, 12, 13, 14, 15, 16, 17, 18, 19, 20, 21, 22, 23, 24, 25, 26, 27, 28, 29, 30, 31, 32, 33, 34, 38], [0, 1, 2, 3, 4, 5, 6, 7, 8, 9, 10, 11, 12, 13, 14, 15, 16, 17, 18, 19, 20, 21, 22, 23, 24, 25, 26, 27, 28, 29, 30, 31, 32, 33, 34, 38, 39], [0, 1, 2, 3, 4, 5, 6, 7, 8, 9, 10, 11, 12, 13, 14, 15, 16, 17, 18, 19, 20, 21, 22, 23, 24, 25, 26, 27, 28, 29, 30, 31, 32, 33, 34, 37, 38, 39, 40], [0, 1, 2, 3, 4, 5, 6, 7, 8, 9, 10, 11, 12, 13, 14, 15, 16, 17, 18, 19, 20, 21, 22, 23, 24, 25, 26, 27, 28, 29, 30, 31, 32, 33, 34, 37, 38, 39, 40, 41], [0, 1, 2, 3, 4, 5, 6, 7, 8, 9, 10, 11, 12, 13, 14, 15, 16, 17, 18, 19, 20, 21, 22, 23, 24, 25, 26, 27, 28, 29, 30, 31, 32, 33, 34, 35, 36, 37, 38, 39, 40, 41, 42], [0, 1, 2, 3, 4, 5, 6, 7, 8, 9, 10, 11, 12, 13, 14, 15, 16, 17, 18, 19, 20, 21, 22, 23, 24, 25, 26, 27, 28, 29, 30, 31, 32, 33, 34, 35, 36, 37, 38, 39, 40, 41, 42, 43], [0, 1, 2, 3, 4, 5, 6, 7, 8, 9, 10, 11, 12, 13, 14, 15, 16, 17, 18, 19, 20, 21, 22, 23, 24, 25, 26, 27, 28, 29, 30, 31, 32, 33, 34, 35, 36, 37, 38, 39, 40, 41, 42, 43, 44], [0, 1, 2, 3, 4, 5, 6, 7, 8, 9, 10, 11, 12, 13, 14, 15, 16, 17, 18, 19, 20, 21, 22, 23, 24, 25, 26, 27, 28, 29, 30, 31, 32, 33, 34, 35, 36, 37, 38, 39, 40, 41, 42, 43, 44, 45], [0, 1, 2, 3, 4, 5, 6, 7, 8, 9, 10, 11, 12, 13, 14, 15, 16, 17, 18, 19, 20, 21, 22, 23, 24, 25, 26, 27, 28, 29, 30, 31, 32, 33, 34, 35, 36, 37, 38, 39, 40, 41, 42, 43, 44, 45, 46], [0, 1, 2, 3, 4, 5, 6, 7, 8, 9, 10, 11, 12, 13, 14, 15, 16, 17, 18, 19, 20, 21, 22, 23, 24, 25, 26, 27, 28, 29, 30, 31, 32, 33, 34, 35, 36, 37, 38, 39, 40, 41, 42, 43, 44, 45, 46, 47], [0, 1, 2, 3, 4, 5, 6, 7, 8, 9, 10, 11, 12, 13, 14, 15, 16, 17, 18, 19, 20, 21, 22, 23, 24, 25, 26, 27, 28, 29, 30, 31, 32, 33, 34, 35, 36, 37, 38, 39, 40, 41, 42, 43, 44, 45, 46, 47, 48]] (by kernel_rfl) rfl (by kernel_rfl) (by kernel_rfl) (by kernel_rfl) (by exact (Below.refl _ _).drew) (Z := fun vs => ch _ vs 152 [49, 48, 47, 46, 45, 44, 43, 42, 41, 40, 39, 38, 37, 36, 35, 34, 33, 32, 31, 30, 29, 28, 27, 26, 25, 24, 23, 22, 21, 20, 19, 18, 17, 16, 15, 14, 13, 12, 11, 10, 9, 8, 7, 6, 5, 4, 3, 2, 1, 0]) (fun _ => rfl) ?_ ?_
                  · skip
                    refine VAll.snoc (i := 49) ?_ rfl rfl trivial ?_
                    rotate_left
                    · intro B y hI hL K E hK
                      have hB := hI
                      have t197 : B.tmps[197]? = some (.bool false) := hL.at_ 45 (by decide) 197 rfl
                      have t200 : B.tmps[200]? = some (.bool false) := hL.at_ 48 (by decide) 200 rfl
                      clear hL
                      refine Box.mk ?_
                      go_simp
                      exact hK.out _ _ hB rfl
                    refine VAll.snoc (i := 48) ?_ rfl rfl (fun h => absurd rfl h) ?_
                    rotate_left
                    · intro B y hI hL hg K E hK
                      have hB := hI
                      clear hg
                      have t199 : B.tmps[199]? = some (.int .i64 x.tries) := hL.at_ 47 (by decide) 199 rfl
                      clear hL
                      refine Box.mk ?_
                      have hd : decide (x.tries < 1) = false := by simp; have := HTR.out; omega
                      have hd2 : ¬ x.tries < 1 := by have := HTR.out; omega
                      go_simp
                      exact hK.out _ _ hB rfl
                    refine VAll.snoc (i := 47) ?_ rfl rfl (fun h => absurd rfl h) ?_
                    rotate_left
                    · intro B y hI hL hg K E hK
                      have hB := hI
                      clear hg
                      have t198 : B.tmps[198]? = some (.pointer (some ⟨p, 9, none⟩)) := hL.at_ 46 (by decide) 198 rfl
                      clear hL
                      refine Box.mk ?_
                      have hc := (hB.cell (p := ⟨p, 9, none⟩) HKX.out.lt).trans (HKX.out.cell 9)
                      go_simp
                      exact hK.out _ _ hB rfl
                    refine VAll.snoc (i := 46) ?_ rfl rfl (fun h => absurd rfl h) ?_
                    rotate_left
                    · intro B y hI hL hg K E hK
                      have hB := hI
                      clear hg
                      have t19 : B.tmps[19]? = some (.pointer (some ⟨p, 0, none⟩)) := (hL.out 19 rfl).trans rfl
                      clear hL
                      refine Box.mk ?_
                      go_simp
                      exact hK.out _ _ hB rfl
                    refine VAll.snoc (i := 45) ?_ rfl rfl trivial ?_
                    rotate_left
                    · intro B y hI hL K E hK
                      have hB := hI
                      have t196 : B.tmps[196]? = some (.bool false) := hL.at_ 44 (by decide) 196 rfl
                      clear hL
                      refine Box.mk ?_
                      go_simp
                      exact hK.out _ _ hB rfl
                    refine VAll.snoc (i := 44) ?_ rfl rfl trivial ?_
                    rotate_left
                    · intro B y hI hL K E hK
                      have hB := hI
                      have t186 : B.tmps[186]? = some (.bool false) := hL.at_ 34 (by decide) 186 rfl
                      have t195 : B.tmps[195]? = some (.bool false) := hL.at_ 43 (by decide) 195 rfl
                      clear hL
                      refine Box.mk ?_
                      go_simp
                      exact hK.out _ _ hB rfl
                    refine VAll.snoc (i := 43) ?_ rfl rfl (fun h => absurd rfl h) ?_
                    rotate_left
                    · intro B y hI hL hg K E hK
                      have hB := hI
                      clear hg
                      have t188 : B.tmps[188]? = some (.int .i64 x.sent) := hL.at_ 36 (by decide) 188 rfl
                      have t194 : B.tmps[194]? = some (.int .i64 x.sent) := hL.at_ 42 (by decide) 194 rfl
                      clear hL
                      refine Box.mk ?_
                      have hd : (x.sent != x.sent) = false := by simp
                      go_simp
                      exact hK.out _ _ hB rfl
                    refine VAll.snoc (i := 42) ?_ rfl rfl (fun h => absurd rfl h) ?_
                    rotate_left
                    · intro B y hI hL hg K E hK
                      have hB := hI
                      clear hg
                      have t193 : B.tmps[193]? = some (.pointer (some ⟨b2, o2 + j2, none⟩)) := hL.at_ 41 (by decide) 193 rfl
                      clear hL
                      refine Box.mk ?_
                      have hc := (hB.cell (p := ⟨b2, o2 + j2, none⟩) HB2.out).trans HSE.out
                      go_simp
                      exact hK.out _ _ hB rfl
                    refine VAll.snoc (i := 41) ?_ rfl rfl (fun h => absurd rfl h) ?_
                    rotate_left
                    · intro B y hI hL hg K E hK
                      have hB := hI
                      clear hg
                      have t189 : B.tmps[189]? = some (.slice (some ⟨b2, o2, none⟩) xs'.length c2) := hL.at_ 37 (by decide) 189 rfl
                      have t192 : B.tmps[192]? = some (.int .i64 (j2 : Int)) := hL.at_ 40 (by decide) 192 rfl
                      clear hL
                      refine Box.mk ?_
                      have hd1 : (0 : Int) ≤ (j2 : Int) := by omega
                      have hd2 : (j2 : Int) < (xs'.length : Int) := by have := HJL.out; omega
                      go_simp
                      exact hK.out _ _ hB rfl
                    refine VAll.snoc (i := 40) ?_ rfl rfl (fun h => absurd rfl h) ?_
                    rotate_left
                    · intro B y hI hL hg K E hK
                      have hB := hI
                      clear hg
                      have t191 : B.tmps[191]? = some (.int .i64 x.seq) := hL.at_ 39 (by decide) 191 rfl
                      clear hL
                      refine Box.mk ?_
                      have hw5 : IntKind.i64.wrap (x.seq - 1) = (j2 : Int) := by rw [IntWalk.i64_in _ (by have := HJ2.out; have := HJL.out; omega)]; exact HJ2.out
                      go_simp
                      exact hK.out _ _ hB rfl
                    refine VAll.snoc (i := 39) ?_ rfl rfl (fun h => absurd rfl h) ?_
                    rotate_left
                    · intro B y hI hL hg K E hK
                      have hB := hI
                      clear hg
                      have t190 : B.tmps[190]? = some (.pointer (some ⟨p, 0, none⟩)) := hL.at_ 38 (by decide) 190 rfl
                      clear hL
                      refine Box.mk ?_
                      have hc := (hB.cell (p := ⟨p, 0, none⟩) HKX.out.lt).trans (HKX.out.cell 0)
                      go_simp
                      exact hK.out _ _ hB rfl
                    refine VAll.snoc (i := 38) ?_ rfl rfl (fun h => absurd rfl h) ?_
                    rotate_left
                    · intro B y hI hL hg K E hK
                      have hB := hI
                      clear hg
                      have t19 : B.tmps[19]? = some (.pointer (some ⟨p, 0, none⟩)) := (hL.out 19 rfl).trans rfl
                      clear hL
                      refine Box.mk ?_
                      go_simp
                      exact hK.out _ _ hB rfl
                    refine VAll.snoc (i := 37) ?_ rfl rfl (fun h => absurd rfl h) ?_
                    rotate_left
                    · intro B y hI hL hg K E hK
                      have hB := hI
                      clear hg
                      have t8 : B.tmps[8]? = some (.slice (some ⟨b2, o2, none⟩) xs'.length c2) := (hL.out 8 rfl).trans rfl
                      clear hL
                      refine Box.mk ?_
                      go_simp
                      exact hK.out _ _ hB rfl
                    refine VAll.snoc (i := 36) ?_ rfl rfl (fun h => absurd rfl h) ?_
                    rotate_left
                    · intro B y hI hL hg K E hK
                      have hB := hI
                      clear hg
                      have t187 : B.tmps[187]? = some (.pointer (some ⟨p, 8, none⟩)) := hL.at_ 35 (by decide) 187 rfl
                      clear hL
                      refine Box.mk ?_
                      have hc := (hB.cell (p := ⟨p, 8, none⟩) HKX.out.lt).trans (HKX.out.cell 8)
                      go_simp
                      exact hK.out _ _ hB rfl
                    refine VAll.snoc (i := 35) ?_ rfl rfl (fun h => absurd rfl h) ?_
                    rotate_left
                    · intro B y hI hL hg K E hK
                      have hB := hI
                      clear hg
                      have t19 : B.tmps[19]? = some (.pointer (some ⟨p, 0, none⟩)) := (hL.out 19 rfl).trans rfl
                      clear hL
                      refine Box.mk ?_
                      go_simp
                      exact hK.out _ _ hB rfl
                    refine VAll.snoc (i := 34) ?_ rfl rfl trivial ?_
                    rotate_left
                    · intro B y hI hL K E hK
                      have hB := hI
                      have t185 : B.tmps[185]? = some (.bool false) := hL.at_ 33 (by decide) 185 rfl
                      clear hL
                      refine Box.mk ?_
                      go_simp
                      exact hK.out _ _ hB rfl
                    refine VAll.snoc (i := 33) ?_ rfl rfl trivial ?_
                    rotate_left
                    · intro B y hI hL K E hK
                      have hB := hI
                      have t171 : B.tmps[171]? = some (.bool false) := hL.at_ 19 (by decide) 171 rfl
                      have t184 : B.tmps[184]? = some (.bool false) := hL.at_ 32 (by decide) 184 rfl
                      clear hL
                      refine Box.mk ?_
                      go_simp
                      exact hK.out _ _ hB rfl
                    refine VAll.snoc (i := 32) ?_ rfl rfl (fun h => absurd rfl h) ?_
                    rotate_left
                    · intro B y hI hL hg K E hK
                      have hB := hI
                      clear hg
                      have t174 : B.tmps[174]? = some (.bool false) := hL.at_ 22 (by decide) 174 rfl
                      have t183 : B.tmps[183]? = some (undef) := hL.at_ 31 (by decide) 183 rfl
                      clear hL
                      refine Box.mk ?_
                      go_simp
                      exact hK.out _ _ hB rfl
                    refine VAll.snoc (i := 31) ?_ rfl rfl (fun _ => rfl) ?_
                    rotate_left
                    · intro B y hI hL hg
                      have hg : (.bool false : Value) = .bool true := hg
                      cases hg
                    refine VAll.snoc (i := 30) ?_ rfl rfl (fun _ => rfl) ?_
                    rotate_left
                    · intro B y hI hL hg
                      have hg : (.bool false : Value) = .bool true := hg
                      cases hg
                    refine VAll.snoc (i := 29) ?_ rfl rfl (fun _ => rfl) ?_
                    rotate_left
                    · intro B y hI hL hg
                      have hg : (.bool false : Value) = .bool true := hg
                      cases hg
                    refine VAll.snoc (i := 28) ?_ rfl rfl (fun _ => rfl) ?_
                    rotate_left
                    · intro B y hI hL hg
                      have hg : (.bool false : Value) = .bool true := hg
                      cases hg
                    refine VAll.snoc (i := 27) ?_ rfl rfl (fun _ => rfl) ?_
                    rotate_left
                    · intro B y hI hL hg
                      have hg : (.bool false : Value) = .bool true := hg
                      cases hg
                    refine VAll.snoc (i := 26) ?_ rfl rfl (fun _ => rfl) ?_
                    rotate_left
                    · intro B y hI hL hg
                      have hg : (.bool false : Value) = .bool true := hg
                      cases hg
                    refine VAll.snoc (i := 25) ?_ rfl rfl (fun _ => rfl) ?_
                    rotate_left
                    · intro B y hI hL hg
                      have hg : (.bool false : Value) = .bool true := hg
                      cases hg
                    refine VAll.snoc (i := 24) ?_ rfl rfl (fun _ => rfl) ?_
                    rotate_left
                    · intro B y hI hL hg
                      have hg : (.bool false : Value) = .bool true := hg
                      cases hg
                    refine VAll.snoc (i := 23) ?_ rfl rfl (fun _ => rfl) ?_
                    rotate_left
                    · intro B y hI hL hg
                      have hg : (.bool false : Value) = .bool true := hg
                      cases hg
                    refine VAll.snoc (i := 22) ?_ rfl rfl (fun h => absurd rfl h) ?_
                    rotate_left
                    · intro B y hI hL hg K E hK
                      have hB := hI
                      clear hg
                      have t173 : B.tmps[173]? = some (.bool false) := hL.at_ 21 (by decide) 173 rfl
                      clear hL
                      refine Box.mk ?_
                      go_simp
                      exact hK.out _ _ hB rfl
                    refine VAll.snoc (i := 21) ?_ rfl rfl (fun h => absurd rfl h) ?_
                    rotate_left
                    · intro B y hI hL hg K E hK
                      have hB := hI
                      clear hg
                      have t172 : B.tmps[172]? = some (.int .i64 ((0 : Nat) : Int)) := hL.at_ 20 (by decide) 172 rfl
                      clear hL
                      refine Box.mk ?_
                      have hd : decide ((0 : Int) < ((0 : Nat) : Int)) = false := by simp
                      go_simp
                      exact hK.out _ _ hB rfl
                    refine VAll.snoc (i := 20) ?_ rfl rfl (fun h => absurd rfl h) ?_
                    rotate_left
                    · intro B y hI hL hg K E hK
                      have hB := hI
                      clear hg
                      have t18 : B.tmps[18]? = some (.int .i64 ((0 : Nat) : Int)) := (hL.out 18 rfl).trans rfl
                      clear hL
                      refine Box.mk ?_
                      go_simp
                      exact hK.out _ _ hB rfl
                    refine VAll.snoc (i := 19) ?_ rfl rfl trivial ?_
                    rotate_left
                    · intro B y hI hL K E hK
                      have hB := hI
                      have t170 : B.tmps[170]? = some (.bool false) := hL.at_ 18 (by decide) 170 rfl
                      clear hL
                      refine Box.mk ?_
                      go_simp
                      exact hK.out _ _ hB rfl
                    refine VAll.snoc (i := 18) ?_ rfl rfl trivial ?_
                    rotate_left
                    · intro B y hI hL K E hK
                      have hB := hI
                      have t165 : B.tmps[165]? = some (.bool false) := hL.at_ 13 (by decide) 165 rfl
                      have t169 : B.tmps[169]? = some (.bool false) := hL.at_ 17 (by decide) 169 rfl
                      clear hL
                      refine Box.mk ?_
                      go_simp
                      exact hK.out _ _ hB rfl
                    refine VAll.snoc (i := 17) ?_ rfl rfl (fun h => absurd rfl h) ?_
                    rotate_left
                    · intro B y hI hL hg K E hK
                      have hB := hI
                      clear hg
                      have t167 : B.tmps[167]? = some (.int .i64 x.seq) := hL.at_ 15 (by decide) 167 rfl
                      have t168 : B.tmps[168]? = some (.int .i64 (xs'.length : Int)) := hL.at_ 16 (by decide) 168 rfl
                      clear hL
                      refine Box.mk ?_
                      have hd : decide ((xs'.length : Int) < x.seq) = false := by simp; have := HLA.out; omega
                      have hd2 : ¬ (xs'.length : Int) < x.seq := by have := HLA.out; omega
                      go_simp
                      exact hK.out _ _ hB rfl
                    refine VAll.snoc (i := 16) ?_ rfl rfl (fun h => absurd rfl h) ?_
                    rotate_left
                    · intro B y hI hL hg K E hK
                      have hB := hI
                      clear hg
                      have t7 : B.tmps[7]? = some (.int .i64 (xs'.length : Int)) := (hL.out 7 rfl).trans rfl
                      clear hL
                      refine Box.mk ?_
                      go_simp
                      exact hK.out _ _ hB rfl
                    refine VAll.snoc (i := 15) ?_ rfl rfl (fun h => absurd rfl h) ?_
                    rotate_left
                    · intro B y hI hL hg K E hK
                      have hB := hI
                      clear hg
                      have t166 : B.tmps[166]? = some (.pointer (some ⟨p, 0, none⟩)) := hL.at_ 14 (by decide) 166 rfl
                      clear hL
                      refine Box.mk ?_
                      have hc := (hB.cell (p := ⟨p, 0, none⟩) HKX.out.lt).trans (HKX.out.cell 0)
                      go_simp
                      exact hK.out _ _ hB rfl
                    refine VAll.snoc (i := 14) ?_ rfl rfl (fun h => absurd rfl h) ?_
                    rotate_left
                    · intro B y hI hL hg K E hK
                      have hB := hI
                      clear hg
                      have t19 : B.tmps[19]? = some (.pointer (some ⟨p, 0, none⟩)) := (hL.out 19 rfl).trans rfl
                      clear hL
                      refine Box.mk ?_
                      go_simp
                      exact hK.out _ _ hB rfl
                    refine VAll.snoc (i := 13) ?_ rfl rfl trivial ?_
                    rotate_left
                    · intro B y hI hL K E hK
                      have hB := hI
                      have t164 : B.tmps[164]? = some (.bool false) := hL.at_ 12 (by decide) 164 rfl
                      clear hL
                      refine Box.mk ?_
                      go_simp
                      exact hK.out _ _ hB rfl
                    refine VAll.snoc (i := 12) ?_ rfl rfl trivial ?_
                    rotate_left
                    · intro B y hI hL K E hK
                      have hB := hI
                      have t157 : B.tmps[157]? = some (.bool false) := hL.at_ 5 (by decide) 157 rfl
                      have t163 : B.tmps[163]? = some (.bool false) := hL.at_ 11 (by decide) 163 rfl
                      clear hL
                      refine Box.mk ?_
                      go_simp
                      exact hK.out _ _ hB rfl
                    refine VAll.snoc (i := 11) ?_ rfl rfl (fun h => absurd rfl h) ?_
                    rotate_left
                    · intro B y hI hL hg K E hK
                      have hB := hI
                      clear hg
                      have t159 : B.tmps[159]? = some (.int .i64 x.seq) := hL.at_ 7 (by decide) 159 rfl
                      have t162 : B.tmps[162]? = some (.int .i64 (CA.low s' + 8)) := hL.at_ 10 (by decide) 162 rfl
                      clear hL
                      refine Box.mk ?_
                      have hd : decide (CA.low s' + 8 ≤ x.seq) = false := by simp; have := HWI.out; omega
                      have hd2 : ¬ CA.low s' + 8 ≤ x.seq := by have := HWI.out; omega
                      go_simp
                      exact hK.out _ _ hB rfl
                    refine VAll.snoc (i := 10) ?_ rfl rfl (fun h => absurd rfl h) ?_
                    rotate_left
                    · intro B y hI hL hg K E hK
                      have hB := hI
                      clear hg
                      have t161 : B.tmps[161]? = some (.int .i64 (CA.low s')) := hL.at_ 9 (by decide) 161 rfl
                      clear hL
                      refine Box.mk ?_
                      have hw4 : IntKind.i64.wrap (CA.low s' + 8) = CA.low s' + 8 := IntWalk.i64_in _ (by have := HLR.out; omega)
                      go_simp
                      exact hK.out _ _ hB rfl
                    refine VAll.snoc (i := 9) ?_ rfl rfl (fun h => absurd rfl h) ?_
                    rotate_left
                    · intro B y hI hL hg K E hK
                      have hB := hI
                      clear hg
                      have t160 : B.tmps[160]? = some (.pointer (some ⟨g, 0, none⟩)) := hL.at_ 8 (by decide) 160 rfl
                      clear hL
                      refine Box.mk ?_
                      go_simp
                      with_reducible refine (Low_any (HC9.out.below hB)).mono ?_
                      rintro e w5 ⟨rfl, hb⟩
                      go_simp
                      exact hK.out _ _ (below_on hB hb) rfl
                    refine VAll.snoc (i := 8) ?_ rfl rfl (fun h => absurd rfl h) ?_
                    rotate_left
                    · intro B y hI hL hg K E hK
                      have hB := hI
                      clear hg
                      have t5 : B.tmps[5]? = some (.pointer (some ⟨g, 0, none⟩)) := (hL.out 5 rfl).trans rfl
                      clear hL
                      refine Box.mk ?_
                      go_simp
                      exact hK.out _ _ hB rfl
                    refine VAll.snoc (i := 7) ?_ rfl rfl (fun h => absurd rfl h) ?_
                    rotate_left
                    · intro B y hI hL hg K E hK
                      have hB := hI
                      clear hg
                      have t158 : B.tmps[158]? = some (.pointer (some ⟨p, 0, none⟩)) := hL.at_ 6 (by decide) 158 rfl
                      clear hL
                      refine Box.mk ?_
                      have hc := (hB.cell (p := ⟨p, 0, none⟩) HKX.out.lt).trans (HKX.out.cell 0)
                      go_simp
                      exact hK.out _ _ hB rfl
                    refine VAll.snoc (i := 6) ?_ rfl rfl (fun h => absurd rfl h) ?_
                    rotate_left
                    · intro B y hI hL hg K E hK
                      have hB := hI
                      clear hg
                      have t19 : B.tmps[19]? = some (.pointer (some ⟨p, 0, none⟩)) := (hL.out 19 rfl).trans rfl
                      clear hL
                      refine Box.mk ?_
                      go_simp
                      exact hK.out _ _ hB rfl
                    refine VAll.snoc (i := 5) ?_ rfl rfl trivial ?_
                    rotate_left
                    · intro B y hI hL K E hK
                      have hB := hI
                      have t156 : B.tmps[156]? = some (.bool false) := hL.at_ 4 (by decide) 156 rfl
                      clear hL
                      refine Box.mk ?_
                      go_simp
                      exact hK.out _ _ hB rfl
                    refine VAll.snoc (i := 4) ?_ rfl rfl trivial ?_
                    rotate_left
                    · intro B y hI hL K E hK
                      have hB := hI
                      have t153 : B.tmps[153]? = some (.int .i64 x.seq) := hL.at_ 1 (by decide) 153 rfl
                      have t155 : B.tmps[155]? = some (.int .i64 (CA.low s')) := hL.at_ 3 (by decide) 155 rfl
                      clear hL
                      refine Box.mk ?_
                      have hd : decide (x.seq < CA.low s') = false := by simp; exact HLE.out
                      have hd2 : ¬ x.seq < CA.low s' := by have := HLE.out; omega
                      go_simp
                      exact hK.out _ _ hB rfl
                    refine VAll.snoc (i := 3) ?_ rfl rfl trivial ?_
                    rotate_left
                    · intro B y hI hL K E hK
                      have hB := hI
                      have t154 : B.tmps[154]? = some (.pointer (some ⟨g, 0, none⟩)) := hL.at_ 2 (by decide) 154 rfl
                      clear hL
                      refine Box.mk ?_
                      go_simp
                      with_reducible refine (Low_any (HC9.out.below hB)).mono ?_
                      rintro e w5 ⟨rfl, hb⟩
                      go_simp
                      exact hK.out _ _ (below_on hB hb) rfl
                    refine VAll.snoc (i := 2) ?_ rfl rfl trivial ?_
                    rotate_left
                    · intro B y hI hL K E hK
                      have hB := hI
                      have t5 : B.tmps[5]? = some (.pointer (some ⟨g, 0, none⟩)) := (hL.out 5 rfl).trans rfl
                      clear hL
                      refine Box.mk ?_
                      go_simp
                      exact hK.out _ _ hB rfl
                    refine VAll.snoc (i := 1) ?_ rfl rfl trivial ?_
                    rotate_left
                    · intro B y hI hL K E hK
                      have hB := hI
                      have t152 : B.tmps[152]? = some (.pointer (some ⟨p, 0, none⟩)) := hL.at_ 0 (by decide) 152 rfl
                      clear hL
                      refine Box.mk ?_
                      have hc := (hB.cell (p := ⟨p, 0, none⟩) HKX.out.lt).trans (HKX.out.cell 0)
                      go_simp
                      exact hK.out _ _ hB rfl
                    refine VAll.snoc (i := 0) ?_ rfl rfl trivial ?_
                    rotate_left
                    · intro B y hI hL K E hK
                      have hB := hI
                      have t19 : B.tmps[19]? = some (.pointer (some ⟨p, 0, none⟩)) := (hL.out 19 rfl).trans rfl
                      clear hL
                      refine Box.mk ?_
                      go_simp
                      exact hK.out _ _ hB rfl
                    exact VAll.nil
                  · intro vs y hI hall
                    have hB := hI
                    have e49 : vs 49 = .bool false := hall 49 (by decide)
                    clear hall
                    refine Box.mk ?_
                    simp only [e49, ch, cq, allPut, puts, Act.put, List.setIfInBounds_toArray, List.set_cons_zero, List.set_cons_succ]
                    go_wp2_with fail
                    go_meet
                    exact ⟨rfl, Lib.hid hB⟩
              | succ r =>
                obtain ⟨x', hx'⟩ : ∃ x', s'.on[r]? = some x' := ⟨s'.on[r]'(by rw [HMM.out]; omega), List.getElem?_eq_getElem _⟩
                have HRS := Lib.hid (show x'.seq < x.seq by
                  have h1 := List.pairwise_iff_getElem.1 HI6.out.rise r (r + 1) (by rw [HMM.out]; omega) (by rw [HMM.out]; omega) (by omega)
                  have e1 := (List.getElem?_eq_some_iff.1 hx').2
                  have e2 := (List.getElem?_eq_some_iff.1 HXQ.out).2
                  rw [e1, e2] at h1
                  exact h1)
                obtain ⟨bq, oq, hA, hbr, hxr, _⟩ := (HL7.out.below HB8.out).ten hx'
                injection hA with hA
                injection hA with e1 e2
                subst e1 e2
                have HBR := Lib.hid hbr
                have HXR := Lib.hid hxr
                clear hbr hxr hx'
                as_aux_lemma =>
                  refine region_vany [some 152, some 153, some 154, some 155, some 156, some 157, some 158, some 159, some 160, some 161, some 162, some 163, some 164, some 165, some 166, some 167, some 168, some 169, some 170, some 171, some 172, some 173, some 174, some 175, some 176, some 177, some 178, some 179, some 180, some 181, some 182, some 183, some 184, some 185, some 186, some 187, some 188, some 189, some 190, some 191, some 192, some 193, some 194, some 195, some 196, some 197, some 198, some 199, some 200, some 201] [.pointer (some ⟨p, 0, none⟩), .int .i64 x.seq, .pointer (some ⟨g, 0, none⟩), .int .i64 (CA.low s'), .bool false, .bool false, .pointer (some ⟨p, 0, none⟩), .int .i64 x.seq, .pointer (some ⟨g, 0, none⟩), .int .i64 (CA.low s'), .int .i64 (CA.low s' + 8), .bool false, .bool false, .bool false, .pointer (some ⟨p, 0, none⟩), .int .i64 x.seq, .int .i64 (xs'.length : Int), .bool false, .bool false, .bool false, .int .i64 ((r + 1 : Nat) : Int), .bool true, .bool true, .pointer (some ⟨p, 0, none⟩), .int .i64 x.seq, .slice (some ⟨bl, ol, none⟩) m lc, .int .i64 ((r + 1 : Nat) : Int), .int .i64 (r : Int), .pointer (some ⟨bl, ol + r * 10, none⟩), .pointer (some ⟨bl, ol + r * 10, none⟩), .int .i64 x'.seq, .bool false, .bool false, .bool false, .bool false, .pointer (some ⟨p, 8, none⟩), .int .i64 x.sent, .slice (some ⟨b2, o2, none⟩) xs'.length c2, .pointer (some ⟨p, 0, none⟩), .int .i64 x.seq, .int .i64 (j2 : Int), .pointer (some ⟨b2, o2 + j2, none⟩), .int .i64 x.sent, .bool false, .bool false, .bool false, .pointer (some ⟨p, 9, none⟩), .int .i64 x.tries, .bool false, .bool false] (fun y => Below w9.heap.size w9 y) [[], [0], [], [2], [0, 1, 2, 3], [0, 1, 2, 3, 4], [0, 1, 2, 3, 4, 5], [0, 1, 2, 3, 4, 5, 6], [0, 1, 2, 3, 4, 5], [0, 1, 2, 3, 4, 5, 8], [0, 1, 2, 3, 4, 5, 8, 9], [0, 1, 2, 3, 4, 5, 6, 7, 8, 9, 10], [0, 1, 2, 3, 4, 5, 6, 7, 8, 9, 10, 11], [0, 1, 2, 3, 4, 5, 6, 7, 8, 9, 10, 11, 12], [0, 1, 2, 3, 4, 5, 6, 7, 8, 9, 10, 11, 12, 13], [0, 1, 2, 3, 4, 5, 6, 7, 8, 9, 10, 11, 12, 13, 14], [0, 1, 2, 3, 4, 5, 6, 7, 8, 9, 10, 11, 12, 13], [0, 1, 2, 3, 4, 5, 6, 7, 8, 9, 10, 11, 12, 13, 14, 15, 16], [0, 1, 2, 3, 4, 5, 6, 7, 8, 9, 10, 11, 12, 13, 14, 15, 16, 17], [0, 1, 2, 3, 4, 5, 6, 7, 8, 9, 10, 11, 12, 13, 14, 15, 16, 17, 18], [0, 1, 2, 3, 4, 5, 6, 7, 8, 9, 10, 11, 12, 13, 14, 15, 16, 17, 18, 19], [0, 1, 2, 3, 4, 5, 6, 7, 8, 9, 10, 11, 12, 13, 14, 15, 16, 17, 18, 19, 20], [0, 1, 2, 3, 4, 5, 6, 7, 8, 9, 10, 11, 12, 13, 14, 15, 16, 17, 18, 19, 20, 21], [0, 1, 2, 3, 4, 5, 6, 7, 8, 9, 10, 11, 12, 13, 14, 15, 16, 17, 18, 19, 20, 21, 22], [0, 1, 2, 3, 4, 5, 6, 7, 8, 9, 10, 11, 12, 13, 14, 15, 16, 17, 18, 19, 20, 21, 22, 23], [0, 1, 2, 3, 4, 5, 6, 7, 8, 9, 10, 11, 12, 13, 14, 15, 16, 17, 18, 19, 20, 21, 22], [0, 1, 2, 3, 4, 5, 6, 7, 8, 9, 10, 11, 12, 13, 14, 15, 16, 17, 18, 19, 20, 21, 22], [0, 1, 2, 3, 4, 5, 6, 7, 8, 9, 10, 11, 12, 13, 14, 15, 16, 17, 18, 19, 20, 21, 22, 26], [0, 1, 2, 3, 4, 5, 6, 7, 8, 9, 10, 11, 12, 13, 14, 15, 16, 17, 18, 19, 20, 21, 22, 25, 26, 27], [0, 1, 2, 3, 4, 5, 6, 7, 8, 9, 10, 11, 12, 13, 14, 15, 16, 17, 18, 19, 20, 21, 22, 25, 26, 27, 28], [0, 1, 2, 3, 4, 5, 6, 7, 8, 9, 10, 11, 12, 13, 14, 15, 16, 17, 18, 19, 20, 21, 22, 25, 26, 27, 28, 29], [0, 1, 2, 3, 4, 5, 6, 7, 8, 9, 10, 11, 12, 13, 14, 15, 16, 17, 18, 19, 20, 21, 22, 23, 24, 25, 26, 27, 28, 29, 30], [0, 1, 2, 3, 4, 5, 6, 7, 8, 9, 10, 11, 12, 13, 14, 15, 16, 17, 18, 19, 20, 21, 22, 23, 24, 25, 26, 27, 28, 29, 30, 31], [0, 1, 2, 3, 4, 5, 6, 7, 8, 9, 10, 11, 12, 13, 14, 15, 16, 17, 18, 19, 20, 21, 22, 23, 24, 25, 26, 27, 28, 29, 30, 31, 32], [0, 1, 2, 3, 4, 5, 6, 7, 8, 9, 10, 11, 12, 13, 14, 15, 16, 17, 18, 19, 20, 21, 22, 23, 24, 25, 26, 27, 28, 29, 30, 31, 32, 33], [0, 1, 2, 3, 4, 5, 6, 7, 8, 9, 10, 11, 12, 13, 14, 15, 16, 17, 18, 19, 20, 21, 22, 23, 24, 25, 26, 27, 28, 29, 30, 31, 32, 33, 34], [0, 1, 2, 3, 4, 5, 6, 7, 8, 9, 10, 11, 12, 13, 14, 15, 16, 17, 18, 19, 20, 21, 22, 23, 24, 25, 26, 27, 28, 29, 30, 31, 32, 33, 34, 35], [0, 1, 2, 3, 4, 5, 6, 7, 8, 9, 10, 11, 12, 13, 14, 15, 16, 17, 18, 19, 20, 21, 22, 23, 24, 25, 26, 27, 28, 29, 30, 31, 32, 33, 34], [0, 1, 2, 3, 4, 5, 6, 7, 8, 9, 10, 11, 12, 13, 14, 15, 16, 17, 18, 19, 20, 21, 22, 23, 24, 25, 26, 27, 28, 29, 30, 31, 32, 33, 34], [0, 1, 2, 3, 4, 5, 6, 7, 8, 9, 10, 11, 12, 13, 14, 15, 16, 17, 18, 19, 20, 21, 22, 23, 24, 25, 26, 27, 28, 29, 30, 31, 32, 33, 34, 38], [0, 1, 2, 3, 4, 5, 6, 7, 8, 9, 10, 11, 12, 13, 14, 15, 16, 17, 18, 19, 20, 21, 22, 23, 24, 25, 26, 27, 28, 29, 30, 31, 32, 33, 34, 38, 39], [0, 1, 2, 3, 4, 5, 6, 7, 8, 9, 10, 11, 12, 13, 14, 15, 16, 17, 18, 19, 20, 21, 22, 23, 24, 25, 26, 27, 28, 29, 30, 31, 32, 33, 34, 37, 38, 39, 40], [0, 1, 2, 3, 4, 5, 6, 7, 8, 9, 10, 11, 12, 13, 14, 15, 16, 17, 18, 19, 20, 21, 22, 23, 24, 25, 26, 27, 28, 29, 30, 31, 32, 33, 34, 37, 38, 39, 40, 41], [0, 1, 2, 3, 4, 5, 6, 7, 8, 9, 10, 11, 12, 13, 14, 15, 16, 17, 18, 19, 20, 21, 22, 23, 24, 25, 26, 27, 28, 29, 30, 31, 32, 33, 34, 35, 36, 37, 38, 39, 40, 41, 42], [0, 1, 2, 3, 4, 5, 6, 7, 8, 9, 10, 11, 12, 13, 14, 15, 16, 17, 18, 19, 20, 21, 22, 23, 24, 25, 26, 27, 28, 29, 30, 31, 32, 33, 34, 35, 36, 37, 38, 39, 40, 41, 42, 43], [0, 1, 2, 3, 4, 5, 6, 7, 8, 9, 10, 11, 12, 13, 14, 15, 16, 17, 18, 19, 20, 21, 22, 23, 24, 25, 26, 27, 28, 29, 30, 31, 32, 33, 34, 35, 36, 37, 38, 39, 40, 41, 42, 43, 44], [0, 1, 2, 3, 4, 5, 6, 7, 8, 9, 10, 11, 12, 13, 14, 15, 16, 17, 18, 19, 20, 21, 22, 23, 24, 25, 26, 27, 28, 29, 30, 31, 32, 33, 34, 35, 36, 37, 38, 39, 40, 41, 42, 43, 44, 45], [0, 1, 2, 3, 4, 5, 6, 7, 8, 9, 10, 11, 12, 13, 14, 15, 16, 17, 18, 19, 20, 21, 22, 23, 24, 25, 26, 27, 28, 29, 30, 31, 32, 33, 34, 35, 36, 37, 38, 39, 40, 41, 42, 43, 44, 45, 46], [0, 1, 2, 3, 4, 5, 6, 7, 8, 9, 10, 11, 12, 13, 14, 15, 16, 17, 18, 19, 20, 21, 22, 23, 24, 25, 26, 27, 28, 29, 30, 31, 32, 33, 34, 35, 36, 37, 38, 39, 40, 41, 42, 43, 44, 45, 46, 47], [0, 1, 2, 3, 4, 5, 6, 7, 8, 9, 10, 11, 12, 13, 14, 15, 16, 17, 18, 19, 20, 21, 22, 23, 24, 25, 26, 27, 28, 29, 30, 31, 32, 33, 34, 35, 36, 37, 38, 39, 40, 41, 42, 43, 44, 45, 46, 47, 48]] (by kernel_rfl) rfl (by kernel_rfl) (by kernel_rfl) (by kernel_rfl) (by exact (Below.refl _ _).drew) (Z := fun vs => ch _ vs 152 [49, 48, 47, 46, 45, 44, 43, 42, 41, 40, 39, 38, 37, 36, 35, 34, 33, 32, 31, 30, 29, 28, 27, 26, 25, 24, 23, 22, 21, 20, 19, 18, 17, 16, 15, 14, 13, 12, 11, 10, 9, 8, 7, 6, 5, 4, 3, 2, 1, 0]) (fun _ => rfl) ?_ ?_
                  · skip
                    refine VAll.snoc (i := 49) ?_ rfl rfl trivial ?_
                    rotate_left
                    · intro B y hI hL K E hK
                      have hB := hI
                      have t197 : B.tmps[197]? = some (.bool false) := hL.at_ 45 (by decide) 197 rfl
                      have t200 : B.tmps[200]? = some (.bool false) := hL.at_ 48 (by decide) 200 rfl
                      clear hL
                      refine Box.mk ?_
                      go_simp
                      exact hK.out _ _ hB rfl
                    refine VAll.snoc (i := 48) ?_ rfl rfl (fun h => absurd rfl h) ?_
                    rotate_left
                    · intro B y hI hL hg K E hK
                      have hB := hI
                      clear hg
                      have t199 : B.tmps[199]? = some (.int .i64 x.tries) := hL.at_ 47 (by decide) 199 rfl
                      clear hL
                      refine Box.mk ?_
                      have hd : decide (x.tries < 1) = false := by simp; have := HTR.out; omega
                      have hd2 : ¬ x.tries < 1 := by have := HTR.out; omega
                      go_simp
                      exact hK.out _ _ hB rfl
                    refine VAll.snoc (i := 47) ?_ rfl rfl (fun h => absurd rfl h) ?_
                    rotate_left
                    · intro B y hI hL hg K E hK
                      have hB := hI
                      clear hg
                      have t198 : B.tmps[198]? = some (.pointer (some ⟨p, 9, none⟩)) := hL.at_ 46 (by decide) 198 rfl
                      clear hL
                      refine Box.mk ?_
                      have hc := (hB.cell (p := ⟨p, 9, none⟩) HKX.out.lt).trans (HKX.out.cell 9)
                      go_simp
                      exact hK.out _ _ hB rfl
                    refine VAll.snoc (i := 46) ?_ rfl rfl (fun h => absurd rfl h) ?_
                    rotate_left
                    · intro B y hI hL hg K E hK
                      have hB := hI
                      clear hg
                      have t19 : B.tmps[19]? = some (.pointer (some ⟨p, 0, none⟩)) := (hL.out 19 rfl).trans rfl
                      clear hL
                      refine Box.mk ?_
                      go_simp
                      exact hK.out _ _ hB rfl
                    refine VAll.snoc (i := 45) ?_ rfl rfl trivial ?_
                    rotate_left
                    · intro B y hI hL K E hK
                      have hB := hI
                      have t196 : B.tmps[196]? = some (.bool false) := hL.at_ 44 (by decide) 196 rfl
                      clear hL
                      refine Box.mk ?_
                      go_simp
                      exact hK.out _ _ hB rfl
                    refine VAll.snoc (i := 44) ?_ rfl rfl trivial ?_
                    rotate_left
                    · intro B y hI hL K E hK
                      have hB := hI
                      have t186 : B.tmps[186]? = some (.bool false) := hL.at_ 34 (by decide) 186 rfl
                      have t195 : B.tmps[195]? = some (.bool false) := hL.at_ 43 (by decide) 195 rfl
                      clear hL
                      refine Box.mk ?_
                      go_simp
                      exact hK.out _ _ hB rfl
                    refine VAll.snoc (i := 43) ?_ rfl rfl (fun h => absurd rfl h) ?_
                    rotate_left
                    · intro B y hI hL hg K E hK
                      have hB := hI
                      clear hg
                      have t188 : B.tmps[188]? = some (.int .i64 x.sent) := hL.at_ 36 (by decide) 188 rfl
                      have t194 : B.tmps[194]? = some (.int .i64 x.sent) := hL.at_ 42 (by decide) 194 rfl
                      clear hL
                      refine Box.mk ?_
                      have hd : (x.sent != x.sent) = false := by simp
                      go_simp
                      exact hK.out _ _ hB rfl
                    refine VAll.snoc (i := 42) ?_ rfl rfl (fun h => absurd rfl h) ?_
                    rotate_left
                    · intro B y hI hL hg K E hK
                      have hB := hI
                      clear hg
                      have t193 : B.tmps[193]? = some (.pointer (some ⟨b2, o2 + j2, none⟩)) := hL.at_ 41 (by decide) 193 rfl
                      clear hL
                      refine Box.mk ?_
                      have hc := (hB.cell (p := ⟨b2, o2 + j2, none⟩) HB2.out).trans HSE.out
                      go_simp
                      exact hK.out _ _ hB rfl
                    refine VAll.snoc (i := 41) ?_ rfl rfl (fun h => absurd rfl h) ?_
                    rotate_left
                    · intro B y hI hL hg K E hK
                      have hB := hI
                      clear hg
                      have t189 : B.tmps[189]? = some (.slice (some ⟨b2, o2, none⟩) xs'.length c2) := hL.at_ 37 (by decide) 189 rfl
                      have t192 : B.tmps[192]? = some (.int .i64 (j2 : Int)) := hL.at_ 40 (by decide) 192 rfl
                      clear hL
                      refine Box.mk ?_
                      have hd1 : (0 : Int) ≤ (j2 : Int) := by omega
                      have hd2 : (j2 : Int) < (xs'.length : Int) := by have := HJL.out; omega
                      go_simp
                      exact hK.out _ _ hB rfl
                    refine VAll.snoc (i := 40) ?_ rfl rfl (fun h => absurd rfl h) ?_
                    rotate_left
                    · intro B y hI hL hg K E hK
                      have hB := hI
                      clear hg
                      have t191 : B.tmps[191]? = some (.int .i64 x.seq) := hL.at_ 39 (by decide) 191 rfl
                      clear hL
                      refine Box.mk ?_
                      have hw5 : IntKind.i64.wrap (x.seq - 1) = (j2 : Int) := by rw [IntWalk.i64_in _ (by have := HJ2.out; have := HJL.out; omega)]; exact HJ2.out
                      go_simp
                      exact hK.out _ _ hB rfl
                    refine VAll.snoc (i := 39) ?_ rfl rfl (fun h => absurd rfl h) ?_
                    rotate_left
                    · intro B y hI hL hg K E hK
                      have hB := hI
                      clear hg
                      have t190 : B.tmps[190]? = some (.pointer (some ⟨p, 0, none⟩)) := hL.at_ 38 (by decide) 190 rfl
                      clear hL
                      refine Box.mk ?_
                      have hc := (hB.cell (p := ⟨p, 0, none⟩) HKX.out.lt).trans (HKX.out.cell 0)
                      go_simp
                      exact hK.out _ _ hB rfl
                    refine VAll.snoc (i := 38) ?_ rfl rfl (fun h => absurd rfl h) ?_
                    rotate_left
                    · intro B y hI hL hg K E hK
                      have hB := hI
                      clear hg
                      have t19 : B.tmps[19]? = some (.pointer (some ⟨p, 0, none⟩)) := (hL.out 19 rfl).trans rfl
                      clear hL
                      refine Box.mk ?_
                      go_simp
                      exact hK.out _ _ hB rfl
                    refine VAll.snoc (i := 37) ?_ rfl rfl (fun h => absurd rfl h) ?_
                    rotate_left
                    · intro B y hI hL hg K E hK
                      have hB := hI
                      clear hg
                      have t8 : B.tmps[8]? = some (.slice (some ⟨b2, o2, none⟩) xs'.length c2) := (hL.out 8 rfl).trans rfl
                      clear hL
                      refine Box.mk ?_
                      go_simp
                      exact hK.out _ _ hB rfl
                    refine VAll.snoc (i := 36) ?_ rfl rfl (fun h => absurd rfl h) ?_
                    rotate_left
                    · intro B y hI hL hg K E hK
                      have hB := hI
                      clear hg
                      have t187 : B.tmps[187]? = some (.pointer (some ⟨p, 8, none⟩)) := hL.at_ 35 (by decide) 187 rfl
                      clear hL
                      refine Box.mk ?_
                      have hc := (hB.cell (p := ⟨p, 8, none⟩) HKX.out.lt).trans (HKX.out.cell 8)
                      go_simp
                      exact hK.out _ _ hB rfl
                    refine VAll.snoc (i := 35) ?_ rfl rfl (fun h => absurd rfl h) ?_
                    rotate_left
                    · intro B y hI hL hg K E hK
                      have hB := hI
                      clear hg
                      have t19 : B.tmps[19]? = some (.pointer (some ⟨p, 0, none⟩)) := (hL.out 19 rfl).trans rfl
                      clear hL
                      refine Box.mk ?_
                      go_simp
                      exact hK.out _ _ hB rfl
                    refine VAll.snoc (i := 34) ?_ rfl rfl trivial ?_
                    rotate_left
                    · intro B y hI hL K E hK
                      have hB := hI
                      have t185 : B.tmps[185]? = some (.bool false) := hL.at_ 33 (by decide) 185 rfl
                      clear hL
                      refine Box.mk ?_
                      go_simp
                      exact hK.out _ _ hB rfl
                    refine VAll.snoc (i := 33) ?_ rfl rfl trivial ?_
                    rotate_left
                    · intro B y hI hL K E hK
                      have hB := hI
                      have t171 : B.tmps[171]? = some (.bool false) := hL.at_ 19 (by decide) 171 rfl
                      have t184 : B.tmps[184]? = some (.bool false) := hL.at_ 32 (by decide) 184 rfl
                      clear hL
                      refine Box.mk ?_
                      go_simp
                      exact hK.out _ _ hB rfl
                    refine VAll.snoc (i := 32) ?_ rfl rfl (fun h => absurd rfl h) ?_
                    rotate_left
                    · intro B y hI hL hg K E hK
                      have hB := hI
                      clear hg
                      have t174 : B.tmps[174]? = some (.bool true) := hL.at_ 22 (by decide) 174 rfl
                      have t183 : B.tmps[183]? = some (.bool false) := hL.at_ 31 (by decide) 183 rfl
                      clear hL
                      refine Box.mk ?_
                      go_simp
                      exact hK.out _ _ hB rfl
                    refine VAll.snoc (i := 31) ?_ rfl rfl (fun h => absurd rfl h) ?_
                    rotate_left
                    · intro B y hI hL hg K E hK
                      have hB := hI
                      clear hg
                      have t176 : B.tmps[176]? = some (.int .i64 x.seq) := hL.at_ 24 (by decide) 176 rfl
                      have t182 : B.tmps[182]? = some (.int .i64 x'.seq) := hL.at_ 30 (by decide) 182 rfl
                      clear hL
                      refine Box.mk ?_
                      have hd : decide (x.seq ≤ x'.seq) = false := by simp; exact HRS.out
                      have hd2 : ¬ x.seq ≤ x'.seq := by have := HRS.out; omega
                      go_simp
                      exact hK.out _ _ hB rfl
                    refine VAll.snoc (i := 30) ?_ rfl rfl (fun h => absurd rfl h) ?_
                    rotate_left
                    · intro B y hI hL hg K E hK
                      have hB := hI
                      clear hg
                      have t181 : B.tmps[181]? = some (.pointer (some ⟨bl, ol + r * 10, none⟩)) := hL.at_ 29 (by decide) 181 rfl
                      clear hL
                      refine Box.mk ?_
                      have hc := (hB.cell (p := ⟨bl, ol + r * 10, none⟩) HBR.out).trans HXR.out
                      go_simp
                      exact hK.out _ _ hB rfl
                    refine VAll.snoc (i := 29) ?_ rfl rfl (fun h => absurd rfl h) ?_
                    rotate_left
                    · intro B y hI hL hg K E hK
                      have hB := hI
                      clear hg
                      have t180 : B.tmps[180]? = some (.pointer (some ⟨bl, ol + r * 10, none⟩)) := hL.at_ 28 (by decide) 180 rfl
                      clear hL
                      refine Box.mk ?_
                      go_simp
                      exact hK.out _ _ hB rfl
                    refine VAll.snoc (i := 28) ?_ rfl rfl (fun h => absurd rfl h) ?_
                    rotate_left
                    · intro B y hI hL hg K E hK
                      have hB := hI
                      clear hg
                      have t177 : B.tmps[177]? = some (.slice (some ⟨bl, ol, none⟩) m lc) := hL.at_ 25 (by decide) 177 rfl
                      have t179 : B.tmps[179]? = some (.int .i64 (r : Int)) := hL.at_ 27 (by decide) 179 rfl
                      clear hL
                      refine Box.mk ?_
                      have hd1 : (0 : Int) ≤ (r : Int) := by omega
                      have hd2 : (r : Int) < (m : Int) := by omega
                      go_simp
                      exact hK.out _ _ hB rfl
                    refine VAll.snoc (i := 27) ?_ rfl rfl (fun h => absurd rfl h) ?_
                    rotate_left
                    · intro B y hI hL hg K E hK
                      have hB := hI
                      clear hg
                      have t178 : B.tmps[178]? = some (.int .i64 ((r + 1 : Nat) : Int)) := hL.at_ 26 (by decide) 178 rfl
                      clear hL
                      refine Box.mk ?_
                      have hw6 : IntKind.i64.wrap (((r + 1 : Nat) : Int) - 1) = (r : Int) := by rw [IntWalk.i64_in _ (by omega)]; omega
                      have hw7 : IntKind.i64.wrap (r : Int) = (r : Int) := IntWalk.i64_in _ (by omega)
                      go_simp
                      exact hK.out _ _ hB rfl
                    refine VAll.snoc (i := 26) ?_ rfl rfl (fun h => absurd rfl h) ?_
                    rotate_left
                    · intro B y hI hL hg K E hK
                      have hB := hI
                      clear hg
                      have t18 : B.tmps[18]? = some (.int .i64 ((r + 1 : Nat) : Int)) := (hL.out 18 rfl).trans rfl
                      clear hL
                      refine Box.mk ?_
                      go_simp
                      exact hK.out _ _ hB rfl
                    refine VAll.snoc (i := 25) ?_ rfl rfl (fun h => absurd rfl h) ?_
                    rotate_left
                    · intro B y hI hL hg K E hK
                      have hB := hI
                      clear hg
                      have t17 : B.tmps[17]? = some (.slice (some ⟨bl, ol, none⟩) m lc) := (hL.out 17 rfl).trans rfl
                      clear hL
                      refine Box.mk ?_
                      go_simp
                      exact hK.out _ _ hB rfl
                    refine VAll.snoc (i := 24) ?_ rfl rfl (fun h => absurd rfl h) ?_
                    rotate_left
                    · intro B y hI hL hg K E hK
                      have hB := hI
                      clear hg
                      have t175 : B.tmps[175]? = some (.pointer (some ⟨p, 0, none⟩)) := hL.at_ 23 (by decide) 175 rfl
                      clear hL
                      refine Box.mk ?_
                      have hc := (hB.cell (p := ⟨p, 0, none⟩) HKX.out.lt).trans (HKX.out.cell 0)
                      go_simp
                      exact hK.out _ _ hB rfl
                    refine VAll.snoc (i := 23) ?_ rfl rfl (fun h => absurd rfl h) ?_
                    rotate_left
                    · intro B y hI hL hg K E hK
                      have hB := hI
                      clear hg
                      have t19 : B.tmps[19]? = some (.pointer (some ⟨p, 0, none⟩)) := (hL.out 19 rfl).trans rfl
                      clear hL
                      refine Box.mk ?_
                      go_simp
                      exact hK.out _ _ hB rfl
                    refine VAll.snoc (i := 22) ?_ rfl rfl (fun h => absurd rfl h) ?_
                    rotate_left
                    · intro B y hI hL hg K E hK
                      have hB := hI
                      clear hg
                      have t173 : B.tmps[173]? = some (.bool true) := hL.at_ 21 (by decide) 173 rfl
                      clear hL
                      refine Box.mk ?_
                      go_simp
                      exact hK.out _ _ hB rfl
                    refine VAll.snoc (i := 21) ?_ rfl rfl (fun h => absurd rfl h) ?_
                    rotate_left
                    · intro B y hI hL hg K E hK
                      have hB := hI
                      clear hg
                      have t172 : B.tmps[172]? = some (.int .i64 ((r + 1 : Nat) : Int)) := hL.at_ 20 (by decide) 172 rfl
                      clear hL
                      refine Box.mk ?_
                      have hd : decide ((0 : Int) < ((r + 1 : Nat) : Int)) = true := decide_eq_true (by omega)
                      have hd2 : (0 : Int) < ((r + 1 : Nat) : Int) := by omega
                      go_simp
                      exact hK.out _ _ hB rfl
                    refine VAll.snoc (i := 20) ?_ rfl rfl (fun h => absurd rfl h) ?_
                    rotate_left
                    · intro B y hI hL hg K E hK
                      have hB := hI
                      clear hg
                      have t18 : B.tmps[18]? = some (.int .i64 ((r + 1 : Nat) : Int)) := (hL.out 18 rfl).trans rfl
                      clear hL
                      refine Box.mk ?_
                      go_simp
                      exact hK.out _ _ hB rfl
                    refine VAll.snoc (i := 19) ?_ rfl rfl trivial ?_
                    rotate_left
                    · intro B y hI hL K E hK
                      have hB := hI
                      have t170 : B.tmps[170]? = some (.bool false) := hL.at_ 18 (by decide) 170 rfl
                      clear hL
                      refine Box.mk ?_
                      go_simp
                      exact hK.out _ _ hB rfl
                    refine VAll.snoc (i := 18) ?_ rfl rfl trivial ?_
                    rotate_left
                    · intro B y hI hL K E hK
                      have hB := hI
                      have t165 : B.tmps[165]? = some (.bool false) := hL.at_ 13 (by decide) 165 rfl
                      have t169 : B.tmps[169]? = some (.bool false) := hL.at_ 17 (by decide) 169 rfl
                      clear hL
                      refine Box.mk ?_
                      go_simp
                      exact hK.out _ _ hB rfl
                    refine VAll.snoc (i := 17) ?_ rfl rfl (fun h => absurd rfl h) ?_
                    rotate_left
                    · intro B y hI hL hg K E hK
                      have hB := hI
                      clear hg
                      have t167 : B.tmps[167]? = some (.int .i64 x.seq) := hL.at_ 15 (by decide) 167 rfl
                      have t168 : B.tmps[168]? = some (.int .i64 (xs'.length : Int)) := hL.at_ 16 (by decide) 168 rfl
                      clear hL
                      refine Box.mk ?_
                      have hd : decide ((xs'.length : Int) < x.seq) = false := by simp; have := HLA.out; omega
                      have hd2 : ¬ (xs'.length : Int) < x.seq := by have := HLA.out; omega
                      go_simp
                      exact hK.out _ _ hB rfl
                    refine VAll.snoc (i := 16) ?_ rfl rfl (fun h => absurd rfl h) ?_
                    rotate_left
                    · intro B y hI hL hg K E hK
                      have hB := hI
                      clear hg
                      have t7 : B.tmps[7]? = some (.int .i64 (xs'.length : Int)) := (hL.out 7 rfl).trans rfl
                      clear hL
                      refine Box.mk ?_
                      go_simp
                      exact hK.out _ _ hB rfl
                    refine VAll.snoc (i := 15) ?_ rfl rfl (fun h => absurd rfl h) ?_
                    rotate_left
                    · intro B y hI hL hg K E hK
                      have hB := hI
                      clear hg
                      have t166 : B.tmps[166]? = some (.pointer (some ⟨p, 0, none⟩)) := hL.at_ 14 (by decide) 166 rfl
                      clear hL
                      refine Box.mk ?_
                      have hc := (hB.cell (p := ⟨p, 0, none⟩) HKX.out.lt).trans (HKX.out.cell 0)
                      go_simp
                      exact hK.out _ _ hB rfl
                    refine VAll.snoc (i := 14) ?_ rfl rfl (fun h => absurd rfl h) ?_
                    rotate_left
                    · intro B y hI hL hg K E hK
                      have hB := hI
                      clear hg
                      have t19 : B.tmps[19]? = some (.pointer (some ⟨p, 0, none⟩)) := (hL.out 19 rfl).trans rfl
                      clear hL
                      refine Box.mk ?_
                      go_simp
                      exact hK.out _ _ hB rfl
                    refine VAll.snoc (i := 13) ?_ rfl rfl trivial ?_
                    rotate_left
                    · intro B y hI hL K E hK
                      have hB := hI
                      have t164 : B.tmps[164]? = some (.bool false) := hL.at_ 12 (by decide) 164 rfl
                      clear hL
                      refine Box.mk ?_
                      go_simp
                      exact hK.out _ _ hB rfl
                    refine VAll.snoc (i := 12) ?_ rfl rfl trivial ?_
                    rotate_left
                    · intro B y hI hL K E hK
                      have hB := hI
                      have t157 : B.tmps[157]? = some (.bool false) := hL.at_ 5 (by decide) 157 rfl
                      have t163 : B.tmps[163]? = some (.bool false) := hL.at_ 11 (by decide) 163 rfl
                      clear hL
                      refine Box.mk ?_
                      go_simp
                      exact hK.out _ _ hB rfl
                    refine VAll.snoc (i := 11) ?_ rfl rfl (fun h => absurd rfl h) ?_
                    rotate_left
                    · intro B y hI hL hg K E hK
                      have hB := hI
                      clear hg
                      have t159 : B.tmps[159]? = some (.int .i64 x.seq) := hL.at_ 7 (by decide) 159 rfl
                      have t162 : B.tmps[162]? = some (.int .i64 (CA.low s' + 8)) := hL.at_ 10 (by decide) 162 rfl
                      clear hL
                      refine Box.mk ?_
                      have hd : decide (CA.low s' + 8 ≤ x.seq) = false := by simp; have := HWI.out; omega
                      have hd2 : ¬ CA.low s' + 8 ≤ x.seq := by have := HWI.out; omega
                      go_simp
                      exact hK.out _ _ hB rfl
                    refine VAll.snoc (i := 10) ?_ rfl rfl (fun h => absurd rfl h) ?_
                    rotate_left
                    · intro B y hI hL hg K E hK
                      have hB := hI
                      clear hg
                      have t161 : B.tmps[161]? = some (.int .i64 (CA.low s')) := hL.at_ 9 (by decide) 161 rfl
                      clear hL
                      refine Box.mk ?_
                      have hw4 : IntKind.i64.wrap (CA.low s' + 8) = CA.low s' + 8 := IntWalk.i64_in _ (by have := HLR.out; omega)
                      go_simp
                      exact hK.out _ _ hB rfl
                    refine VAll.snoc (i := 9) ?_ rfl rfl (fun h => absurd rfl h) ?_
                    rotate_left
                    · intro B y hI hL hg K E hK
                      have hB := hI
                      clear hg
                      have t160 : B.tmps[160]? = some (.pointer (some ⟨g, 0, none⟩)) := hL.at_ 8 (by decide) 160 rfl
                      clear hL
                      refine Box.mk ?_
                      go_simp
                      with_reducible refine (Low_any (HC9.out.below hB)).mono ?_
                      rintro e w5 ⟨rfl, hb⟩
                      go_simp
                      exact hK.out _ _ (below_on hB hb) rfl
                    refine VAll.snoc (i := 8) ?_ rfl rfl (fun h => absurd rfl h) ?_
                    rotate_left
                    · intro B y hI hL hg K E hK
                      have hB := hI
                      clear hg
                      have t5 : B.tmps[5]? = some (.pointer (some ⟨g, 0, none⟩)) := (hL.out 5 rfl).trans rfl
                      clear hL
                      refine Box.mk ?_
                      go_simp
                      exact hK.out _ _ hB rfl
                    refine VAll.snoc (i := 7) ?_ rfl rfl (fun h => absurd rfl h) ?_
                    rotate_left
                    · intro B y hI hL hg K E hK
                      have hB := hI
                      clear hg
                      have t158 : B.tmps[158]? = some (.pointer (some ⟨p, 0, none⟩)) := hL.at_ 6 (by decide) 158 rfl
                      clear hL
                      refine Box.mk ?_
                      have hc := (hB.cell (p := ⟨p, 0, none⟩) HKX.out.lt).trans (HKX.out.cell 0)
                      go_simp
                      exact hK.out _ _ hB rfl
                    refine VAll.snoc (i := 6) ?_ rfl rfl (fun h => absurd rfl h) ?_
                    rotate_left
                    · intro B y hI hL hg K E hK
                      have hB := hI
                      clear hg
                      have t19 : B.tmps[19]? = some (.pointer (some ⟨p, 0, none⟩)) := (hL.out 19 rfl).trans rfl
                      clear hL
                      refine Box.mk ?_
                      go_simp
                      exact hK.out _ _ hB rfl
                    refine VAll.snoc (i := 5) ?_ rfl rfl trivial ?_
                    rotate_left
                    · intro B y hI hL K E hK
                      have hB := hI
                      have t156 : B.tmps[156]? = some (.bool false) := hL.at_ 4 (by decide) 156 rfl
                      clear hL
                      refine Box.mk ?_
                      go_simp
                      exact hK.out _ _ hB rfl
                    refine VAll.snoc (i := 4) ?_ rfl rfl trivial ?_
                    rotate_left
                    · intro B y hI hL K E hK
                      have hB := hI
                      have t153 : B.tmps[153]? = some (.int .i64 x.seq) := hL.at_ 1 (by decide) 153 rfl
                      have t155 : B.tmps[155]? = some (.int .i64 (CA.low s')) := hL.at_ 3 (by decide) 155 rfl
                      clear hL
                      refine Box.mk ?_
                      have hd : decide (x.seq < CA.low s') = false := by simp; exact HLE.out
                      have hd2 : ¬ x.seq < CA.low s' := by have := HLE.out; omega
                      go_simp
                      exact hK.out _ _ hB rfl
                    refine VAll.snoc (i := 3) ?_ rfl rfl trivial ?_
                    rotate_left
                    · intro B y hI hL K E hK
                      have hB := hI
                      have t154 : B.tmps[154]? = some (.pointer (some ⟨g, 0, none⟩)) := hL.at_ 2 (by decide) 154 rfl
                      clear hL
                      refine Box.mk ?_
                      go_simp
                      with_reducible refine (Low_any (HC9.out.below hB)).mono ?_
                      rintro e w5 ⟨rfl, hb⟩
                      go_simp
                      exact hK.out _ _ (below_on hB hb) rfl
                    refine VAll.snoc (i := 2) ?_ rfl rfl trivial ?_
                    rotate_left
                    · intro B y hI hL K E hK
                      have hB := hI
                      have t5 : B.tmps[5]? = some (.pointer (some ⟨g, 0, none⟩)) := (hL.out 5 rfl).trans rfl
                      clear hL
                      refine Box.mk ?_
                      go_simp
                      exact hK.out _ _ hB rfl
                    refine VAll.snoc (i := 1) ?_ rfl rfl trivial ?_
                    rotate_left
                    · intro B y hI hL K E hK
                      have hB := hI
                      have t152 : B.tmps[152]? = some (.pointer (some ⟨p, 0, none⟩)) := hL.at_ 0 (by decide) 152 rfl
                      clear hL
                      refine Box.mk ?_
                      have hc := (hB.cell (p := ⟨p, 0, none⟩) HKX.out.lt).trans (HKX.out.cell 0)
                      go_simp
                      exact hK.out _ _ hB rfl
                    refine VAll.snoc (i := 0) ?_ rfl rfl trivial ?_
                    rotate_left
                    · intro B y hI hL K E hK
                      have hB := hI
                      have t19 : B.tmps[19]? = some (.pointer (some ⟨p, 0, none⟩)) := (hL.out 19 rfl).trans rfl
                      clear hL
                      refine Box.mk ?_
                      go_simp
                      exact hK.out _ _ hB rfl
                    exact VAll.nil
                  · intro vs y hI hall
                    have hB := hI
                    have e49 : vs 49 = .bool false := hall 49 (by decide)
                    clear hall
                    refine Box.mk ?_
                    simp only [e49, ch, cq, allPut, puts, Act.put, List.setIfInBounds_toArray, List.set_cons_zero, List.set_cons_succ]
                    go_wp2_with fail
                    go_meet
                    exact ⟨rfl, Lib.hid hB⟩
            case rest =>
            obtain ⟨rfl, HB10⟩ := hcut
            as_aux_lemma =>
              have HC10 := Lib.hid (HC9.out.below HB10.out)
              have HX10 := Lib.hid (show ClBlk wc p x from blk_on HKX.out HB10.out)
              have HBA := Lib.hid (below_on HB8.out HB10.out)
              clear HB10 HC9 HKX HB8 HSE HB2
              have x0 : wc.cell? ⟨p, 0, none⟩ = some (.int .i64 x.seq) := HX10.out.cell 0
              have x1 : wc.cell? ⟨p, 1, none⟩ = some (.int .i64 x.dst) := HX10.out.cell 1
              have HDR := Lib.hid (dst_rng (HI6.out.may x HXM.out))
              have hwd : IntKind.i64.wrap (x.dst + 3) = x.dst + 3 := IntWalk.i64_in _ (by have := HDR.out; omega)
              obtain ⟨fr, hfr⟩ : ∃ fr, (x.dst + 3).tmod 8 = fr := ⟨_, rfl⟩
              have HFR := Lib.hid (show (0 ≤ fr ∧ fr < 8) ∧ fr ≠ x.dst by
                have h1 := HDR.out
                have h2 : (x.dst + 3).tmod 8 = (x.dst + 3) % 8 := Int.tmod_eq_emod_of_nonneg (by omega)
                rw [hfr] at h2
                omega)
              have HWX := Lib.hid (HC10.out.wide x HXM.out)
              have HAY := Lib.hid (ask_yes HI6.out HXM.out HFR.out.1 HFR.out.2)
              have HAN := Lib.hid (ask_self HI6.out HXM.out)
              have HVT := Lib.hid (ask_valid HI6.out HXM.out HFR.out.1 HFR.out.2)
              have HI64 := Lib.hid (show In64 fr ∧ In64 n0 ∧ In64 x.seq ∧ In64 (CA.low s') ∧ In64 x.dst by
                have h1 := HFR.out
                have h2 := HBT.out
                have h3 := HLO.out
                have h4 := HLR.out
                have h5 := HDR.out
                have h6 := HI6.out.next
                unfold In64
                omega)
              rw [HSN5.out.boot] at HAY HVT
              go_wp2_with fail
              try rw [hfr]
              clear hfr hwd x0 x1
              refine (Ask_any HC10.out fr x.seq HI64.out.1).mono ?_
              rintro e w11 ⟨rfl, hb⟩
              rw [HAY.out.1, HAY.out.2]
              have HC11 := Lib.hid (HC10.out.below hb)
              have HX11 := Lib.hid (show ClBlk w11 p x from blk_on HX10.out hb)
              have HB11 := Lib.hid (below_on HBA.out hb)
              clear hb HC10 HX10 HBA HAY
              have HC12 := Lib.hid (HC11.out.below ((Below.refl _ w11).alloc (Nat.le_refl _) (.cells (cellsM (CA.askM x fr n0 x.seq (CA.low s')) (.slice none 0 0)) 45)))
              have HX12 := Lib.hid (show ClBlk (w11.alloc (.cells (cellsM (CA.askM x fr n0 x.seq (CA.low s')) (.slice none 0 0)) 45)) p x from HX11.out.alloc _)
              have HB12 := Lib.hid (HB11.out.alloc HB11.out.size (.cells (cellsM (CA.askM x fr n0 x.seq (CA.low s')) (.slice none 0 0)) 45))
              have HM12 := Lib.hid (show MsgBlk (w11.alloc (.cells (cellsM (CA.askM x fr n0 x.seq (CA.low s')) (.slice none 0 0)) 45)) w11.heap.size (CA.askM x fr n0 x.seq (CA.low s')) (.slice none 0 0) from Whole.new w11 _ _)
              clear HC11 HX11 HB11
              rw [show cellsM (CA.askM x fr n0 x.seq (CA.low s')) (.slice none 0 0) = #[.int .i64 1, .int .i64 fr, .int .i64 x.dst, .int .i64 n0, .int .i64 x.seq, .int .i64 (CA.low s'), .int .i64 x.verb, .string x.path, .int .i64 x.mode, .int .i64 x.term, .int .i64 x.id, .bool x.fresh, .int .i64 0, .slice none 0 0, .int .i64 0, .int .i64 0] from rfl] at HC12 HX12 HB12 HM12 ⊢
              go_upto_region 37 with (fail)
              generalize w11.alloc _ = w12 at HC12 HX12 HB12 HM12 ⊢
              generalize w11.heap.size = p20 at HM12 ⊢
              have x0 : w12.cell? ⟨p, 0, none⟩ = some (.int .i64 x.seq) := HX12.out.cell 0
              have x1 : w12.cell? ⟨p, 1, none⟩ = some (.int .i64 x.dst) := HX12.out.cell 1
              go_wp2_with fail
              clear x0 x1
              refine (Ask_any HC12.out x.dst x.seq HI64.out.2.2.2.2).mono ?_
              rintro e w13 ⟨rfl, hb⟩
              rw [HAN.out.1, HAN.out.2]
              have HC13 := Lib.hid (HC12.out.below hb)
              have HX13 := Lib.hid (show ClBlk w13 p x from blk_on HX12.out hb)
              have HM13 := Lib.hid (show MsgBlk w13 p20 (CA.askM x fr n0 x.seq (CA.low s')) (.slice none 0 0) from blk_on HM12.out hb)
              have HB13 := Lib.hid (below_on HB12.out hb)
              clear hb HC12 HX12 HB12 HM12 HAN
              rw [show cellsM WM.zero (.slice none 0 0) = #[.int .i64 0, .int .i64 0, .int .i64 0, .int .i64 0, .int .i64 0, .int .i64 0, .int .i64 0, .string ⟨#[]⟩, .int .i64 0, .int .i64 0, .int .i64 0, .bool false, .int .i64 0, .slice none 0 0, .int .i64 0, .int .i64 0] from rfl]
              have HC14 := Lib.hid (HC13.out.below ((Below.refl _ w13).alloc (Nat.le_refl _) (.cells #[.int .i64 0, .int .i64 0, .int .i64 0, .int .i64 0, .int .i64 0, .int .i64 0, .int .i64 0, .string ⟨#[]⟩, .int .i64 0, .int .i64 0, .int .i64 0, .bool false, .int .i64 0, .slice none 0 0, .int .i64 0, .int .i64 0] 45)))
              have HX14 := Lib.hid (show ClBlk (w13.alloc (.cells #[.int .i64 0, .int .i64 0, .int .i64 0, .int .i64 0, .int .i64 0, .int .i64 0, .int .i64 0, .string ⟨#[]⟩, .int .i64 0, .int .i64 0, .int .i64 0, .bool false, .int .i64 0, .slice none 0 0, .int .i64 0, .int .i64 0] 45)) p x from HX13.out.alloc _)
              have HM14 := Lib.hid (show MsgBlk (w13.alloc (.cells #[.int .i64 0, .int .i64 0, .int .i64 0, .int .i64 0, .int .i64 0, .int .i64 0, .int .i64 0, .string ⟨#[]⟩, .int .i64 0, .int .i64 0, .int .i64 0, .bool false, .int .i64 0, .slice none 0 0, .int .i64 0, .int .i64 0] 45)) p20 (CA.askM x fr n0 x.seq (CA.low s')) (.slice none 0 0) from HM13.out.alloc _)
              have HB14 := Lib.hid (HB13.out.alloc HB13.out.size (.cells #[.int .i64 0, .int .i64 0, .int .i64 0, .int .i64 0, .int .i64 0, .int .i64 0, .int .i64 0, .string ⟨#[]⟩, .int .i64 0, .int .i64 0, .int .i64 0, .bool false, .int .i64 0, .slice none 0 0, .int .i64 0, .int .i64 0] 45))
              clear HC13 HX13 HB13 HM13
              go_upto_region 38 with (fail)
              generalize w13.alloc _ = w14 at HC14 HX14 HB14 HM14 ⊢
              generalize w13.heap.size = p22
              as_aux_lemma =>
                refine region_vany [some 222, some 223, some 224, some 225, some 226, some 227, some 228, some 229, some 230, some 231, some 232, some 233, some 234, some 235, some 236, some 237, some 238, some 239, some 240, some 241, some 242, some 243, some 244, some 245, some 246, some 247, some 248, some 249, some 250, some 251, some 252, some 253, some 254, some 255, some 256, some 257, some 258, some 259, some 260, some 261, some 262, some 263, some 264, some 265, some 266, some 267, some 268, some 269, some 270, some 271, some 272, some 273, some 274, some 275, some 276, some 277, some 278, some 279, some 280, some 281, some 282, some 283, some 284, some 285, some 286, some 287, some 288, some 289, some 290, some 291, some 292, some 293, some 294, some 295, some 296, some 297, some 298, some 299, some 300, some 301, some 302, some 303, some 304, some 305] [.bool true, .bool false, .bool false, .bool false, .bool false, .bool false, .agg (cellsM (CA.askM x fr n0 x.seq (CA.low s')) (.slice none 0 0)), .bool true, .bool false, .bool false, .bool false, .pointer (some ⟨p20, 0, none⟩), .int .i64 1, .bool false, .bool false, .bool false, .pointer (some ⟨p20, 2, none⟩), .int .i64 x.dst, .pointer (some ⟨p, 1, none⟩), .int .i64 x.dst, .bool false, .bool false, .bool false, .pointer (some ⟨p20, 3, none⟩), .int .i64 n0, .int .i64 n0, .bool false, .bool false, .bool false, .pointer (some ⟨p20, 4, none⟩), .int .i64 x.seq, .pointer (some ⟨p, 0, none⟩), .int .i64 x.seq, .bool false, .bool false, .bool false, .pointer (some ⟨p20, 5, none⟩), .int .i64 (CA.low s'), .pointer (some ⟨g, 0, none⟩), .int .i64 (CA.low s'), .bool false, .bool false, .bool false, .pointer (some ⟨p20, 6, none⟩), .int .i64 x.verb, .pointer (some ⟨p, 2, none⟩), .int .i64 x.verb, .bool false, .bool false, .bool false, .pointer (some ⟨p20, 7, none⟩), .string x.path, .pointer (some ⟨p, 3, none⟩), .string x.path, .bool false, .bool false, .bool false, .pointer (some ⟨p20, 8, none⟩), .int .i64 x.mode, .pointer (some ⟨p, 4, none⟩), .int .i64 x.mode, .bool false, .bool false, .bool false, .pointer (some ⟨p20, 9, none⟩), .int .i64 x.term, .pointer (some ⟨p, 5, none⟩), .int .i64 x.term, .bool false, .bool false, .bool false, .pointer (some ⟨p20, 10, none⟩), .int .i64 x.id, .pointer (some ⟨p, 6, none⟩), .int .i64 x.id, .bool false, .bool false, .bool false, .pointer (some ⟨p20, 11, none⟩), .bool x.fresh, .pointer (some ⟨p, 7, none⟩), .bool x.fresh, .bool false, .bool false] (fun y => Below w14.heap.size w14 y) [[], [0], [0, 1], [0, 1, 2], [0, 1, 2, 3], [0, 1, 2, 3, 4], [0, 1, 2, 3, 4, 5], [0, 1, 2, 3, 4, 5, 6], [0, 1, 2, 3, 4, 5, 6, 7], [0, 1, 2, 3, 4, 5, 6, 7, 8], [0, 1, 2, 3, 4, 5, 6, 7, 8, 9], [0, 1, 2, 3, 4, 5, 6, 7, 8, 9, 10], [0, 1, 2, 3, 4, 5, 6, 7, 8, 9, 10, 11], [0, 1, 2, 3, 4, 5, 6, 7, 8, 9, 10, 11, 12], [0, 1, 2, 3, 4, 5, 6, 7, 8, 9, 10, 11, 12, 13], [0, 1, 2, 3, 4, 5, 6, 7, 8, 9, 10, 11, 12, 13, 14], [0, 1, 2, 3, 4, 5, 6, 7, 8, 9, 10, 11, 12, 13, 14, 15], [0, 1, 2, 3, 4, 5, 6, 7, 8, 9, 10, 11, 12, 13, 14, 15, 16], [0, 1, 2, 3, 4, 5, 6, 7, 8, 9, 10, 11, 12, 13, 14, 15], [0, 1, 2, 3, 4, 5, 6, 7, 8, 9, 10, 11, 12, 13, 14, 15, 18], [0, 1, 2, 3, 4, 5, 6, 7, 8, 9, 10, 11, 12, 13, 14, 15, 16, 17, 18, 19], [0, 1, 2, 3, 4, 5, 6, 7, 8, 9, 10, 11, 12, 13, 14, 15, 16, 17, 18, 19, 20], [0, 1, 2, 3, 4, 5, 6, 7, 8, 9, 10, 11, 12, 13, 14, 15, 16, 17, 18, 19, 20, 21], [0, 1, 2, 3, 4, 5, 6, 7, 8, 9, 10, 11, 12, 13, 14, 15, 16, 17, 18, 19, 20, 21, 22], [0, 1, 2, 3, 4, 5, 6, 7, 8, 9, 10, 11, 12, 13, 14, 15, 16, 17, 18, 19, 20, 21, 22, 23], [0, 1, 2, 3, 4, 5, 6, 7, 8, 9, 10, 11, 12, 13, 14, 15, 16, 17, 18, 19, 20, 21, 22], [0, 1, 2, 3, 4, 5, 6, 7, 8, 9, 10, 11, 12, 13, 14, 15, 16, 17, 18, 19, 20, 21, 22, 23, 24, 25], [0, 1, 2, 3, 4, 5, 6, 7, 8, 9, 10, 11, 12, 13, 14, 15, 16, 17, 18, 19, 20, 21, 22, 23, 24, 25, 26], [0, 1, 2, 3, 4, 5, 6, 7, 8, 9, 10, 11, 12, 13, 14, 15, 16, 17, 18, 19, 20, 21, 22, 23, 24, 25, 26, 27], [0, 1, 2, 3, 4, 5, 6, 7, 8, 9, 10, 11, 12, 13, 14, 15, 16, 17, 18, 19, 20, 21, 22, 23, 24, 25, 26, 27, 28], [0, 1, 2, 3, 4, 5, 6, 7, 8, 9, 10, 11, 12, 13, 14, 15, 16, 17, 18, 19, 20, 21, 22, 23, 24, 25, 26, 27, 28, 29], [0, 1, 2, 3, 4, 5, 6, 7, 8, 9, 10, 11, 12, 13, 14, 15, 16, 17, 18, 19, 20, 21, 22, 23, 24, 25, 26, 27, 28], [0, 1, 2, 3, 4, 5, 6, 7, 8, 9, 10, 11, 12, 13, 14, 15, 16, 17, 18, 19, 20, 21, 22, 23, 24, 25, 26, 27, 28, 31], [0, 1, 2, 3, 4, 5, 6, 7, 8, 9, 10, 11, 12, 13, 14, 15, 16, 17, 18, 19, 20, 21, 22, 23, 24, 25, 26, 27, 28, 29, 30, 31, 32], [0, 1, 2, 3, 4, 5, 6, 7, 8, 9, 10, 11, 12, 13, 14, 15, 16, 17, 18, 19, 20, 21, 22, 23, 24, 25, 26, 27, 28, 29, 30, 31, 32, 33], [0, 1, 2, 3, 4, 5, 6, 7, 8, 9, 10, 11, 12, 13, 14, 15, 16, 17, 18, 19, 20, 21, 22, 23, 24, 25, 26, 27, 28, 29, 30, 31, 32, 33, 34], [0, 1, 2, 3, 4, 5, 6, 7, 8, 9, 10, 11, 12, 13, 14, 15, 16, 17, 18, 19, 20, 21, 22, 23, 24, 25, 26, 27, 28, 29, 30, 31, 32, 33, 34, 35], [0, 1, 2, 3, 4, 5, 6, 7, 8, 9, 10, 11, 12, 13, 14, 15, 16, 17, 18, 19, 20, 21, 22, 23, 24, 25, 26, 27, 28, 29, 30, 31, 32, 33, 34, 35, 36], [0, 1, 2, 3, 4, 5, 6, 7, 8, 9, 10, 11, 12, 13, 14, 15, 16, 17, 18, 19, 20, 21, 22, 23, 24, 25, 26, 27, 28, 29, 30, 31, 32, 33, 34, 35], [0, 1, 2, 3, 4, 5, 6, 7, 8, 9, 10, 11, 12, 13, 14, 15, 16, 17, 18, 19, 20, 21, 22, 23, 24, 25, 26, 27, 28, 29, 30, 31, 32, 33, 34, 35, 38], [0, 1, 2, 3, 4, 5, 6, 7, 8, 9, 10, 11, 12, 13, 14, 15, 16, 17, 18, 19, 20, 21, 22, 23, 24, 25, 26, 27, 28, 29, 30, 31, 32, 33, 34, 35, 36, 37, 38, 39], [0, 1, 2, 3, 4, 5, 6, 7, 8, 9, 10, 11, 12, 13, 14, 15, 16, 17, 18, 19, 20, 21, 22, 23, 24, 25, 26, 27, 28, 29, 30, 31, 32, 33, 34, 35, 36, 37, 38, 39, 40], [0, 1, 2, 3, 4, 5, 6, 7, 8, 9, 10, 11, 12, 13, 14, 15, 16, 17, 18, 19, 20, 21, 22, 23, 24, 25, 26, 27, 28, 29, 30, 31, 32, 33, 34, 35, 36, 37, 38, 39, 40, 41], [0, 1, 2, 3, 4, 5, 6, 7, 8, 9, 10, 11, 12, 13, 14, 15, 16, 17, 18, 19, 20, 21, 22, 23, 24, 25, 26, 27, 28, 29, 30, 31, 32, 33, 34, 35, 36, 37, 38, 39, 40, 41, 42], [0, 1, 2, 3, 4, 5, 6, 7, 8, 9, 10, 11, 12, 13, 14, 15, 16, 17, 18, 19, 20, 21, 22, 23, 24, 25, 26, 27, 28, 29, 30, 31, 32, 33, 34, 35, 36, 37, 38, 39, 40, 41, 42, 43], [0, 1, 2, 3, 4, 5, 6, 7, 8, 9, 10, 11, 12, 13, 14, 15, 16, 17, 18, 19, 20, 21, 22, 23, 24, 25, 26, 27, 28, 29, 30, 31, 32, 33, 34, 35, 36, 37, 38, 39, 40, 41, 42], [0, 1, 2, 3, 4, 5, 6, 7, 8, 9, 10, 11, 12, 13, 14, 15, 16, 17, 18, 19, 20, 21, 22, 23, 24, 25, 26, 27, 28, 29, 30, 31, 32, 33, 34, 35, 36, 37, 38, 39, 40, 41, 42, 45], [0, 1, 2, 3, 4, 5, 6, 7, 8, 9, 10, 11, 12, 13, 14, 15, 16, 17, 18, 19, 20, 21, 22, 23, 24, 25, 26, 27, 28, 29, 30, 31, 32, 33, 34, 35, 36, 37, 38, 39, 40, 41, 42, 43, 44, 45, 46], [0, 1, 2, 3, 4, 5, 6, 7, 8, 9, 10, 11, 12, 13, 14, 15, 16, 17, 18, 19, 20, 21, 22, 23, 24, 25, 26, 27, 28, 29, 30, 31, 32, 33, 34, 35, 36, 37, 38, 39, 40, 41, 42, 43, 44, 45, 46, 47], [0, 1, 2, 3, 4, 5, 6, 7, 8, 9, 10, 11, 12, 13, 14, 15, 16, 17, 18, 19, 20, 21, 22, 23, 24, 25, 26, 27, 28, 29, 30, 31, 32, 33, 34, 35, 36, 37, 38, 39, 40, 41, 42, 43, 44, 45, 46, 47, 48], [0, 1, 2, 3, 4, 5, 6, 7, 8, 9, 10, 11, 12, 13, 14, 15, 16, 17, 18, 19, 20, 21, 22, 23, 24, 25, 26, 27, 28, 29, 30, 31, 32, 33, 34, 35, 36, 37, 38, 39, 40, 41, 42, 43, 44, 45, 46, 47, 48, 49], [0, 1, 2, 3, 4, 5, 6, 7, 8, 9, 10, 11, 12, 13, 14, 15, 16, 17, 18, 19, 20, 21, 22, 23, 24, 25, 26, 27, 28, 29, 30, 31, 32, 33, 34, 35, 36, 37, 38, 39, 40, 41, 42, 43, 44, 45, 46, 47, 48, 49, 50], [0, 1, 2, 3, 4, 5, 6, 7, 8, 9, 10, 11, 12, 13, 14, 15, 16, 17, 18, 19, 20, 21, 22, 23, 24, 25, 26, 27, 28, 29, 30, 31, 32, 33, 34, 35, 36, 37, 38, 39, 40, 41, 42, 43, 44, 45, 46, 47, 48, 49], [0, 1, 2, 3, 4, 5, 6, 7, 8, 9, 10, 11, 12, 13, 14, 15, 16, 17, 18, 19, 20, 21, 22, 23, 24, 25, 26, 27, 28, 29, 30, 31, 32, 33, 34, 35, 36, 37, 38, 39, 40, 41, 42, 43, 44, 45, 46, 47, 48, 49, 52], [0, 1, 2, 3, 4, 5, 6, 7, 8, 9, 10, 11, 12, 13, 14, 15, 16, 17, 18, 19, 20, 21, 22, 23, 24, 25, 26, 27, 28, 29, 30, 31, 32, 33, 34, 35, 36, 37, 38, 39, 40, 41, 42, 43, 44, 45, 46, 47, 48, 49, 50, 51, 52, 53], [0, 1, 2, 3, 4, 5, 6, 7, 8, 9, 10, 11, 12, 13, 14, 15, 16, 17, 18, 19, 20, 21, 22, 23, 24, 25, 26, 27, 28, 29, 30, 31, 32, 33, 34, 35, 36, 37, 38, 39, 40, 41, 42, 43, 44, 45, 46, 47, 48, 49, 50, 51, 52, 53, 54], [0, 1, 2, 3, 4, 5, 6, 7, 8, 9, 10, 11, 12, 13, 14, 15, 16, 17, 18, 19, 20, 21, 22, 23, 24, 25, 26, 27, 28, 29, 30, 31, 32, 33, 34, 35, 36, 37, 38, 39, 40, 41, 42, 43, 44, 45, 46, 47, 48, 49, 50, 51, 52, 53, 54, 55], [0, 1, 2, 3, 4, 5, 6, 7, 8, 9, 10, 11, 12, 13, 14, 15, 16, 17, 18, 19, 20, 21, 22, 23, 24, 25, 26, 27, 28, 29, 30, 31, 32, 33, 34, 35, 36, 37, 38, 39, 40, 41, 42, 43, 44, 45, 46, 47, 48, 49, 50, 51, 52, 53, 54, 55, 56], [0, 1, 2, 3, 4, 5, 6, 7, 8, 9, 10, 11, 12, 13, 14, 15, 16, 17, 18, 19, 20, 21, 22, 23, 24, 25, 26, 27, 28, 29, 30, 31, 32, 33, 34, 35, 36, 37, 38, 39, 40, 41, 42, 43, 44, 45, 46, 47, 48, 49, 50, 51, 52, 53, 54, 55, 56, 57], [0, 1, 2, 3, 4, 5, 6, 7, 8, 9, 10, 11, 12, 13, 14, 15, 16, 17, 18, 19, 20, 21, 22, 23, 24, 25, 26, 27, 28, 29, 30, 31, 32, 33, 34, 35, 36, 37, 38, 39, 40, 41, 42, 43, 44, 45, 46, 47, 48, 49, 50, 51, 52, 53, 54, 55, 56], [0, 1, 2, 3, 4, 5, 6, 7, 8, 9, 10, 11, 12, 13, 14, 15, 16, 17, 18, 19, 20, 21, 22, 23, 24, 25, 26, 27, 28, 29, 30, 31, 32, 33, 34, 35, 36, 37, 38, 39, 40, 41, 42, 43, 44, 45, 46, 47, 48, 49, 50, 51, 52, 53, 54, 55, 56, 59], [0, 1, 2, 3, 4, 5, 6, 7, 8, 9, 10, 11, 12, 13, 14, 15, 16, 17, 18, 19, 20, 21, 22, 23, 24, 25, 26, 27, 28, 29, 30, 31, 32, 33, 34, 35, 36, 37, 38, 39, 40, 41, 42, 43, 44, 45, 46, 47, 48, 49, 50, 51, 52, 53, 54, 55, 56, 57, 58, 59, 60], [0, 1, 2, 3, 4, 5, 6, 7, 8, 9, 10, 11, 12, 13, 14, 15, 16, 17, 18, 19, 20, 21, 22, 23, 24, 25, 26, 27, 28, 29, 30, 31, 32, 33, 34, 35, 36, 37, 38, 39, 40, 41, 42, 43, 44, 45, 46, 47, 48, 49, 50, 51, 52, 53, 54, 55, 56, 57, 58, 59, 60, 61], [0, 1, 2, 3, 4, 5, 6, 7, 8, 9, 10, 11, 12, 13, 14, 15, 16, 17, 18, 19, 20, 21, 22, 23, 24, 25, 26, 27, 28, 29, 30, 31, 32, 33, 34, 35, 36, 37, 38, 39, 40, 41, 42, 43, 44, 45, 46, 47, 48, 49, 50, 51, 52, 53, 54, 55, 56, 57, 58, 59, 60, 61, 62], [0, 1, 2, 3, 4, 5, 6, 7, 8, 9, 10, 11, 12, 13, 14, 15, 16, 17, 18, 19, 20, 21, 22, 23, 24, 25, 26, 27, 28, 29, 30, 31, 32, 33, 34, 35, 36, 37, 38, 39, 40, 41, 42, 43, 44, 45, 46, 47, 48, 49, 50, 51, 52, 53, 54, 55, 56, 57, 58, 59, 60, 61, 62, 63], [0, 1, 2, 3, 4, 5, 6, 7, 8, 9, 10, 11, 12, 13, 14, 15, 16, 17, 18, 19, 20, 21, 22, 23, 24, 25, 26, 27, 28, 29, 30, 31, 32, 33, 34, 35, 36, 37, 38, 39, 40, 41, 42, 43, 44, 45, 46, 47, 48, 49, 50, 51, 52, 53, 54, 55, 56, 57, 58, 59, 60, 61, 62, 63, 64], [0, 1, 2, 3, 4, 5, 6, 7, 8, 9, 10, 11, 12, 13, 14, 15, 16, 17, 18, 19, 20, 21, 22, 23, 24, 25, 26, 27, 28, 29, 30, 31, 32, 33, 34, 35, 36, 37, 38, 39, 40, 41, 42, 43, 44, 45, 46, 47, 48, 49, 50, 51, 52, 53, 54, 55, 56, 57, 58, 59, 60, 61, 62, 63], [0, 1, 2, 3, 4, 5, 6, 7, 8, 9, 10, 11, 12, 13, 14, 15, 16, 17, 18, 19, 20, 21, 22, 23, 24, 25, 26, 27, 28, 29, 30, 31, 32, 33, 34, 35, 36, 37, 38, 39, 40, 41, 42, 43, 44, 45, 46, 47, 48, 49, 50, 51, 52, 53, 54, 55, 56, 57, 58, 59, 60, 61, 62, 63, 66], [0, 1, 2, 3, 4, 5, 6, 7, 8, 9, 10, 11, 12, 13, 14, 15, 16, 17, 18, 19, 20, 21, 22, 23, 24, 25, 26, 27, 28, 29, 30, 31, 32, 33, 34, 35, 36, 37, 38, 39, 40, 41, 42, 43, 44, 45, 46, 47, 48, 49, 50, 51, 52, 53, 54, 55, 56, 57, 58, 59, 60, 61, 62, 63, 64, 65, 66, 67], [0, 1, 2, 3, 4, 5, 6, 7, 8, 9, 10, 11, 12, 13, 14, 15, 16, 17, 18, 19, 20, 21, 22, 23, 24, 25, 26, 27, 28, 29, 30, 31, 32, 33, 34, 35, 36, 37, 38, 39, 40, 41, 42, 43, 44, 45, 46, 47, 48, 49, 50, 51, 52, 53, 54, 55, 56, 57, 58, 59, 60, 61, 62, 63, 64, 65, 66, 67, 68], [0, 1, 2, 3, 4, 5, 6, 7, 8, 9, 10, 11, 12, 13, 14, 15, 16, 17, 18, 19, 20, 21, 22, 23, 24, 25, 26, 27, 28, 29, 30, 31, 32, 33, 34, 35, 36, 37, 38, 39, 40, 41, 42, 43, 44, 45, 46, 47, 48, 49, 50, 51, 52, 53, 54, 55, 56, 57, 58, 59, 60, 61, 62, 63, 64, 65, 66, 67, 68, 69], [0, 1, 2, 3, 4, 5, 6, 7, 8, 9, 10, 11, 12, 13, 14, 15, 16, 17, 18, 19, 20, 21, 22, 23, 24, 25, 26, 27, 28, 29, 30, 31, 32, 33, 34, 35, 36, 37, 38, 39, 40, 41, 42, 43, 44, 45, 46, 47, 48, 49, 50, 51, 52, 53, 54, 55, 56, 57, 58, 59, 60, 61, 62, 63, 64, 65, 66, 67, 68, 69, 70], [0, 1, 2, 3, 4, 5, 6, 7, 8, 9, 10, 11, 12, 13, 14, 15, 16, 17, 18, 19, 20, 21, 22, 23, 24, 25, 26, 27, 28, 29, 30, 31, 32, 33, 34, 35, 36, 37, 38, 39, 40, 41, 42, 43, 44, 45, 46, 47, 48, 49, 50, 51, 52, 53, 54, 55, 56, 57, 58, 59, 60, 61, 62, 63, 64, 65, 66, 67, 68, 69, 70, 71], [0, 1, 2, 3, 4, 5, 6, 7, 8, 9, 10, 11, 12, 13, 14, 15, 16, 17, 18, 19, 20, 21, 22, 23, 24, 25, 26, 27, 28, 29, 30, 31, 32, 33, 34, 35, 36, 37, 38, 39, 40, 41, 42, 43, 44, 45, 46, 47, 48, 49, 50, 51, 52, 53, 54, 55, 56, 57, 58, 59, 60, 61, 62, 63, 64, 65, 66, 67, 68, 69, 70], [0, 1, 2, 3, 4, 5, 6, 7, 8, 9, 10, 11, 12, 13, 14, 15, 16, 17, 18, 19, 20, 21, 22, 23, 24, 25, 26, 27, 28, 29, 30, 31, 32, 33, 34, 35, 36, 37, 38, 39, 40, 41, 42, 43, 44, 45, 46, 47, 48, 49, 50, 51, 52, 53, 54, 55, 56, 57, 58, 59, 60, 61, 62, 63, 64, 65, 66, 67, 68, 69, 70, 73], [0, 1, 2, 3, 4, 5, 6, 7, 8, 9, 10, 11, 12, 13, 14, 15, 16, 17, 18, 19, 20, 21, 22, 23, 24, 25, 26, 27, 28, 29, 30, 31, 32, 33, 34, 35, 36, 37, 38, 39, 40, 41, 42, 43, 44, 45, 46, 47, 48, 49, 50, 51, 52, 53, 54, 55, 56, 57, 58, 59, 60, 61, 62, 63, 64, 65, 66, 67, 68, 69, 70, 71, 72, 73, 74], [0, 1, 2, 3, 4, 5, 6, 7, 8, 9, 10, 11, 12, 13, 14, 15, 16, 17, 18, 19, 20, 21, 22, 23, 24, 25, 26, 27, 28, 29, 30, 31, 32, 33, 34, 35, 36, 37, 38, 39, 40, 41, 42, 43, 44, 45, 46, 47, 48, 49, 50, 51, 52, 53, 54, 55, 56, 57, 58, 59, 60, 61, 62, 63, 64, 65, 66, 67, 68, 69, 70, 71, 72, 73, 74, 75], [0, 1, 2, 3, 4, 5, 6, 7, 8, 9, 10, 11, 12, 13, 14, 15, 16, 17, 18, 19, 20, 21, 22, 23, 24, 25, 26, 27, 28, 29, 30, 31, 32, 33, 34, 35, 36, 37, 38, 39, 40, 41, 42, 43, 44, 45, 46, 47, 48, 49, 50, 51, 52, 53, 54, 55, 56, 57, 58, 59, 60, 61, 62, 63, 64, 65, 66, 67, 68, 69, 70, 71, 72, 73, 74, 75, 76], [0, 1, 2, 3, 4, 5, 6, 7, 8, 9, 10, 11, 12, 13, 14, 15, 16, 17, 18, 19, 20, 21, 22, 23, 24, 25, 26, 27, 28, 29, 30, 31, 32, 33, 34, 35, 36, 37, 38, 39, 40, 41, 42, 43, 44, 45, 46, 47, 48, 49, 50, 51, 52, 53, 54, 55, 56, 57, 58, 59, 60, 61, 62, 63, 64, 65, 66, 67, 68, 69, 70, 71, 72, 73, 74, 75, 76, 77], [0, 1, 2, 3, 4, 5, 6, 7, 8, 9, 10, 11, 12, 13, 14, 15, 16, 17, 18, 19, 20, 21, 22, 23, 24, 25, 26, 27, 28, 29, 30, 31, 32, 33, 34, 35, 36, 37, 38, 39, 40, 41, 42, 43, 44, 45, 46, 47, 48, 49, 50, 51, 52, 53, 54, 55, 56, 57, 58, 59, 60, 61, 62, 63, 64, 65, 66, 67, 68, 69, 70, 71, 72, 73, 74, 75, 76, 77, 78], [0, 1, 2, 3, 4, 5, 6, 7, 8, 9, 10, 11, 12, 13, 14, 15, 16, 17, 18, 19, 20, 21, 22, 23, 24, 25, 26, 27, 28, 29, 30, 31, 32, 33, 34, 35, 36, 37, 38, 39, 40, 41, 42, 43, 44, 45, 46, 47, 48, 49, 50, 51, 52, 53, 54, 55, 56, 57, 58, 59, 60, 61, 62, 63, 64, 65, 66, 67, 68, 69, 70, 71, 72, 73, 74, 75, 76, 77], [0, 1, 2, 3, 4, 5, 6, 7, 8, 9, 10, 11, 12, 13, 14, 15, 16, 17, 18, 19, 20, 21, 22, 23, 24, 25, 26, 27, 28, 29, 30, 31, 32, 33, 34, 35, 36, 37, 38, 39, 40, 41, 42, 43, 44, 45, 46, 47, 48, 49, 50, 51, 52, 53, 54, 55, 56, 57, 58, 59, 60, 61, 62, 63, 64, 65, 66, 67, 68, 69, 70, 71, 72, 73, 74, 75, 76, 77, 80], [0, 1, 2, 3, 4, 5, 6, 7, 8, 9, 10, 11, 12, 13, 14, 15, 16, 17, 18, 19, 20, 21, 22, 23, 24, 25, 26, 27, 28, 29, 30, 31, 32, 33, 34, 35, 36, 37, 38, 39, 40, 41, 42, 43, 44, 45, 46, 47, 48, 49, 50, 51, 52, 53, 54, 55, 56, 57, 58, 59, 60, 61, 62, 63, 64, 65, 66, 67, 68, 69, 70, 71, 72, 73, 74, 75, 76, 77, 78, 79, 80, 81], [0, 1, 2, 3, 4, 5, 6, 7, 8, 9, 10, 11, 12, 13, 14, 15, 16, 17, 18, 19, 20, 21, 22, 23, 24, 25, 26, 27, 28, 29, 30, 31, 32, 33, 34, 35, 36, 37, 38, 39, 40, 41, 42, 43, 44, 45, 46, 47, 48, 49, 50, 51, 52, 53, 54, 55, 56, 57, 58, 59, 60, 61, 62, 63, 64, 65, 66, 67, 68, 69, 70, 71, 72, 73, 74, 75, 76, 77, 78, 79, 80, 81, 82]] (by kernel_rfl) rfl (by kernel_rfl) (by kernel_rfl) (by kernel_rfl) (by exact (Below.refl _ _).drew) (Z := fun vs => ch _ vs 222 [83, 82, 81, 80, 79, 78, 77, 76, 75, 74, 73, 72, 71, 70, 69, 68, 67, 66, 65, 64, 63, 62, 61, 60, 59, 58, 57, 56, 55, 54, 53, 52, 51, 50, 49, 48, 47, 46, 45, 44, 43, 42, 41, 40, 39, 38, 37, 36, 35, 34, 33, 32, 31, 30, 29, 28, 27, 26, 25, 24, 23, 22, 21, 20, 19, 18, 17, 16, 15, 14, 13, 12, 11, 10, 9, 8, 7, 6, 5, 4, 3, 2, 1, 0]) (fun _ => rfl) ?_ ?_
                · skip
                  refine VAll.snoc (i := 83) ?_ rfl rfl trivial ?_
                  rotate_left
                  · intro B y hI hL K E hK
                    have hB := hI
                    have t299 : B.tmps[299]? = some (.bool false) := hL.at_ 77 (by decide) 299 rfl
                    have t304 : B.tmps[304]? = some (.bool false) := hL.at_ 82 (by decide) 304 rfl
                    clear hL
                    refine Box.mk ?_
                    go_simp
                    exact hK.out _ _ hB rfl
                  refine VAll.snoc (i := 82) ?_ rfl rfl (fun h => absurd rfl h) ?_
                  rotate_left
                  · intro B y hI hL hg K E hK
                    have hB := hI
                    clear hg
                    have t301 : B.tmps[301]? = some (.bool x.fresh) := hL.at_ 79 (by decide) 301 rfl
                    have t303 : B.tmps[303]? = some (.bool x.fresh) := hL.at_ 81 (by decide) 303 rfl
                    clear hL
                    refine Box.mk ?_
                    go_simp
                    exact hK.out _ _ hB rfl
                  refine VAll.snoc (i := 81) ?_ rfl rfl (fun h => absurd rfl h) ?_
                  rotate_left
                  · intro B y hI hL hg K E hK
                    have hB := hI
                    clear hg
                    have t302 : B.tmps[302]? = some (.pointer (some ⟨p, 7, none⟩)) := hL.at_ 80 (by decide) 302 rfl
                    clear hL
                    refine Box.mk ?_
                    have hc : y.cell? ⟨p, 7, none⟩ = some (.bool x.fresh) := (hB.cell (p := ⟨p, 7, none⟩) HX14.out.lt).trans (HX14.out.cell 7)
                    go_simp
                    exact hK.out _ _ hB rfl
                  refine VAll.snoc (i := 80) ?_ rfl rfl (fun h => absurd rfl h) ?_
                  rotate_left
                  · intro B y hI hL hg K E hK
                    have hB := hI
                    clear hg
                    have t19 : B.tmps[19]? = some (.pointer (some ⟨p, 0, none⟩)) := (hL.out 19 rfl).trans rfl
                    clear hL
                    refine Box.mk ?_
                    go_simp
                    exact hK.out _ _ hB rfl
                  refine VAll.snoc (i := 79) ?_ rfl rfl (fun h => absurd rfl h) ?_
                  rotate_left
                  · intro B y hI hL hg K E hK
                    have hB := hI
                    clear hg
                    have t300 : B.tmps[300]? = some (.pointer (some ⟨p20, 11, none⟩)) := hL.at_ 78 (by decide) 300 rfl
                    clear hL
                    refine Box.mk ?_
                    have hc : y.cell? ⟨p20, 11, none⟩ = some (.bool x.fresh) := (hB.cell (p := ⟨p20, 11, none⟩) HM14.out.lt).trans (HM14.out.cell 11)
                    go_simp
                    exact hK.out _ _ hB rfl
                  refine VAll.snoc (i := 78) ?_ rfl rfl (fun h => absurd rfl h) ?_
                  rotate_left
                  · intro B y hI hL hg K E hK
                    have hB := hI
                    clear hg
                    have t20 : B.tmps[20]? = some (.pointer (some ⟨p20, 0, none⟩)) := (hL.out 20 rfl).trans rfl
                    clear hL
                    refine Box.mk ?_
                    go_simp
                    exact hK.out _ _ hB rfl
                  refine VAll.snoc (i := 77) ?_ rfl rfl trivial ?_
                  rotate_left
                  · intro B y hI hL K E hK
                    have hB := hI
                    have t298 : B.tmps[298]? = some (.bool false) := hL.at_ 76 (by decide) 298 rfl
                    clear hL
                    refine Box.mk ?_
                    go_simp
                    exact hK.out _ _ hB rfl
                  refine VAll.snoc (i := 76) ?_ rfl rfl trivial ?_
                  rotate_left
                  · intro B y hI hL K E hK
                    have hB := hI
                    have t292 : B.tmps[292]? = some (.bool false) := hL.at_ 70 (by decide) 292 rfl
                    have t297 : B.tmps[297]? = some (.bool false) := hL.at_ 75 (by decide) 297 rfl
                    clear hL
                    refine Box.mk ?_
                    go_simp
                    exact hK.out _ _ hB rfl
                  refine VAll.snoc (i := 75) ?_ rfl rfl (fun h => absurd rfl h) ?_
                  rotate_left
                  · intro B y hI hL hg K E hK
                    have hB := hI
                    clear hg
                    have t294 : B.tmps[294]? = some (.int .i64 x.id) := hL.at_ 72 (by decide) 294 rfl
                    have t296 : B.tmps[296]? = some (.int .i64 x.id) := hL.at_ 74 (by decide) 296 rfl
                    clear hL
                    refine Box.mk ?_
                    go_simp
                    exact hK.out _ _ hB rfl
                  refine VAll.snoc (i := 74) ?_ rfl rfl (fun h => absurd rfl h) ?_
                  rotate_left
                  · intro B y hI hL hg K E hK
                    have hB := hI
                    clear hg
                    have t295 : B.tmps[295]? = some (.pointer (some ⟨p, 6, none⟩)) := hL.at_ 73 (by decide) 295 rfl
                    clear hL
                    refine Box.mk ?_
                    have hc : y.cell? ⟨p, 6, none⟩ = some (.int .i64 x.id) := (hB.cell (p := ⟨p, 6, none⟩) HX14.out.lt).trans (HX14.out.cell 6)
                    go_simp
                    exact hK.out _ _ hB rfl
                  refine VAll.snoc (i := 73) ?_ rfl rfl (fun h => absurd rfl h) ?_
                  rotate_left
                  · intro B y hI hL hg K E hK
                    have hB := hI
                    clear hg
                    have t19 : B.tmps[19]? = some (.pointer (some ⟨p, 0, none⟩)) := (hL.out 19 rfl).trans rfl
                    clear hL
                    refine Box.mk ?_
                    go_simp
                    exact hK.out _ _ hB rfl
                  refine VAll.snoc (i := 72) ?_ rfl rfl (fun h => absurd rfl h) ?_
                  rotate_left
                  · intro B y hI hL hg K E hK
                    have hB := hI
                    clear hg
                    have t293 : B.tmps[293]? = some (.pointer (some ⟨p20, 10, none⟩)) := hL.at_ 71 (by decide) 293 rfl
                    clear hL
                    refine Box.mk ?_
                    have hc : y.cell? ⟨p20, 10, none⟩ = some (.int .i64 x.id) := (hB.cell (p := ⟨p20, 10, none⟩) HM14.out.lt).trans (HM14.out.cell 10)
                    go_simp
                    exact hK.out _ _ hB rfl
                  refine VAll.snoc (i := 71) ?_ rfl rfl (fun h => absurd rfl h) ?_
                  rotate_left
                  · intro B y hI hL hg K E hK
                    have hB := hI
                    clear hg
                    have t20 : B.tmps[20]? = some (.pointer (some ⟨p20, 0, none⟩)) := (hL.out 20 rfl).trans rfl
                    clear hL
                    refine Box.mk ?_
                    go_simp
                    exact hK.out _ _ hB rfl
                  refine VAll.snoc (i := 70) ?_ rfl rfl trivial ?_
                  rotate_left
                  · intro B y hI hL K E hK
                    have hB := hI
                    have t291 : B.tmps[291]? = some (.bool false) := hL.at_ 69 (by decide) 291 rfl
                    clear hL
                    refine Box.mk ?_
                    go_simp
                    exact hK.out _ _ hB rfl
                  refine VAll.snoc (i := 69) ?_ rfl rfl trivial ?_
                  rotate_left
                  · intro B y hI hL K E hK
                    have hB := hI
                    have t285 : B.tmps[285]? = some (.bool false) := hL.at_ 63 (by decide) 285 rfl
                    have t290 : B.tmps[290]? = some (.bool false) := hL.at_ 68 (by decide) 290 rfl
                    clear hL
                    refine Box.mk ?_
                    go_simp
                    exact hK.out _ _ hB rfl
                  refine VAll.snoc (i := 68) ?_ rfl rfl (fun h => absurd rfl h) ?_
                  rotate_left
                  · intro B y hI hL hg K E hK
                    have hB := hI
                    clear hg
                    have t287 : B.tmps[287]? = some (.int .i64 x.term) := hL.at_ 65 (by decide) 287 rfl
                    have t289 : B.tmps[289]? = some (.int .i64 x.term) := hL.at_ 67 (by decide) 289 rfl
                    clear hL
                    refine Box.mk ?_
                    go_simp
                    exact hK.out _ _ hB rfl
                  refine VAll.snoc (i := 67) ?_ rfl rfl (fun h => absurd rfl h) ?_
                  rotate_left
                  · intro B y hI hL hg K E hK
                    have hB := hI
                    clear hg
                    have t288 : B.tmps[288]? = some (.pointer (some ⟨p, 5, none⟩)) := hL.at_ 66 (by decide) 288 rfl
                    clear hL
                    refine Box.mk ?_
                    have hc : y.cell? ⟨p, 5, none⟩ = some (.int .i64 x.term) := (hB.cell (p := ⟨p, 5, none⟩) HX14.out.lt).trans (HX14.out.cell 5)
                    go_simp
                    exact hK.out _ _ hB rfl
                  refine VAll.snoc (i := 66) ?_ rfl rfl (fun h => absurd rfl h) ?_
                  rotate_left
                  · intro B y hI hL hg K E hK
                    have hB := hI
                    clear hg
                    have t19 : B.tmps[19]? = some (.pointer (some ⟨p, 0, none⟩)) := (hL.out 19 rfl).trans rfl
                    clear hL
                    refine Box.mk ?_
                    go_simp
                    exact hK.out _ _ hB rfl
                  refine VAll.snoc (i := 65) ?_ rfl rfl (fun h => absurd rfl h) ?_
                  rotate_left
                  · intro B y hI hL hg K E hK
                    have hB := hI
                    clear hg
                    have t286 : B.tmps[286]? = some (.pointer (some ⟨p20, 9, none⟩)) := hL.at_ 64 (by decide) 286 rfl
                    clear hL
                    refine Box.mk ?_
                    have hc : y.cell? ⟨p20, 9, none⟩ = some (.int .i64 x.term) := (hB.cell (p := ⟨p20, 9, none⟩) HM14.out.lt).trans (HM14.out.cell 9)
                    go_simp
                    exact hK.out _ _ hB rfl
                  refine VAll.snoc (i := 64) ?_ rfl rfl (fun h => absurd rfl h) ?_
                  rotate_left
                  · intro B y hI hL hg K E hK
                    have hB := hI
                    clear hg
                    have t20 : B.tmps[20]? = some (.pointer (some ⟨p20, 0, none⟩)) := (hL.out 20 rfl).trans rfl
                    clear hL
                    refine Box.mk ?_
                    go_simp
                    exact hK.out _ _ hB rfl
                  refine VAll.snoc (i := 63) ?_ rfl rfl trivial ?_
                  rotate_left
                  · intro B y hI hL K E hK
                    have hB := hI
                    have t284 : B.tmps[284]? = some (.bool false) := hL.at_ 62 (by decide) 284 rfl
                    clear hL
                    refine Box.mk ?_
                    go_simp
                    exact hK.out _ _ hB rfl
                  refine VAll.snoc (i := 62) ?_ rfl rfl trivial ?_
                  rotate_left
                  · intro B y hI hL K E hK
                    have hB := hI
                    have t278 : B.tmps[278]? = some (.bool false) := hL.at_ 56 (by decide) 278 rfl
                    have t283 : B.tmps[283]? = some (.bool false) := hL.at_ 61 (by decide) 283 rfl
                    clear hL
                    refine Box.mk ?_
                    go_simp
                    exact hK.out _ _ hB rfl
                  refine VAll.snoc (i := 61) ?_ rfl rfl (fun h => absurd rfl h) ?_
                  rotate_left
                  · intro B y hI hL hg K E hK
                    have hB := hI
                    clear hg
                    have t280 : B.tmps[280]? = some (.int .i64 x.mode) := hL.at_ 58 (by decide) 280 rfl
                    have t282 : B.tmps[282]? = some (.int .i64 x.mode) := hL.at_ 60 (by decide) 282 rfl
                    clear hL
                    refine Box.mk ?_
                    go_simp
                    exact hK.out _ _ hB rfl
                  refine VAll.snoc (i := 60) ?_ rfl rfl (fun h => absurd rfl h) ?_
                  rotate_left
                  · intro B y hI hL hg K E hK
                    have hB := hI
                    clear hg
                    have t281 : B.tmps[281]? = some (.pointer (some ⟨p, 4, none⟩)) := hL.at_ 59 (by decide) 281 rfl
                    clear hL
                    refine Box.mk ?_
                    have hc : y.cell? ⟨p, 4, none⟩ = some (.int .i64 x.mode) := (hB.cell (p := ⟨p, 4, none⟩) HX14.out.lt).trans (HX14.out.cell 4)
                    go_simp
                    exact hK.out _ _ hB rfl
                  refine VAll.snoc (i := 59) ?_ rfl rfl (fun h => absurd rfl h) ?_
                  rotate_left
                  · intro B y hI hL hg K E hK
                    have hB := hI
                    clear hg
                    have t19 : B.tmps[19]? = some (.pointer (some ⟨p, 0, none⟩)) := (hL.out 19 rfl).trans rfl
                    clear hL
                    refine Box.mk ?_
                    go_simp
                    exact hK.out _ _ hB rfl
                  refine VAll.snoc (i := 58) ?_ rfl rfl (fun h => absurd rfl h) ?_
                  rotate_left
                  · intro B y hI hL hg K E hK
                    have hB := hI
                    clear hg
                    have t279 : B.tmps[279]? = some (.pointer (some ⟨p20, 8, none⟩)) := hL.at_ 57 (by decide) 279 rfl
                    clear hL
                    refine Box.mk ?_
                    have hc : y.cell? ⟨p20, 8, none⟩ = some (.int .i64 x.mode) := (hB.cell (p := ⟨p20, 8, none⟩) HM14.out.lt).trans (HM14.out.cell 8)
                    go_simp
                    exact hK.out _ _ hB rfl
                  refine VAll.snoc (i := 57) ?_ rfl rfl (fun h => absurd rfl h) ?_
                  rotate_left
                  · intro B y hI hL hg K E hK
                    have hB := hI
                    clear hg
                    have t20 : B.tmps[20]? = some (.pointer (some ⟨p20, 0, none⟩)) := (hL.out 20 rfl).trans rfl
                    clear hL
                    refine Box.mk ?_
                    go_simp
                    exact hK.out _ _ hB rfl
                  refine VAll.snoc (i := 56) ?_ rfl rfl trivial ?_
                  rotate_left
                  · intro B y hI hL K E hK
                    have hB := hI
                    have t277 : B.tmps[277]? = some (.bool false) := hL.at_ 55 (by decide) 277 rfl
                    clear hL
                    refine Box.mk ?_
                    go_simp
                    exact hK.out _ _ hB rfl
                  refine VAll.snoc (i := 55) ?_ rfl rfl trivial ?_
                  rotate_left
                  · intro B y hI hL K E hK
                    have hB := hI
                    have t271 : B.tmps[271]? = some (.bool false) := hL.at_ 49 (by decide) 271 rfl
                    have t276 : B.tmps[276]? = some (.bool false) := hL.at_ 54 (by decide) 276 rfl
                    clear hL
                    refine Box.mk ?_
                    go_simp
                    exact hK.out _ _ hB rfl
                  refine VAll.snoc (i := 54) ?_ rfl rfl (fun h => absurd rfl h) ?_
                  rotate_left
                  · intro B y hI hL hg K E hK
                    have hB := hI
                    clear hg
                    have t273 : B.tmps[273]? = some (.string x.path) := hL.at_ 51 (by decide) 273 rfl
                    have t275 : B.tmps[275]? = some (.string x.path) := hL.at_ 53 (by decide) 275 rfl
                    clear hL
                    refine Box.mk ?_
                    go_simp
                    exact hK.out _ _ hB rfl
                  refine VAll.snoc (i := 53) ?_ rfl rfl (fun h => absurd rfl h) ?_
                  rotate_left
                  · intro B y hI hL hg K E hK
                    have hB := hI
                    clear hg
                    have t274 : B.tmps[274]? = some (.pointer (some ⟨p, 3, none⟩)) := hL.at_ 52 (by decide) 274 rfl
                    clear hL
                    refine Box.mk ?_
                    have hc : y.cell? ⟨p, 3, none⟩ = some (.string x.path) := (hB.cell (p := ⟨p, 3, none⟩) HX14.out.lt).trans (HX14.out.cell 3)
                    go_simp
                    exact hK.out _ _ hB rfl
                  refine VAll.snoc (i := 52) ?_ rfl rfl (fun h => absurd rfl h) ?_
                  rotate_left
                  · intro B y hI hL hg K E hK
                    have hB := hI
                    clear hg
                    have t19 : B.tmps[19]? = some (.pointer (some ⟨p, 0, none⟩)) := (hL.out 19 rfl).trans rfl
                    clear hL
                    refine Box.mk ?_
                    go_simp
                    exact hK.out _ _ hB rfl
                  refine VAll.snoc (i := 51) ?_ rfl rfl (fun h => absurd rfl h) ?_
                  rotate_left
                  · intro B y hI hL hg K E hK
                    have hB := hI
                    clear hg
                    have t272 : B.tmps[272]? = some (.pointer (some ⟨p20, 7, none⟩)) := hL.at_ 50 (by decide) 272 rfl
                    clear hL
                    refine Box.mk ?_
                    have hc : y.cell? ⟨p20, 7, none⟩ = some (.string x.path) := (hB.cell (p := ⟨p20, 7, none⟩) HM14.out.lt).trans (HM14.out.cell 7)
                    go_simp
                    exact hK.out _ _ hB rfl
                  refine VAll.snoc (i := 50) ?_ rfl rfl (fun h => absurd rfl h) ?_
                  rotate_left
                  · intro B y hI hL hg K E hK
                    have hB := hI
                    clear hg
                    have t20 : B.tmps[20]? = some (.pointer (some ⟨p20, 0, none⟩)) := (hL.out 20 rfl).trans rfl
                    clear hL
                    refine Box.mk ?_
                    go_simp
                    exact hK.out _ _ hB rfl
                  refine VAll.snoc (i := 49) ?_ rfl rfl trivial ?_
                  rotate_left
                  · intro B y hI hL K E hK
                    have hB := hI
                    have t270 : B.tmps[270]? = some (.bool false) := hL.at_ 48 (by decide) 270 rfl
                    clear hL
                    refine Box.mk ?_
                    go_simp
                    exact hK.out _ _ hB rfl
                  refine VAll.snoc (i := 48) ?_ rfl rfl trivial ?_
                  rotate_left
                  · intro B y hI hL K E hK
                    have hB := hI
                    have t264 : B.tmps[264]? = some (.bool false) := hL.at_ 42 (by decide) 264 rfl
                    have t269 : B.tmps[269]? = some (.bool false) := hL.at_ 47 (by decide) 269 rfl
                    clear hL
                    refine Box.mk ?_
                    go_simp
                    exact hK.out _ _ hB rfl
                  refine VAll.snoc (i := 47) ?_ rfl rfl (fun h => absurd rfl h) ?_
                  rotate_left
                  · intro B y hI hL hg K E hK
                    have hB := hI
                    clear hg
                    have t266 : B.tmps[266]? = some (.int .i64 x.verb) := hL.at_ 44 (by decide) 266 rfl
                    have t268 : B.tmps[268]? = some (.int .i64 x.verb) := hL.at_ 46 (by decide) 268 rfl
                    clear hL
                    refine Box.mk ?_
                    go_simp
                    exact hK.out _ _ hB rfl
                  refine VAll.snoc (i := 46) ?_ rfl rfl (fun h => absurd rfl h) ?_
                  rotate_left
                  · intro B y hI hL hg K E hK
                    have hB := hI
                    clear hg
                    have t267 : B.tmps[267]? = some (.pointer (some ⟨p, 2, none⟩)) := hL.at_ 45 (by decide) 267 rfl
                    clear hL
                    refine Box.mk ?_
                    have hc : y.cell? ⟨p, 2, none⟩ = some (.int .i64 x.verb) := (hB.cell (p := ⟨p, 2, none⟩) HX14.out.lt).trans (HX14.out.cell 2)
                    go_simp
                    exact hK.out _ _ hB rfl
                  refine VAll.snoc (i := 45) ?_ rfl rfl (fun h => absurd rfl h) ?_
                  rotate_left
                  · intro B y hI hL hg K E hK
                    have hB := hI
                    clear hg
                    have t19 : B.tmps[19]? = some (.pointer (some ⟨p, 0, none⟩)) := (hL.out 19 rfl).trans rfl
                    clear hL
                    refine Box.mk ?_
                    go_simp
                    exact hK.out _ _ hB rfl
                  refine VAll.snoc (i := 44) ?_ rfl rfl (fun h => absurd rfl h) ?_
                  rotate_left
                  · intro B y hI hL hg K E hK
                    have hB := hI
                    clear hg
                    have t265 : B.tmps[265]? = some (.pointer (some ⟨p20, 6, none⟩)) := hL.at_ 43 (by decide) 265 rfl
                    clear hL
                    refine Box.mk ?_
                    have hc : y.cell? ⟨p20, 6, none⟩ = some (.int .i64 x.verb) := (hB.cell (p := ⟨p20, 6, none⟩) HM14.out.lt).trans (HM14.out.cell 6)
                    go_simp
                    exact hK.out _ _ hB rfl
                  refine VAll.snoc (i := 43) ?_ rfl rfl (fun h => absurd rfl h) ?_
                  rotate_left
                  · intro B y hI hL hg K E hK
                    have hB := hI
                    clear hg
                    have t20 : B.tmps[20]? = some (.pointer (some ⟨p20, 0, none⟩)) := (hL.out 20 rfl).trans rfl
                    clear hL
                    refine Box.mk ?_
                    go_simp
                    exact hK.out _ _ hB rfl
                  refine VAll.snoc (i := 42) ?_ rfl rfl trivial ?_
                  rotate_left
                  · intro B y hI hL K E hK
                    have hB := hI
                    have t263 : B.tmps[263]? = some (.bool false) := hL.at_ 41 (by decide) 263 rfl
                    clear hL
                    refine Box.mk ?_
                    go_simp
                    exact hK.out _ _ hB rfl
                  refine VAll.snoc (i := 41) ?_ rfl rfl trivial ?_
                  rotate_left
                  · intro B y hI hL K E hK
                    have hB := hI
                    have t257 : B.tmps[257]? = some (.bool false) := hL.at_ 35 (by decide) 257 rfl
                    have t262 : B.tmps[262]? = some (.bool false) := hL.at_ 40 (by decide) 262 rfl
                    clear hL
                    refine Box.mk ?_
                    go_simp
                    exact hK.out _ _ hB rfl
                  refine VAll.snoc (i := 40) ?_ rfl rfl (fun h => absurd rfl h) ?_
                  rotate_left
                  · intro B y hI hL hg K E hK
                    have hB := hI
                    clear hg
                    have t259 : B.tmps[259]? = some (.int .i64 (CA.low s')) := hL.at_ 37 (by decide) 259 rfl
                    have t261 : B.tmps[261]? = some (.int .i64 (CA.low s')) := hL.at_ 39 (by decide) 261 rfl
                    clear hL
                    refine Box.mk ?_
                    go_simp
                    exact hK.out _ _ hB rfl
                  refine VAll.snoc (i := 39) ?_ rfl rfl (fun h => absurd rfl h) ?_
                  rotate_left
                  · intro B y hI hL hg K E hK
                    have hB := hI
                    clear hg
                    have t260 : B.tmps[260]? = some (.pointer (some ⟨g, 0, none⟩)) := hL.at_ 38 (by decide) 260 rfl
                    clear hL
                    refine Box.mk ?_
                    go_simp
                    with_reducible refine (Low_any (HC14.out.below hB)).mono ?_
                    rintro e w5 ⟨rfl, hb⟩
                    go_simp
                    exact hK.out _ _ (below_on hB hb) rfl
                  refine VAll.snoc (i := 38) ?_ rfl rfl (fun h => absurd rfl h) ?_
                  rotate_left
                  · intro B y hI hL hg K E hK
                    have hB := hI
                    clear hg
                    have t5 : B.tmps[5]? = some (.pointer (some ⟨g, 0, none⟩)) := (hL.out 5 rfl).trans rfl
                    clear hL
                    refine Box.mk ?_
                    go_simp
                    exact hK.out _ _ hB rfl
                  refine VAll.snoc (i := 37) ?_ rfl rfl (fun h => absurd rfl h) ?_
                  rotate_left
                  · intro B y hI hL hg K E hK
                    have hB := hI
                    clear hg
                    have t258 : B.tmps[258]? = some (.pointer (some ⟨p20, 5, none⟩)) := hL.at_ 36 (by decide) 258 rfl
                    clear hL
                    refine Box.mk ?_
                    have hc : y.cell? ⟨p20, 5, none⟩ = some (.int .i64 (CA.low s')) := (hB.cell (p := ⟨p20, 5, none⟩) HM14.out.lt).trans (HM14.out.cell 5)
                    go_simp
                    exact hK.out _ _ hB rfl
                  refine VAll.snoc (i := 36) ?_ rfl rfl (fun h => absurd rfl h) ?_
                  rotate_left
                  · intro B y hI hL hg K E hK
                    have hB := hI
                    clear hg
                    have t20 : B.tmps[20]? = some (.pointer (some ⟨p20, 0, none⟩)) := (hL.out 20 rfl).trans rfl
                    clear hL
                    refine Box.mk ?_
                    go_simp
                    exact hK.out _ _ hB rfl
                  refine VAll.snoc (i := 35) ?_ rfl rfl trivial ?_
                  rotate_left
                  · intro B y hI hL K E hK
                    have hB := hI
                    have t256 : B.tmps[256]? = some (.bool false) := hL.at_ 34 (by decide) 256 rfl
                    clear hL
                    refine Box.mk ?_
                    go_simp
                    exact hK.out _ _ hB rfl
                  refine VAll.snoc (i := 34) ?_ rfl rfl trivial ?_
                  rotate_left
                  · intro B y hI hL K E hK
                    have hB := hI
                    have t250 : B.tmps[250]? = some (.bool false) := hL.at_ 28 (by decide) 250 rfl
                    have t255 : B.tmps[255]? = some (.bool false) := hL.at_ 33 (by decide) 255 rfl
                    clear hL
                    refine Box.mk ?_
                    go_simp
                    exact hK.out _ _ hB rfl
                  refine VAll.snoc (i := 33) ?_ rfl rfl (fun h => absurd rfl h) ?_
                  rotate_left
                  · intro B y hI hL hg K E hK
                    have hB := hI
                    clear hg
                    have t252 : B.tmps[252]? = some (.int .i64 x.seq) := hL.at_ 30 (by decide) 252 rfl
                    have t254 : B.tmps[254]? = some (.int .i64 x.seq) := hL.at_ 32 (by decide) 254 rfl
                    clear hL
                    refine Box.mk ?_
                    go_simp
                    exact hK.out _ _ hB rfl
                  refine VAll.snoc (i := 32) ?_ rfl rfl (fun h => absurd rfl h) ?_
                  rotate_left
                  · intro B y hI hL hg K E hK
                    have hB := hI
                    clear hg
                    have t253 : B.tmps[253]? = some (.pointer (some ⟨p, 0, none⟩)) := hL.at_ 31 (by decide) 253 rfl
                    clear hL
                    refine Box.mk ?_
                    have hc : y.cell? ⟨p, 0, none⟩ = some (.int .i64 x.seq) := (hB.cell (p := ⟨p, 0, none⟩) HX14.out.lt).trans (HX14.out.cell 0)
                    go_simp
                    exact hK.out _ _ hB rfl
                  refine VAll.snoc (i := 31) ?_ rfl rfl (fun h => absurd rfl h) ?_
                  rotate_left
                  · intro B y hI hL hg K E hK
                    have hB := hI
                    clear hg
                    have t19 : B.tmps[19]? = some (.pointer (some ⟨p, 0, none⟩)) := (hL.out 19 rfl).trans rfl
                    clear hL
                    refine Box.mk ?_
                    go_simp
                    exact hK.out _ _ hB rfl
                  refine VAll.snoc (i := 30) ?_ rfl rfl (fun h => absurd rfl h) ?_
                  rotate_left
                  · intro B y hI hL hg K E hK
                    have hB := hI
                    clear hg
                    have t251 : B.tmps[251]? = some (.pointer (some ⟨p20, 4, none⟩)) := hL.at_ 29 (by decide) 251 rfl
                    clear hL
                    refine Box.mk ?_
                    have hc : y.cell? ⟨p20, 4, none⟩ = some (.int .i64 x.seq) := (hB.cell (p := ⟨p20, 4, none⟩) HM14.out.lt).trans (HM14.out.cell 4)
                    go_simp
                    exact hK.out _ _ hB rfl
                  refine VAll.snoc (i := 29) ?_ rfl rfl (fun h => absurd rfl h) ?_
                  rotate_left
                  · intro B y hI hL hg K E hK
                    have hB := hI
                    clear hg
                    have t20 : B.tmps[20]? = some (.pointer (some ⟨p20, 0, none⟩)) := (hL.out 20 rfl).trans rfl
                    clear hL
                    refine Box.mk ?_
                    go_simp
                    exact hK.out _ _ hB rfl
                  refine VAll.snoc (i := 28) ?_ rfl rfl trivial ?_
                  rotate_left
                  · intro B y hI hL K E hK
                    have hB := hI
                    have t249 : B.tmps[249]? = some (.bool false) := hL.at_ 27 (by decide) 249 rfl
                    clear hL
                    refine Box.mk ?_
                    go_simp
                    exact hK.out _ _ hB rfl
                  refine VAll.snoc (i := 27) ?_ rfl rfl trivial ?_
                  rotate_left
                  · intro B y hI hL K E hK
                    have hB := hI
                    have t244 : B.tmps[244]? = some (.bool false) := hL.at_ 22 (by decide) 244 rfl
                    have t248 : B.tmps[248]? = some (.bool false) := hL.at_ 26 (by decide) 248 rfl
                    clear hL
                    refine Box.mk ?_
                    go_simp
                    exact hK.out _ _ hB rfl
                  refine VAll.snoc (i := 26) ?_ rfl rfl (fun h => absurd rfl h) ?_
                  rotate_left
                  · intro B y hI hL hg K E hK
                    have hB := hI
                    clear hg
                    have t246 : B.tmps[246]? = some (.int .i64 n0) := hL.at_ 24 (by decide) 246 rfl
                    have t247 : B.tmps[247]? = some (.int .i64 n0) := hL.at_ 25 (by decide) 247 rfl
                    clear hL
                    refine Box.mk ?_
                    go_simp
                    exact hK.out _ _ hB rfl
                  refine VAll.snoc (i := 25) ?_ rfl rfl (fun h => absurd rfl h) ?_
                  rotate_left
                  · intro B y hI hL hg K E hK
                    have hB := hI
                    clear hg
                    have t0 : B.tmps[0]? = some (.int .i64 n0) := (hL.out 0 rfl).trans rfl
                    clear hL
                    refine Box.mk ?_
                    go_simp
                    exact hK.out _ _ hB rfl
                  refine VAll.snoc (i := 24) ?_ rfl rfl (fun h => absurd rfl h) ?_
                  rotate_left
                  · intro B y hI hL hg K E hK
                    have hB := hI
                    clear hg
                    have t245 : B.tmps[245]? = some (.pointer (some ⟨p20, 3, none⟩)) := hL.at_ 23 (by decide) 245 rfl
                    clear hL
                    refine Box.mk ?_
                    have hc : y.cell? ⟨p20, 3, none⟩ = some (.int .i64 n0) := (hB.cell (p := ⟨p20, 3, none⟩) HM14.out.lt).trans (HM14.out.cell 3)
                    go_simp
                    exact hK.out _ _ hB rfl
                  refine VAll.snoc (i := 23) ?_ rfl rfl (fun h => absurd rfl h) ?_
                  rotate_left
                  · intro B y hI hL hg K E hK
                    have hB := hI
                    clear hg
                    have t20 : B.tmps[20]? = some (.pointer (some ⟨p20, 0, none⟩)) := (hL.out 20 rfl).trans rfl
                    clear hL
                    refine Box.mk ?_
                    go_simp
                    exact hK.out _ _ hB rfl
                  refine VAll.snoc (i := 22) ?_ rfl rfl trivial ?_
                  rotate_left
                  · intro B y hI hL K E hK
                    have hB := hI
                    have t243 : B.tmps[243]? = some (.bool false) := hL.at_ 21 (by decide) 243 rfl
                    clear hL
                    refine Box.mk ?_
                    go_simp
                    exact hK.out _ _ hB rfl
                  refine VAll.snoc (i := 21) ?_ rfl rfl trivial ?_
                  rotate_left
                  · intro B y hI hL K E hK
                    have hB := hI
                    have t237 : B.tmps[237]? = some (.bool false) := hL.at_ 15 (by decide) 237 rfl
                    have t242 : B.tmps[242]? = some (.bool false) := hL.at_ 20 (by decide) 242 rfl
                    clear hL
                    refine Box.mk ?_
                    go_simp
                    exact hK.out _ _ hB rfl
                  refine VAll.snoc (i := 20) ?_ rfl rfl (fun h => absurd rfl h) ?_
                  rotate_left
                  · intro B y hI hL hg K E hK
                    have hB := hI
                    clear hg
                    have t239 : B.tmps[239]? = some (.int .i64 x.dst) := hL.at_ 17 (by decide) 239 rfl
                    have t241 : B.tmps[241]? = some (.int .i64 x.dst) := hL.at_ 19 (by decide) 241 rfl
                    clear hL
                    refine Box.mk ?_
                    go_simp
                    exact hK.out _ _ hB rfl
                  refine VAll.snoc (i := 19) ?_ rfl rfl (fun h => absurd rfl h) ?_
                  rotate_left
                  · intro B y hI hL hg K E hK
                    have hB := hI
                    clear hg
                    have t240 : B.tmps[240]? = some (.pointer (some ⟨p, 1, none⟩)) := hL.at_ 18 (by decide) 240 rfl
                    clear hL
                    refine Box.mk ?_
                    have hc : y.cell? ⟨p, 1, none⟩ = some (.int .i64 x.dst) := (hB.cell (p := ⟨p, 1, none⟩) HX14.out.lt).trans (HX14.out.cell 1)
                    go_simp
                    exact hK.out _ _ hB rfl
                  refine VAll.snoc (i := 18) ?_ rfl rfl (fun h => absurd rfl h) ?_
                  rotate_left
                  · intro B y hI hL hg K E hK
                    have hB := hI
                    clear hg
                    have t19 : B.tmps[19]? = some (.pointer (some ⟨p, 0, none⟩)) := (hL.out 19 rfl).trans rfl
                    clear hL
                    refine Box.mk ?_
                    go_simp
                    exact hK.out _ _ hB rfl
                  refine VAll.snoc (i := 17) ?_ rfl rfl (fun h => absurd rfl h) ?_
                  rotate_left
                  · intro B y hI hL hg K E hK
                    have hB := hI
                    clear hg
                    have t238 : B.tmps[238]? = some (.pointer (some ⟨p20, 2, none⟩)) := hL.at_ 16 (by decide) 238 rfl
                    clear hL
                    refine Box.mk ?_
                    have hc : y.cell? ⟨p20, 2, none⟩ = some (.int .i64 x.dst) := (hB.cell (p := ⟨p20, 2, none⟩) HM14.out.lt).trans (HM14.out.cell 2)
                    go_simp
                    exact hK.out _ _ hB rfl
                  refine VAll.snoc (i := 16) ?_ rfl rfl (fun h => absurd rfl h) ?_
                  rotate_left
                  · intro B y hI hL hg K E hK
                    have hB := hI
                    clear hg
                    have t20 : B.tmps[20]? = some (.pointer (some ⟨p20, 0, none⟩)) := (hL.out 20 rfl).trans rfl
                    clear hL
                    refine Box.mk ?_
                    go_simp
                    exact hK.out _ _ hB rfl
                  refine VAll.snoc (i := 15) ?_ rfl rfl trivial ?_
                  rotate_left
                  · intro B y hI hL K E hK
                    have hB := hI
                    have t236 : B.tmps[236]? = some (.bool false) := hL.at_ 14 (by decide) 236 rfl
                    clear hL
                    refine Box.mk ?_
                    go_simp
                    exact hK.out _ _ hB rfl
                  refine VAll.snoc (i := 14) ?_ rfl rfl trivial ?_
                  rotate_left
                  · intro B y hI hL K E hK
                    have hB := hI
                    have t232 : B.tmps[232]? = some (.bool false) := hL.at_ 10 (by decide) 232 rfl
                    have t235 : B.tmps[235]? = some (.bool false) := hL.at_ 13 (by decide) 235 rfl
                    clear hL
                    refine Box.mk ?_
                    go_simp
                    exact hK.out _ _ hB rfl
                  refine VAll.snoc (i := 13) ?_ rfl rfl (fun h => absurd rfl h) ?_
                  rotate_left
                  · intro B y hI hL hg K E hK
                    have hB := hI
                    clear hg
                    have t234 : B.tmps[234]? = some (.int .i64 1) := hL.at_ 12 (by decide) 234 rfl
                    clear hL
                    refine Box.mk ?_
                    go_simp
                    exact hK.out _ _ hB rfl
                  refine VAll.snoc (i := 12) ?_ rfl rfl (fun h => absurd rfl h) ?_
                  rotate_left
                  · intro B y hI hL hg K E hK
                    have hB := hI
                    clear hg
                    have t233 : B.tmps[233]? = some (.pointer (some ⟨p20, 0, none⟩)) := hL.at_ 11 (by decide) 233 rfl
                    clear hL
                    refine Box.mk ?_
                    have hc : y.cell? ⟨p20, 0, none⟩ = some (.int .i64 1) := (hB.cell (p := ⟨p20, 0, none⟩) HM14.out.lt).trans (HM14.out.cell 0)
                    go_simp
                    exact hK.out _ _ hB rfl
                  refine VAll.snoc (i := 11) ?_ rfl rfl (fun h => absurd rfl h) ?_
                  rotate_left
                  · intro B y hI hL hg K E hK
                    have hB := hI
                    clear hg
                    have t20 : B.tmps[20]? = some (.pointer (some ⟨p20, 0, none⟩)) := (hL.out 20 rfl).trans rfl
                    clear hL
                    refine Box.mk ?_
                    go_simp
                    exact hK.out _ _ hB rfl
                  refine VAll.snoc (i := 10) ?_ rfl rfl trivial ?_
                  rotate_left
                  · intro B y hI hL K E hK
                    have hB := hI
                    have t231 : B.tmps[231]? = some (.bool false) := hL.at_ 9 (by decide) 231 rfl
                    clear hL
                    refine Box.mk ?_
                    go_simp
                    exact hK.out _ _ hB rfl
                  refine VAll.snoc (i := 9) ?_ rfl rfl trivial ?_
                  rotate_left
                  · intro B y hI hL K E hK
                    have hB := hI
                    have t227 : B.tmps[227]? = some (.bool false) := hL.at_ 5 (by decide) 227 rfl
                    have t230 : B.tmps[230]? = some (.bool false) := hL.at_ 8 (by decide) 230 rfl
                    clear hL
                    refine Box.mk ?_
                    go_simp
                    exact hK.out _ _ hB rfl
                  refine VAll.snoc (i := 8) ?_ rfl rfl (fun h => absurd rfl h) ?_
                  rotate_left
                  · intro B y hI hL hg K E hK
                    have hB := hI
                    clear hg
                    have t229 : B.tmps[229]? = some (.bool true) := hL.at_ 7 (by decide) 229 rfl
                    clear hL
                    refine Box.mk ?_
                    go_simp
                    exact hK.out _ _ hB rfl
                  refine VAll.snoc (i := 7) ?_ rfl rfl (fun h => absurd rfl h) ?_
                  rotate_left
                  · intro B y hI hL hg K E hK
                    have hB := hI
                    clear hg
                    have t228 : B.tmps[228]? = some (.agg (cellsM (CA.askM x fr n0 x.seq (CA.low s')) (.slice none 0 0))) := hL.at_ 6 (by decide) 228 rfl
                    clear hL
                    refine Box.mk ?_
                    go_simp
                    with_reducible refine (Valid_ask HWX.out HI64.out.1 HI64.out.2.1 HI64.out.2.2.1 HI64.out.2.2.2.1 y).mono ?_
                    rintro e w5 ⟨rfl, hb⟩
                    rw [HVT.out]
                    go_simp
                    exact hK.out _ _ (below_on hB hb) rfl
                  refine VAll.snoc (i := 6) ?_ rfl rfl (fun h => absurd rfl h) ?_
                  rotate_left
                  · intro B y hI hL hg K E hK
                    have hB := hI
                    clear hg
                    have t20 : B.tmps[20]? = some (.pointer (some ⟨p20, 0, none⟩)) := (hL.out 20 rfl).trans rfl
                    clear hL
                    refine Box.mk ?_
                    refine wp_load_mid 45 (.tmp 20) rfl p20 0 (by simp [Act.eval, t20]) (cellsM (CA.askM x fr n0 x.seq (CA.low s')) (.slice none 0 0)).toList _ (msg_range (show MsgBlk y p20 (CA.askM x fr n0 x.seq (CA.low s')) (.slice none 0 0) from (Mod.of_below hB []).whole HM14.out (by simp))) Try.underlying45 rfl (by kernel_rfl) ?_
                    exact hK.out _ _ hB rfl
                  refine VAll.snoc (i := 5) ?_ rfl rfl trivial ?_
                  rotate_left
                  · intro B y hI hL K E hK
                    have hB := hI
                    have t226 : B.tmps[226]? = some (.bool false) := hL.at_ 4 (by decide) 226 rfl
                    clear hL
                    refine Box.mk ?_
                    go_simp
                    exact hK.out _ _ hB rfl
                  refine VAll.snoc (i := 4) ?_ rfl rfl trivial ?_
                  rotate_left
                  · intro B y hI hL K E hK
                    have hB := hI
                    have t224 : B.tmps[224]? = some (.bool false) := hL.at_ 2 (by decide) 224 rfl
                    have t225 : B.tmps[225]? = some (.bool false) := hL.at_ 3 (by decide) 225 rfl
                    clear hL
                    refine Box.mk ?_
                    go_simp
                    exact hK.out _ _ hB rfl
                  refine VAll.snoc (i := 3) ?_ rfl rfl (fun h => absurd rfl h) ?_
                  rotate_left
                  · intro B y hI hL hg K E hK
                    have hB := hI
                    clear hg
                    have t23 : B.tmps[23]? = some (.bool false) := (hL.out 23 rfl).trans rfl
                    clear hL
                    refine Box.mk ?_
                    go_simp
                    exact hK.out _ _ hB rfl
                  refine VAll.snoc (i := 2) ?_ rfl rfl trivial ?_
                  rotate_left
                  · intro B y hI hL K E hK
                    have hB := hI
                    have t223 : B.tmps[223]? = some (.bool false) := hL.at_ 1 (by decide) 223 rfl
                    clear hL
                    refine Box.mk ?_
                    go_simp
                    exact hK.out _ _ hB rfl
                  refine VAll.snoc (i := 1) ?_ rfl rfl trivial ?_
                  rotate_left
                  · intro B y hI hL K E hK
                    have hB := hI
                    have t222 : B.tmps[222]? = some (.bool true) := hL.at_ 0 (by decide) 222 rfl
                    clear hL
                    refine Box.mk ?_
                    go_simp
                    exact hK.out _ _ hB rfl
                  refine VAll.snoc (i := 0) ?_ rfl rfl trivial ?_
                  rotate_left
                  · intro B y hI hL K E hK
                    have hB := hI
                    have t21 : B.tmps[21]? = some (.bool true) := (hL.out 21 rfl).trans rfl
                    clear hL
                    refine Box.mk ?_
                    go_simp
                    exact hK.out _ _ hB rfl
                  exact VAll.nil
                · intro vs y hI hall
                  have hB := hI
                  have e83 : vs 83 = .bool false := hall 83 (by decide)
                  clear hall
                  refine Box.mk ?_
                  simp only [e83, ch, cq, allPut, puts, Act.put, List.setIfInBounds_toArray, List.set_cons_zero, List.set_cons_succ]
                  have HBZ := Lib.hid (below_on HB14.out hB)
                  clear hB
                  go_wp2_with fail
                  go_roundw
                  case rel => exact ⟨q + 1, by simp, by omega, HBZ⟩
                  case measure => simp [intOf]; omega

end Go.Proofs.Ytnacchldecjcaaa.lawCallsOnce
