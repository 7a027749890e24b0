/- The walk of CallsOwn: it answers true, and old memory stands. -/
import Derived.Test.YtnacchldecjcaaaRows
import Derived.Test.YtnacchldecjcaaaCaC
import Derived.Test.YtnacchldecjcaaaCaArg
import Derived.Test.YtnacchldecjcaaaCaOwn
import Derived.Test.YtnacchldecjcaaaLaw
import Derived.JoinedCond
import Derived.OpenShut
import Derived.Deep.CutBlock
namespace Go.Proofs.Ytnacchldecjcaaa.lawCallsOwn
open Go Go.RowKit Go.ChangeShapes Go.WideShapes Go.ChangeAt
set_option linter.unusedVariables false
set_option linter.unusedSimpArgs false
open CA (Cl St)
open WM (Msg)
set_option maxRecDepth 100000
set_option maxHeartbeats 16000000 in
theorem walk (A0 : Option Addr) (c0 : Nat) (xs : List Cl) (now : Int) (w : World) (hP : ClsAt w A0 xs) (hc : xs.length ≤ c0) (hm : c0 * 88 ≤ 140737488351232) (hW : ∀ x ∈ xs, ClW x) (hr : -9223372036854775808 ≤ now ∧ now ≤ 9223372036854775807) :
    Calls Try.prog 5 #[.slice A0 xs.length c0, .int .i64 now] w (LK.True_ w) := by
  have HP0 := Lib.hid hP
  have HPW := Lib.hid hP
  have HW := Lib.hid hW
  obtain ⟨n, hn⟩ : ∃ n, xs.length = n := ⟨_, rfl⟩
  have HN := Lib.hid hn
  have hn47 : n ≤ 140737488351232 := by omega
  rw [hn]
  clear hP hW hc hm hn hr
  go_enter Try.func5, Try.ntmps5
  go_wp2_with fail
  refine (awake_any w).mono ?_
  rintro e w1 ⟨rfl, hb⟩
  have HX1 := Lib.hid hb
  have HP1 := Lib.hid (HP0.out.below hb)
  clear hb HP0
  go_wp2_with fail
  refine (acquire_any w1).mono ?_
  rintro e w2 ⟨rfl, hb⟩
  have HX2 := Lib.hid (below_on HX1.out hb)
  have HP2 := Lib.hid (HP1.out.below hb)
  clear hb HX1 HP1
  go_wp2_with fail
  refine (Open_nil now acq w2).mono ?_
  rintro e w3 ⟨rfl, hb⟩
  have HX3 := Lib.hid (below_on HX2.out hb)
  have HP3 := Lib.hid (HP2.out.below hb)
  clear hb HX2 HP2
  unfold aggC
  generalize ten acq = va
  go_wp2_with fail
  refine (Get_nil w3 1).mono ?_
  rintro e w4 ⟨rfl, hb⟩
  have HX4 := Lib.hid (below_on HX3.out hb)
  have HP4 := Lib.hid (HP3.out.below hb)
  clear hb HX3 HP3
  unfold aggC
  rw [show ten CA.zero = #[.int .i64 0, .int .i64 0, .int .i64 0, .string ⟨#[]⟩, .int .i64 0, .int .i64 0, .int .i64 0, .bool false, .int .i64 0, .int .i64 0] from rfl]
  have HX5 := Lib.hid (HX4.out.alloc HX4.out.size (.cells #[.int .i64 0, .int .i64 0, .int .i64 0, .string ⟨#[]⟩, .int .i64 0, .int .i64 0, .int .i64 0, .bool false, .int .i64 0, .int .i64 0] 32))
  have HP5 := Lib.hid (HP4.out.below ((Below.refl _ w4).alloc (Nat.le_refl _) (.cells #[.int .i64 0, .int .i64 0, .int .i64 0, .string ⟨#[]⟩, .int .i64 0, .int .i64 0, .int .i64 0, .bool false, .int .i64 0, .int .i64 0] 32)))
  have HB85 := Lib.hid (show ClBlk (w4.alloc (.cells #[.int .i64 0, .int .i64 0, .int .i64 0, .string ⟨#[]⟩, .int .i64 0, .int .i64 0, .int .i64 0, .bool false, .int .i64 0, .int .i64 0] 32)) w4.heap.size CA.zero from Whole.new w4 _ _)
  clear HX4 HP4
  go_wp2_with fail
  generalize w4.alloc _ = w5 at HX5 HP5 HB85 ⊢
  generalize w4.heap.size = b8 at HB85 ⊢
  refine (Again_nil w5 1).mono ?_
  rintro e w6 ⟨rfl, hb⟩
  have HX6 := Lib.hid (below_on HX5.out hb)
  have HP6 := Lib.hid (HP5.out.below hb)
  have HB86 := Lib.hid (blk_on HB85.out hb)
  clear hb HX5 HP5 HB85
  unfold aggC
  rw [show ten CA.zero = #[.int .i64 0, .int .i64 0, .int .i64 0, .string ⟨#[]⟩, .int .i64 0, .int .i64 0, .int .i64 0, .bool false, .int .i64 0, .int .i64 0] from rfl]
  have HX7 := Lib.hid (HX6.out.alloc HX6.out.size (.cells #[.int .i64 0, .int .i64 0, .int .i64 0, .string ⟨#[]⟩, .int .i64 0, .int .i64 0, .int .i64 0, .bool false, .int .i64 0, .int .i64 0] 32))
  have HB87 := Lib.hid (show ClBlk (w6.alloc (.cells #[.int .i64 0, .int .i64 0, .int .i64 0, .string ⟨#[]⟩, .int .i64 0, .int .i64 0, .int .i64 0, .bool false, .int .i64 0, .int .i64 0] 32)) b8 CA.zero from HB86.out.alloc _)
  have HP7 := Lib.hid (HP6.out.below ((Below.refl _ w6).alloc (Nat.le_refl _) (.cells #[.int .i64 0, .int .i64 0, .int .i64 0, .string ⟨#[]⟩, .int .i64 0, .int .i64 0, .int .i64 0, .bool false, .int .i64 0, .int .i64 0] 32)))
  have HB107 := Lib.hid (show ClBlk (w6.alloc (.cells #[.int .i64 0, .int .i64 0, .int .i64 0, .string ⟨#[]⟩, .int .i64 0, .int .i64 0, .int .i64 0, .bool false, .int .i64 0, .int .i64 0] 32)) w6.heap.size CA.zero from Whole.new w6 _ _)
  clear HX6 HP6 HB86
  go_wp2_with fail
  generalize w6.alloc _ = w7 at HX7 HP7 HB87 HB107 ⊢
  generalize w6.heap.size = b10 at HB107 ⊢
  refine (Close_nil w7 1).mono ?_
  rintro e w8 ⟨rfl, hb⟩
  have HX8 := Lib.hid (below_on HX7.out hb)
  have HP8 := Lib.hid (HP7.out.below hb)
  have HB88 := Lib.hid (blk_on HB87.out hb)
  have HB108 := Lib.hid (blk_on HB107.out hb)
  clear hb HX7 HP7 HB87 HB107
  unfold aggC
  rw [show ten CA.zero = #[.int .i64 0, .int .i64 0, .int .i64 0, .string ⟨#[]⟩, .int .i64 0, .int .i64 0, .int .i64 0, .bool false, .int .i64 0, .int .i64 0] from rfl]
  have HX9 := Lib.hid (HX8.out.alloc HX8.out.size (.cells #[.int .i64 0, .int .i64 0, .int .i64 0, .string ⟨#[]⟩, .int .i64 0, .int .i64 0, .int .i64 0, .bool false, .int .i64 0, .int .i64 0] 32))
  have HB89 := Lib.hid (show ClBlk (w8.alloc (.cells #[.int .i64 0, .int .i64 0, .int .i64 0, .string ⟨#[]⟩, .int .i64 0, .int .i64 0, .int .i64 0, .bool false, .int .i64 0, .int .i64 0] 32)) b8 CA.zero from HB88.out.alloc _)
  have HB109 := Lib.hid (show ClBlk (w8.alloc (.cells #[.int .i64 0, .int .i64 0, .int .i64 0, .string ⟨#[]⟩, .int .i64 0, .int .i64 0, .int .i64 0, .bool false, .int .i64 0, .int .i64 0] 32)) b10 CA.zero from HB108.out.alloc _)
  have HP9 := Lib.hid (HP8.out.below ((Below.refl _ w8).alloc (Nat.le_refl _) (.cells #[.int .i64 0, .int .i64 0, .int .i64 0, .string ⟨#[]⟩, .int .i64 0, .int .i64 0, .int .i64 0, .bool false, .int .i64 0, .int .i64 0] 32)))
  have HB129 := Lib.hid (show ClBlk (w8.alloc (.cells #[.int .i64 0, .int .i64 0, .int .i64 0, .string ⟨#[]⟩, .int .i64 0, .int .i64 0, .int .i64 0, .bool false, .int .i64 0, .int .i64 0] 32)) w8.heap.size CA.zero from Whole.new w8 _ _)
  clear HX8 HP8 HB88 HB108
  go_wp2_with fail
  generalize w8.alloc _ = w9 at HX9 HP9 HB89 HB109 HB129 ⊢
  generalize w8.heap.size = b12 at HB129 ⊢
  refine (Ask_nil w9 2 1).mono ?_
  rintro e w10 ⟨rfl, hb⟩
  have HX10 := Lib.hid (below_on HX9.out hb)
  have HP10 := Lib.hid (HP9.out.below hb)
  have HB810 := Lib.hid (blk_on HB89.out hb)
  have HB1010 := Lib.hid (blk_on HB109.out hb)
  have HB1210 := Lib.hid (blk_on HB129.out hb)
  clear hb HX9 HP9 HB89 HB109 HB129
  unfold zeroA
  rw [show cellsM WM.zero (.slice none 0 0) = #[.int .i64 0, .int .i64 0, .int .i64 0, .int .i64 0, .int .i64 0, .int .i64 0, .int .i64 0, .string ⟨#[]⟩, .int .i64 0, .int .i64 0, .int .i64 0, .bool false, .int .i64 0, .slice none 0 0, .int .i64 0, .int .i64 0] from rfl]
  have HX11 := Lib.hid (HX10.out.alloc HX10.out.size (.cells #[.int .i64 0, .int .i64 0, .int .i64 0, .int .i64 0, .int .i64 0, .int .i64 0, .int .i64 0, .string ⟨#[]⟩, .int .i64 0, .int .i64 0, .int .i64 0, .bool false, .int .i64 0, .slice none 0 0, .int .i64 0, .int .i64 0] 45))
  have HB811 := Lib.hid (show ClBlk (w10.alloc (.cells #[.int .i64 0, .int .i64 0, .int .i64 0, .int .i64 0, .int .i64 0, .int .i64 0, .int .i64 0, .string ⟨#[]⟩, .int .i64 0, .int .i64 0, .int .i64 0, .bool false, .int .i64 0, .slice none 0 0, .int .i64 0, .int .i64 0] 45)) b8 CA.zero from HB810.out.alloc _)
  have HB1011 := Lib.hid (show ClBlk (w10.alloc (.cells #[.int .i64 0, .int .i64 0, .int .i64 0, .int .i64 0, .int .i64 0, .int .i64 0, .int .i64 0, .string ⟨#[]⟩, .int .i64 0, .int .i64 0, .int .i64 0, .bool false, .int .i64 0, .slice none 0 0, .int .i64 0, .int .i64 0] 45)) b10 CA.zero from HB1010.out.alloc _)
  have HB1211 := Lib.hid (show ClBlk (w10.alloc (.cells #[.int .i64 0, .int .i64 0, .int .i64 0, .int .i64 0, .int .i64 0, .int .i64 0, .int .i64 0, .string ⟨#[]⟩, .int .i64 0, .int .i64 0, .int .i64 0, .bool false, .int .i64 0, .slice none 0 0, .int .i64 0, .int .i64 0] 45)) b12 CA.zero from HB1210.out.alloc _)
  have HP11 := Lib.hid (HP10.out.below ((Below.refl _ w10).alloc (Nat.le_refl _) (.cells #[.int .i64 0, .int .i64 0, .int .i64 0, .int .i64 0, .int .i64 0, .int .i64 0, .int .i64 0, .string ⟨#[]⟩, .int .i64 0, .int .i64 0, .int .i64 0, .bool false, .int .i64 0, .slice none 0 0, .int .i64 0, .int .i64 0] 45)))
  have HB1411 := Lib.hid (show MsgBlk (w10.alloc (.cells #[.int .i64 0, .int .i64 0, .int .i64 0, .int .i64 0, .int .i64 0, .int .i64 0, .int .i64 0, .string ⟨#[]⟩, .int .i64 0, .int .i64 0, .int .i64 0, .bool false, .int .i64 0, .slice none 0 0, .int .i64 0, .int .i64 0] 45)) w10.heap.size WM.zero (.slice none 0 0) from Whole.new w10 _ _)
  clear HX10 HP10 HB810 HB1010 HB1210
  go_upto_region 9 with (fail)
  generalize w10.alloc _ = w11 at HX11 HP11 HB811 HB1011 HB1211 HB1411 ⊢
  generalize w10.heap.size = b14 at HB1411 ⊢
  obtain ⟨p0, p1, p2, p3, p4, p5, p6, p7, p8, p9⟩ := cl_cells HB811.out
  obtain ⟨q0, q1, q2, q3, q4, q5, q6, q7, q8, q9⟩ := cl_cells HB1011.out
  obtain ⟨r0, r1, r2, r3, r4, r5, r6, r7, r8, r9⟩ := cl_cells HB1211.out
  have m0 : w11.cell? ⟨b14, 0, none⟩ = some (.int .i64 0) := HB1411.out.cell 0
  have hz := fun w : World => Try.zeroValue32 w
  unfold CA.zero at p0 p1 p2 p3 p4 p5 p6 p7 p8 p9 q0 q1 q2 q3 q4 q5 q6 q7 q8 q9 r0 r1 r2 r3 r4 r5 r6 r7 r8 r9
  simp only at p0 p1 p2 p3 p4 p5 p6 p7 p8 p9 q0 q1 q2 q3 q4 q5 q6 q7 q8 q9 r0 r1 r2 r3 r4 r5 r6 r7 r8 r9
  clear HB811 HB1011 HB1211 HB1411
  go_wp2_with fail
  clear p0 p1 p2 p3 p4 p5 p6 p7 p8 p9 q0 q1 q2 q3 q4 q5 q6 q7 q8 q9 r0 r1 r2 r3 r4 r5 r6 r7 r8 r9 m0
  refine (Low_nil w11).mono ?_
  rintro e w12 ⟨rfl, rfl⟩
  go_wp2_with fail
  refine (Boot_nil w12).mono ?_
  rintro e w13 ⟨rfl, rfl⟩
  go_wp2_with fail
  refine (List_nil w13).mono ?_
  rintro e w14 ⟨rfl, rfl⟩
  go_wp2_with fail
  refine (New_yes 5 w14 (by decide)).mono ?_
  rintro e w15 ⟨rfl, hcs, hb, hs⟩
  have HS := Lib.hid (show K1 w w15 (w14.heap.size + 1) w14.heap.size (CA.new 5) from K1.start HX11.out hcs hb)
  have HP15 := Lib.hid (HP11.out.below hb)
  have HLT := Lib.hid (show w14.heap.size + 1 < w15.heap.size by omega)
  clear hcs hb hs HX11 HP11
  generalize w14.heap.size + 1 = g at HS HLT ⊢
  generalize hM : w14.heap.size = M at HS
  have HMM := Lib.hid hM
  clear hM
  go_wp2_with fail
  refine (New_yes 5 w15 (by decide)).mono ?_
  rintro e w16 ⟨rfl, hct, hb, hs⟩
  have HY := Lib.hid (show Sy w w16 g M (w15.heap.size + 1) w15.heap.size (CA.new 5) (CA.new 5) from ⟨below_on HS.out.below hb, HS.out.at_.below hb, hct, by have := HS.out.at_.lt; omega, by have := HS.out.at_.ltM; omega, ⟨HS.out.fg, HS.out.fM⟩, by have := HS.out.below.size; omega⟩)
  have HP16 := Lib.hid (HP15.out.below hb)
  clear hct hb hs HS HP15 HLT
  generalize w15.heap.size + 1 = h at HY ⊢
  generalize hN : w15.heap.size = N at HY
  have HNN := Lib.hid hN
  clear hN
  go_wp2_with fail
  go_loopw [124] (fun i wx => ∃ (k : Nat) (s : St), i = .int .i64 (k : Int) ∧ k ≤ n ∧ Hid (Sy w wx g M h N s s) ∧ Hid (ClsAt wx A0 xs)) (fun i _ => n - (intOf i).toNat)
  case atStart => exact ⟨0, CA.new 5, rfl, by omega, HY, HP16⟩
  case round =>
    obtain ⟨k, s, rfl, hk, HS, HP⟩ := hrel
    by_cases hlt : k < n
    · have hw : IntKind.i64.wrap ((k : Int) + 1) = (k : Int) + 1 := IntWalk.i64_in _ (by omega)
      have d1 : (k : Int) < (n : Int) := by omega
      have d2 : (0 : Int) ≤ (k : Int) := by omega
      obtain ⟨x, hx⟩ : ∃ x, xs[k]? = some x := ⟨xs[k]'(by rw [HN.out]; exact hlt), List.getElem?_eq_getElem _⟩
      have HXW := Lib.hid (HW.out x (List.mem_of_getElem? hx))
      obtain ⟨ba, oa, eA, _, a0, a1, a2, a3, a4, a5, a6, a7, a8, a9⟩ := HP.out.ten hx
      subst eA
      obtain ⟨bw, ow, eW, hbw, _⟩ := HPW.out (by rw [HN.out]; omega)
      injection eW with eW
      injection eW with e1 e2
      subst e1 e2
      have HNB := Lib.hid hbw
      clear hx hbw
      have HS1 := Lib.hid (HS.out.on ((Below.refl _ wr).alloc (Nat.le_refl _) (.cells (ten x) 32)))
      have HP1 := Lib.hid (HP.out.below ((Below.refl _ wr).alloc (Nat.le_refl _) (.cells (ten x) 32)))
      have HK := Lib.hid (show ClBlk (wr.alloc (.cells (ten x) 32)) wr.heap.size x from Whole.new wr _ _)
      rw [show ten x = #[.int .i64 x.seq, .int .i64 x.dst, .int .i64 x.verb, .string x.path, .int .i64 x.mode, .int .i64 x.term, .int .i64 x.id, .bool x.fresh, .int .i64 x.sent, .int .i64 x.tries] from rfl] at HS1 HP1 HK
      go_upto_region 16 with (fail)
      clear a0 a1 a2 a3 a4 a5 a6 a7 a8 a9 HS HP
      generalize wr.alloc _ = w17 at HS1 HP1 HK ⊢
      generalize wr.heap.size = p at HK ⊢
      have HLD := Lib.hid (cl_range (x := x) HK.out)
      go_wp2_with (refine wpList_load_mid rfl 32 (.tmp 21) rfl p 0 rfl (ten x).toList _ HLD.out Try.underlying32 rfl (by kernel_rfl) ?_)
      refine (Open_any HS1.out.sa now x HXW.out).mono ?_
      rintro e w18 ⟨rfl, ht⟩
      have HK2 := Lib.hid (show ClBlk w18 p x from (K1.far2 (w0 := w) ⟨HS1.out.below, HS1.out.sa, HS1.out.fs.1, HS1.out.fs.2⟩ HK.out (by decide) ht))
      have HP2 := Lib.hid (show ClsAt w18 (some ⟨ba, oa, none⟩) xs from HP1.out.far_of ht (HS1.out.fs.1) (HS1.out.fs.2) HNB.out)
      have HS2 := Lib.hid (HS1.out.puts ht (by simp))
      clear ht HS1 HP1 HK HLD
      have HLD := Lib.hid (cl_range (x := x) HK2.out)
      go_wp2_with (refine wpList_load_mid rfl 32 (.tmp 21) rfl p 0 rfl (ten x).toList _ HLD.out Try.underlying32 rfl (by kernel_rfl) ?_)
      refine (Open_any HS2.out.ta now x HXW.out).mono ?_
      rintro e w19 ⟨rfl, ht⟩
      have HP3 := Lib.hid (show ClsAt w19 (some ⟨ba, oa, none⟩) xs from HP2.out.far_of ht (HS2.out.ft.1) (HS2.out.ft.2) HNB.out)
      have HS3 := Lib.hid (HS2.out.putt ht (by simp))
      clear ht HS2 HP2 HK2 HLD
      generalize CA.given s now x = gv
      generalize CA.fault s now x = fv
      go_wp2_with fail
      go_roundw
      case rel => exact ⟨k + 1, _, by simp, by omega, HS3, HP3⟩
      case measure => simp [intOf]; omega
    · obtain rfl : k = n := by omega
      clear HP
      go_wp2_with fail
      refine (List_any HS.out.sa).mono ?_
      rintro e w3 ⟨v, rfl, ho, hb⟩
      have HS3 := Lib.hid (HS.out.on hb)
      have HV := Lib.hid ho
      have HLO := Lib.hid (show w.heap.size ≤ wr.heap.size from HS.out.below.size)
      clear ho hb HS
      go_wp2_with fail
      refine (List_any HS3.out.sa).mono ?_
      rintro e w4 ⟨v2, rfl, ho2, hb2⟩
      obtain ⟨L, hL⟩ : ∃ L, s.on = L := ⟨_, rfl⟩
      have HL := Lib.hid hL
      rw [hL] at HV ho2
      clear hL
      have HQ := Lib.hid (show Pz w w4 g M h N s s v L.length v2 L from ⟨HS3.out.on hb2, own_base ho2 HS3.out.below.size, ⟨_, own_base ((Mod.of_below hb2 []).own HV.out (by simp)) HLO.out⟩, fun k hk hq => by
        have h1 := (HV.out.lt k hk).2
        have h2 := (ho2.lt k hq).1
        omega⟩)
      obtain ⟨PA, pc, hv, _, _⟩ := own_shape HV.out
      obtain ⟨QA, qc, hv2, _, _⟩ := own_shape ho2
      subst hv hv2
      have HPC := Lib.hid (ClsAt.own ((Mod.of_below hb2 []).own HV.out (by simp)))
      clear ho2 hb2 HS3 HV
      have hm4 : L.length ≤ 4 := by rw [← HL.out]; exact HQ.out.sy.sa.inv.len
      obtain ⟨m, hm1⟩ : ∃ m, L.length = m := ⟨_, rfl⟩
      have HM := Lib.hid hm1
      rw [hm1] at HQ hm4 ⊢
      clear hm1
      go_wp2_with fail
      go_loopw [157] (fun i wx => ∃ (j : Nat) (u : St), i = .int .i64 (j : Int) ∧ j ≤ m ∧ Hid (u.on = L.drop j) ∧ Hid (Pz w wx g M h N u s (.slice PA m pc) m (.slice QA m qc) L) ∧ Hid (ClsAt wx PA L)) (fun i _ => m - (intOf i).toNat)
      case atStart => exact ⟨0, s, rfl, Nat.zero_le _, Lib.hid HL.out, HQ, HPC⟩
      case round =>
        obtain ⟨j, u, rfl, hj, HD, HK, HPJ⟩ := hrel
        by_cases hjm : j < m
        · have hw : IntKind.i64.wrap ((j : Int) + 1) = (j : Int) + 1 := IntWalk.i64_in _ (by omega)
          have d2 : (j : Int) < (m : Int) := by omega
          have d3 : (0 : Int) ≤ (j : Int) := by omega
          obtain ⟨x, hx⟩ : ∃ x, L[j]? = some x := ⟨L[j]'(by rw [HM.out]; exact hjm), List.getElem?_eq_getElem _⟩
          have hdr : L.drop j = x :: L.drop (j + 1) := by
            rw [List.drop_eq_getElem_cons (by rw [HM.out]; exact hjm)]
            rw [(List.getElem?_eq_some_iff.1 hx).2]
          obtain ⟨pg, po, hpa, hpl, a0, _⟩ := HPJ.out.ten hx
          subst hpa
          have HDN := Lib.hid (show (CA.close u x.seq).on = L.drop (j + 1) from close_head HK.out.sy.sa.inv (by rw [HD.out, hdr]))
          clear hx hdr
          go_wp2_with fail
          refine (Close_any HK.out.sy.sa x.seq).mono ?_
          rintro e w8 ⟨rfl, ht⟩
          have HPK := Lib.hid (show ClsAt w8 (some ⟨pg, po, none⟩) L from HPJ.out.mod ht.2 (fun ad e => by
            injection e with e
            subst e
            obtain ⟨XS, hp⟩ := HK.out.pp
            have := (HK.out.sy.far hp (by decide)).2.1
            simp at this ⊢
            exact fun e => this (by rw [e]; rfl)))
          have HK2 := Lib.hid (HK.out.puts1 ht)
          clear ht HK HPJ a0 HD
          generalize aggC _ = vv
          go_wp2_with fail
          go_roundw
          case rel => exact ⟨j + 1, _, by simp, by omega, HDN, HK2, HPK⟩
          case measure => simp [intOf]; omega
        · obtain rfl : j = m := by omega
          have HU := Lib.hid (show u.on = [] by rw [HD.out]; exact List.drop_eq_nil_of_le (by rw [HM.out]; exact Nat.le_refl _))
          clear HPJ HD
          go_wp2_with fail
          go_loopw [170] (fun i wx => ∃ (r : Nat), i = .int .i64 (r : Int) ∧ r ≤ j ∧ Hid (Pz w wx g M h N u s (.slice PA j pc) j (.slice QA j qc) L)) (fun i _ => j - (intOf i).toNat)
          case atStart => exact ⟨0, rfl, Nat.zero_le _, HK⟩
          case round =>
            obtain ⟨r, rfl, hr, HK3⟩ := hrel
            by_cases hrj : r < j
            · have hw : IntKind.i64.wrap ((r : Int) + 1) = (r : Int) + 1 := IntWalk.i64_in _ (by omega)
              have d2 : (r : Int) < (j : Int) := by omega
              have d3 : (0 : Int) ≤ (r : Int) := by omega
              obtain ⟨pg, cur, hpa, _⟩ := pp_open HK3.out.pp (by omega)
              subst hpa
              obtain ⟨hth, hpp, hmm⟩ := pp_set HK3.out.pp hrj nine
              have HTH := Lib.hid hth
              have HK4 := Lib.hid (HK3.out.turn (v' := .slice (some ⟨pg, 0, none⟩) j pc) (n' := j) hmm hpp (.inl rfl))
              clear hth hpp hmm HK3
              go_wp2_with (refine wpList_store_mid rfl 32 (.tmp 176) (.tmp 175) rfl pg (r * 10) (ten nine) rfl rfl HTH.out (by kernel_rfl) (by simp [ten, nine, Value.oneCell']) ?_; generalize World.setCells _ _ _ _ = w7 at HK4 ⊢)
              go_roundw
              case rel => exact ⟨r + 1, by simp, by omega, HK4⟩
              case measure => simp [intOf]; omega
            · obtain rfl : r = j := by omega
              go_wp2_with fail
              go_loopw [26, 30] (fun pv i wx => ∃ (q m' : Nat), i = .int .i64 (q : Int) ∧ q ≤ 9 ∧ Hid (m' = r + q) ∧ Hid (Pz w wx g M h N u s pv m' (.slice QA r qc) L)) (fun pv i _ => 9 - (intOf i).toNat)
              case atStart => exact ⟨0, r, rfl, Nat.zero_le _, Lib.hid rfl, HK3⟩
              case round =>
                obtain ⟨q, m', rfl, hq, HMQ, HK5⟩ := hrel
                by_cases hq9 : q < 9
                · have hw : IntKind.i64.wrap ((q : Int) + 1) = (q : Int) + 1 := IntWalk.i64_in _ (by omega)
                  have d4 : decide ((q : Int) < 9) = true := by simp; omega
                  have hz := fun w : World => Try.zeroValue32 w
                  have HKA := Lib.hid (HK5.out.on ((Below.refl _ wr).alloc (Nat.le_refl _) (.cells (ten CA.zero) 32)))
                  have HWA := Lib.hid (Whole.new wr 32 (ten CA.zero))
                  go_wp2_with (at_builtin; refine app_row rfl (.tmp 182) (.tmp 184) rfl HKA.out.pp HWA.out (by have := HMQ.out; omega) HKA.out.sy.below.size rfl rfl ?_; intro v' w6 hn1 hn2 hn3; have HK6 := Lib.hid (HKA.out.turn hn2 hn1 hn3); clear hn1 hn2 hn3)
                  go_roundw
                  case rel => exact ⟨q + 1, m' + 1, by simp, by omega, Lib.hid (by have := HMQ.out; omega), HK6⟩
                  case measure => simp [intOf]; omega
                · obtain rfl : q = 9 := by omega
                  have d4 : decide ((9 : Int) < 9) = false := by decide
                  go_wp2_with fail
                  refine (List_any HK5.out.sy.ta).mono ?_
                  rintro e w8 ⟨v8, rfl, ho8, hb8⟩
                  rw [HL.out] at ho8
                  obtain ⟨A8, c8, hv8, _, _⟩ := own_shape ho8
                  subst hv8
                  have HK6 := Lib.hid (HK5.out.on hb8)
                  have HI1 := Lib.hid (ClsAt.own (A := QA) (n := r) (c := qc) (by have h := HK6.out.qq; rw [HM.out] at h; exact h))
                  have HI2 := Lib.hid (ClsAt.own ho8)
                  have hm9 : L.length = r := HM.out
                  rw [hm9]
                  clear ho8 hb8 HK5 hm9
                  go_wp2_with fail
                  refine (RefSame_any QA A8 qc c8 r L w8 HM.out (by omega) HI1.out HI2.out).mono ?_
                  rintro e w9 ⟨rfl, hb9⟩
                  have HY9 := Lib.hid (HK6.out.sy.on hb9)
                  clear hb9 HI1 HI2 HK6
                  go_wp2_with fail
                  refine (List_any HY9.out.sa).mono ?_
                  rintro e wA ⟨vA, rfl, hoA, hbA⟩
                  rw [HU.out] at hoA
                  obtain ⟨AA, cA, hvA, _, _⟩ := own_shape hoA
                  subst hvA
                  have HBA := Lib.hid (below_on HY9.out.below hbA)
                  clear hoA hbA HY9
                  go_wp2_with fail
                  go_ret
                  exact ⟨rfl, HBA.out⟩

end Go.Proofs.Ytnacchldecjcaaa.lawCallsOwn
