/- The walk of SectorsTorn: it answers true, and old memory stands. -/
import Derived.Test.YtlnahmgcjaodkaaScArg
import Derived.Test.YtlnahmgcjaodkaaScTMath
import Derived.Test.YtlnahmgcjaodkaaLawBare
import Derived.JoinedCond
import Derived.OpenShut
namespace Go.Proofs.Ytlnahmgcjaodkaa.lawSectorsTorn
open Go Go.RowKit Go.ChangeShapes Go.WideShapes Go.ChangeAt
set_option linter.unusedVariables false
set_option linter.unusedSimpArgs false
open By
set_option maxRecDepth 100000
theorem fillp64 {g : Int} {n gn : Nat} {sp : List (List UInt8)} {d : List UInt8} {k : Nat} (h : Torn g n sp) (hg : 1 ≤ gn ∧ gn ≤ 1073741824) (hn : n ≤ 1073741824) (hd : d.length ≤ 188) (j : Nat) (x : List UInt8) (hx : (fillp sp (SC.pack gn n d) k)[j]? = some x) : x.length = 64 := by
  have hm := List.mem_of_getElem? hx
  unfold fillp at hm
  rcases List.mem_append.1 hm with h1 | h1
  · obtain ⟨i, hi⟩ := List.mem_iff_getElem?.1 (List.mem_of_mem_take h1)
    exact pack64 hg hn hd i x hi
  · obtain ⟨i, hi⟩ := List.mem_iff_getElem?.1 (List.mem_of_mem_drop h1)
    exact h.small i x hi
theorem app_small {L F : List (List UInt8)} (hL : ∀ (j : Nat) (x : List UInt8), L[j]? = some x → x.length ≤ 140737488355328) (hF : ∀ (j : Nat) (x : List UInt8), F[j]? = some x → x.length = 64) (j : Nat) (x : List UInt8) (hx : (L ++ F)[j]? = some x) : x.length ≤ 140737488355328 := by
  rcases List.mem_append.1 (List.mem_of_getElem? hx) with h1 | h1
  · obtain ⟨i, hi⟩ := List.mem_iff_getElem?.1 h1
    exact hL i x hi
  · obtain ⟨i, hi⟩ := List.mem_iff_getElem?.1 h1
    rw [hF i x hi]
    decide
set_option maxHeartbeats 2000000 in
theorem Same_quiet (xs : List (List UInt8)) (n : Nat) (A B : Option Addr) (c c' : Nat) (w : World) (hA : RowsAt w A xs) (hB : RowsAt w B xs) (hx : xs.length = n) (hn : n ≤ 9223372036854775807) :
    Calls Try.prog 14 #[.slice A n c, .slice B n c'] w fun e w' => e = .returned (.bool true) ∧ ∃ m, w' = w.drewN m := by
  have HA := Lib.hid hA
  have HB := Lib.hid hB
  have HXL := Lib.hid hx
  clear hA hB hx
  go_enter Try.func14, Try.ntmps14
  go_wp2_with fail
  go_loopw [5] (fun i wr => ∃ k m : Nat, i = .int .i64 (k : Int) ∧ k ≤ n ∧ Hid (wr = w.drewN m)) (fun i _ => n - (intOf i).toNat)
  case atStart => exact ⟨0, 0, rfl, Nat.zero_le _, Lib.hid rfl⟩
  case round =>
    obtain ⟨k, m, rfl, hk, HW⟩ := hrel
    by_cases hlt : k < n
    · have HX := Lib.hid (List.getElem?_eq_getElem (l := xs) (i := k) (by have := HXL.out; omega))
      generalize xs[k]'(by have := HXL.out; omega) = p at HX
      obtain ⟨b, o, eA, hb, hca⟩ := (show RowsAt wr A xs by rw [HW.out]; exact HA.out) (by have := HXL.out; omega)
      obtain ⟨b', o', eB, hb', hcb⟩ := (show RowsAt wr B xs by rw [HW.out]; exact HB.out) (by have := HXL.out; omega)
      subst eA
      subst eB
      obtain ⟨A1, c1, a0, hd1, _, _⟩ := hca k p HX.out
      obtain ⟨A2, c2, a1, hd2, _, _⟩ := hcb k p HX.out
      have hcv1 := fun n : Nat => By.str_of (c := c1) (show BytesAt (wr.drewN n) A1 p from hd1)
      have hcv2 := fun n : Nat => By.str_of (c := c2) (show BytesAt (wr.drewN n) A2 p from hd2)
      clear hca hcb hd1 hd2
      go_wp2_with fail
      go_quiet (fail)
      go_wp2_with fail
      go_roundw
      case rel => exact ⟨k + 1, _, rfl, hlt, Lib.hid (by rw [HW.out, World.drewN_drewN])⟩
      case measure => simp only [intOf]; omega
    · go_wp2_with fail
      go_ret
      exact ⟨rfl, m, HW.out⟩
set_option maxHeartbeats 8000000 in
theorem walk (g : Int) (A : Option Addr) (c : Nat) (rs : List (List UInt8)) (B : Option Addr) (cb : Nat) (ts : List (List UInt8)) (w : World) (hg : -9223372036854775808 ≤ g ∧ g ≤ 9223372036854775807) (hA : RowsAt w A rs) (hc : rs.length ≤ c) (hm : c ≤ 5864062014805) (hl : ∀ (j : Nat) (x : List UInt8), rs[j]? = some x → x.length ≤ 140737488351232) (hB : RowsAt w B ts) (hcb : ts.length ≤ cb) (hmb : cb ≤ 5864062014805) (hlb : ∀ (j : Nat) (x : List UInt8), ts[j]? = some x → x.length ≤ 140737488351232) :
    Calls Try.prog 8 #[.int .i64 g, .slice A rs.length c, .slice B ts.length cb] w (LK.True_ w) := by
  have HA := Lib.hid (awake_any w)
  have HR := Lib.hid hA
  have HLE := Lib.hid hl
  have HB := Lib.hid hB
  have HLB := Lib.hid hlb
  clear hA hl hB hlb
  go_enter Try.func8, Try.ntmps8
  go_wp2_with fail
  go_at_call 12
  with_reducible refine HA.out.mono ?_
  rintro e w1 ⟨rfl, HB1⟩
  have HR1 := Lib.hid (HR.out.below HB1.out)
  by_cases h20 : (20 : Int) < (rs.length : Int)
  · go_wp2_with fail
    go_ret
    exact ⟨rfl, HB1.out⟩
  · by_cases h12 : (12 : Int) < (ts.length : Int)
    · go_wp2_with fail
      go_ret
      exact ⟨rfl, HB1.out⟩
    · have hn20 : rs.length ≤ 20 := by omega
      have hm12 : ts.length ≤ 12 := by omega
      obtain ⟨n, hn⟩ : ∃ n, n = rs.length := ⟨_, rfl⟩
      have HN := Lib.hid hn.symm
      rw [← hn] at h20 hn20 hc ⊢
      clear hn
      obtain ⟨m, hm⟩ : ∃ m, m = ts.length := ⟨_, rfl⟩
      have HM := Lib.hid hm.symm
      rw [← hm] at h12 hm12 hcb ⊢
      clear hm
      go_wp2_with fail
      go_at_call 21
      refine (packed_any g A n c rs w1 HR1.out HN.out (by omega) HLE.out).mono ?_
      rintro e w2 ⟨HB2, ⟨v2, HF, rfl, HL2⟩ | ⟨HNF, rfl⟩⟩
      · have HB12 := Lib.hid (below_on2 HB1.out (.inl HB1.out.size) HB2.out)
        have h40' : rs.length ≤ 40 := by rw [HN.out]; omega
        have HSF := Lib.hid (fun (rest tail : List (List UInt8)) (u : Nat) (hr : ScansI g rs.length rest tail u) => scans_fair HF.out h40' hr)
        have HPLN := Lib.hid (packs_len g.toNat 0 rs (fun r hr => by obtain ⟨j, hj⟩ := List.mem_iff_getElem?.1 hr; exact (fair_any HF.out hj).2.2.2))
        have H64 := Lib.hid (show ∀ (j : Nat) (x : List UInt8), (SC.packs g.toNat 0 rs)[j]? = some x → x.length ≤ 140737488355328 from fun j x hx => by
          cases rs with
          | nil => simp [SC.packs] at hx
          | cons d a =>
            have h1 := fair_any HF.out (i := 0) (r := d) rfl
            rw [packs64 g.toNat h1.1 0 (d :: a) (by rw [Nat.zero_add]; omega) (fun r hr => by obtain ⟨j, hj⟩ := List.mem_iff_getElem?.1 hr; exact (fair_any HF.out hj).2.2.2) x (List.mem_iff_getElem?.2 ⟨j, hx⟩)]
            decide)
        generalize SC.packs g.toNat 0 rs = L at *
        obtain ⟨A2, c2, e2, _, hc2, hcc2, _⟩ := HL2.out.shape
        subst e2
        have hL160 : L.length ≤ 160 := by have := HPLN.out; rw [HN.out] at this; omega
        have hmk : ∀ w' : World, (Instr.makeSlice 26 (.int .i64 64) (.int .i64 64)).run Try.prog w' = .ok (.slice (some ⟨w'.heap.size, 0, none⟩) 64 64) (w'.alloc (.cells (madeCells #[.int .u8 0] 64) 5)) := fun w' => run_make_row' (P := Try.prog) 26 5 (.int .u8 0) 1 Try.underlying26 info_u8 rfl .i64 .i64 64 (by omega) (by omega) w'
        have h11 : w1.heap.size ≤ w2.heap.size := HB2.out.size
        have h01 : w.heap.size ≤ w1.heap.size := HB1.out.size
        go_wp2_with fail
        go_loopw [7, 10] (fun v i wr => ∃ k : Nat, i = .int .i64 (k : Int) ∧ k ≤ 5 ∧ Hid (Lst w1.heap.size (L ++ List.replicate k (List.replicate 64 0)) v wr) ∧ Hid (Below w.heap.size w wr) ∧ w1.heap.size ≤ wr.heap.size) (fun _ i _ => 5 - (intOf i).toNat)
        case atStart => exact ⟨0, rfl, Nat.zero_le _, Lib.hid (by rw [List.replicate_zero, List.append_nil]; exact HL2.out), HB12, h11⟩
        case round =>
          obtain ⟨k, rfl, hk, HL, HBW, hwr⟩ := hrel
          obtain ⟨A3, c3, e3, _, _, _, _⟩ := HL.out.shape
          have HLN := Lib.hid (show (L ++ List.replicate k (List.replicate 64 (0 : UInt8))).length = L.length + k by simp)
          rw [HLN.out] at e3
          by_cases hlt : k < 5
          · subst e3
            have HRD := Lib.hid (show Rdy w1.heap.size (L ++ List.replicate k (List.replicate 64 0)) (.slice A3 (L.length + k) c3) (List.replicate 64 0) (.slice (some ⟨wr.heap.size, 0, none⟩) 64 64) (wr.alloc (.cells (madeCells #[.int .u8 0] 64) 5)) from
              ⟨HL.out.below ((Below.refl _ wr).alloc (Nat.le_refl _) _), own_of_whole (by rw [← zerosAt]; exact Whole.new wr _ _) hwr (by simp) (by decide), by simp; omega, by simp; omega⟩)
            have HSZ := Lib.hid (show (wr.alloc (.cells (madeCells #[.int .u8 0] 64) 5)).heap.size = wr.heap.size + 1 by simp)
            have HBA := Lib.hid ((Below.refl wr.heap.size wr).alloc (Nat.le_refl _) (.cells (madeCells #[.int .u8 0] 64) 5))
            go_wp2_with (refine app_rdy2 HRD (wr.heap.size + 1) HSZ.out rfl (.tmp 44) (.tmp 46) rfl rfl rfl rfl ?_; intro v6 w6 HL6 HB6)
            have HL7 := Lib.hid (show Lst w1.heap.size (L ++ List.replicate (k + 1) (List.replicate 64 0)) v6 w6 by
              have h := HL6.out
              rw [List.append_assoc, ← List.replicate_succ'] at h
              exact h)
            have HBN := Lib.hid (HBW.out.trans ((HBA.out.mono HBW.out.size).trans (HB6.out.mono h01)))
            have hw6 : w1.heap.size ≤ w6.heap.size := Nat.le_trans hwr (Nat.le_trans HBA.out.size HB6.out.size)
            go_roundw
            case rel => exact ⟨k + 1, by go_num, hlt, HL7, HBN, hw6⟩
            case measure => simp only [intOf]; go_num
          · have hk5 : k = 5 := by omega
            rw [hk5] at HL HLN e3
            obtain ⟨h, hA3⟩ : ∃ h, A3 = some ⟨h, 0, none⟩ := by
              obtain ⟨hs, q1, _⟩ := HL.out.ex
              obtain ⟨gg, cap, hv, _⟩ := q1.form (by rw [HLN.out]; omega)
              rw [e3] at hv
              injection hv with hv
              exact ⟨gg, hv⟩
            subst hA3
            subst e3
            rw [hk5]
            rw [show ((5 : Nat) : Int) = 5 from rfl]
            clear hk5 hlt hk
            have hn2 : rs.length ≤ 1073741824 := by omega
            go_wp2_with fail
            obtain ⟨wz, rfl⟩ : ∃ y, y = wr := ⟨_, rfl⟩
            go_loopw [50] (fun i wr => ∃ (ti : Nat) (sp : List (List UInt8)), i = .int .i64 (ti : Int) ∧ ti ≤ m ∧ Hid (Lst w1.heap.size (L ++ sp) (.slice (some ⟨h, 0, none⟩) (L.length + 5) c3) wr) ∧ Hid (Torn g rs.length sp) ∧ Hid (Below w.heap.size w wr) ∧ w1.heap.size ≤ wr.heap.size) (fun i _ => m - (intOf i).toNat)
            case atStart => exact ⟨0, _, rfl, Nat.zero_le _, HL, Lib.hid (Torn.zeros g rs.length), HBW, hwr⟩
            case round =>
              obtain ⟨ti, sp, rfl, him, HLs, HT, HBs, hws⟩ := hrel
              by_cases hlt2 : ti < m
              · obtain ⟨b, o, eB, hbl, hca⟩ := HB.out (by rw [HM.out]; omega)
                subst eB
                obtain ⟨d, hd⟩ : ∃ d, ts[ti]? = some d := ⟨_, List.getElem?_eq_getElem (by rw [HM.out]; exact hlt2)⟩
                obtain ⟨A4, c4, a4', hB4, _, _⟩ := hca ti d hd
                have a4 := (HBs.out.cell (p := ⟨b, o + ti, none⟩) hbl).trans a4'
                have HB0 := Lib.hid hB4
                have HB4 := Lib.hid (hB4.below HBs.out)
                clear a4'
                have HDL := Lib.hid (show d.length ≤ 140737488355328 by have := HLB.out ti d hd; omega)
                clear hca hd hB4
                obtain ⟨wr0, rfl⟩ : ∃ y, y = wr := ⟨_, rfl⟩
                go_wp2_with (at_builtin; refine app_all rfl (.tmp 59) (.tmp 60) rfl A4 c4 d.length d rfl HB4.out wr0.heap.size rfl rfl rfl HDL.out ?_; intro A5 n5 c5 w5 hM; obtain ⟨HN5, HB5, HO5, HE5, hn5, hc5⟩ := hM)
                go_at_call 11
                refine (Pack_any g (n : Int) d n5 A5 c5 w5 HB5.out HN5.out.symm ⟨hn5, hc5⟩).mono ?_
                rintro e w6 ⟨HB6, h6⟩
                have hw5 : w1.heap.size ≤ w5.heap.size := Nat.le_trans hws HE5.out.size
                have hw6 : w1.heap.size ≤ w6.heap.size := Nat.le_trans hw5 HB6.out.size
                have HBW6 := Lib.hid (HBs.out.trans ((HE5.out.mono (Nat.le_trans h01 hws)).trans (HB6.out.mono (Nat.le_trans h01 hw5))))
                have HL6 := Lib.hid ((HLs.out.below HE5.out).below HB6.out)
                have HD6 := Lib.hid ((HB4.out.below HE5.out).below HB6.out)
                rcases h6 with ⟨gn, sn, bs, HG, rfl, HP⟩ | ⟨HE, rfl⟩
                · -- BEGIN
                  obtain ⟨hg1, hg2, hg3, hg4, hg5⟩ := HG.out
                  have hsn : sn = rs.length := by rw [HN.out]; omega
                  subst hsn
                  clear hg2
                  have hnp : 1 ≤ SC.np d ∧ SC.np d ≤ 4 := by unfold SC.np; omega
                  have HPLN5 := Lib.hid (SC.pack_len gn rs.length d)
                  have HPAT := Lib.hid (fun k (hk : k < SC.np d) => SC.pack_at (g := gn) (s := rs.length) (d := d) hk)
                  have HPUT := Lib.hid (fun (k : Nat) (F : List (List UInt8)) (hF : Torn g rs.length F) (hk : k + 1 < SC.np d) => hF.put hg3 hn2 hg5 hk)
                  have HDONE := Lib.hid (HT.out.done hg1 hg3 hn2 hg5)
                  have HP64 := Lib.hid (fun (j : Nat) (x : List UInt8) (hx : (SC.pack gn rs.length d)[j]? = some x) => pack64 hg3 hn2 hg5 j x hx)
                  have HF64 := Lib.hid (fun (k j : Nat) (x : List UInt8) (hx : (fillp sp (SC.pack gn rs.length d) k)[j]? = some x) => fillp64 HT.out hg3 hn2 hg5 j x hx)
                  have HSP5 := Lib.hid HT.out.len
                  clear hg1 hg3 hg4 hg5 HG
                  generalize (fun k => SC.lay (SC.part gn rs.length d k)) = pk at *
                  generalize SC.pack gn rs.length d = ps at *
                  generalize SC.np d = p at *
                  have hh5 : h < w5.heap.size := by
                    obtain ⟨hs, q1, _⟩ := HLs.out.ex
                    have := (q1.lt h rfl).2
                    have := HE5.out.size
                    omega
                  have HLF := Lib.hid (show ∀ k, k ≤ p → (L ++ fillp sp ps k).length = L.length + 5 from fun k hk => by rw [List.length_append, fillp_len (by rw [HPLN5.out]; exact hk) (by rw [HSP5.out]; omega), HSP5.out])
                  go_wp2_with fail
                  obtain ⟨wx, rfl⟩ : ∃ y, y = w6 := ⟨_, rfl⟩
                  go_loopw [69] (fun kv wy => ∃ k : Nat, kv = .int .i64 (k : Int) ∧ k ≤ p ∧ Hid (Lst w1.heap.size (L ++ fillp sp ps k) (.slice (some ⟨h, 0, none⟩) (L.length + 5) c3) wy) ∧ Hid (k < p → Torn g rs.length (fillp sp ps k)) ∧ Hid (ti + 1 < m → k < p) ∧ Hid (Packed w5.heap.size w5.heap.size bs p ps wy) ∧ Hid (Below w.heap.size w wy) ∧ wx.heap.size ≤ wy.heap.size) (fun kv _ => 5 - (intOf kv).toNat)
                  case atStart => exact ⟨0, rfl, Nat.zero_le _, Lib.hid (by rw [fillp_zero]; exact HL6.out), Lib.hid (fun _ => by rw [fillp_zero]; exact HT.out), Lib.hid (fun _ => hnp.1), HP, HBW6, Nat.le_refl _⟩
                  case round =>
                    obtain ⟨k, rfl, hk, HLk, HTk, HIk, HPk, HBk, hwk⟩ := hrel
                    have HFL := Lib.hid (HLF.out k hk)
                    have HSM64 := Lib.hid (app_small (L := L) (F := fillp sp ps k) H64.out (HF64.out k))
                    obtain ⟨A7, c7, e7, HRL, _, _, _⟩ := HLk.out.shape
                    rw [HFL.out] at e7
                    cases e7
                    have HOWN := Lib.hid (own_any (some ⟨h, 0, none⟩) (L.length + 5) c3 (L ++ fillp sp ps k) wr HRL HFL.out (by omega) HSM64.out)
                    clear HRL
                    by_cases hlt3 : k < p
                    · have HTT := Lib.hid (HTk.out hlt3)
                      have HSC := Lib.hid (show ScansI g 0 (L ++ fillp sp ps k) rs L.length by
                        have h := HSF.out _ [] 0 HTT.out.none
                        rw [List.append_nil, Nat.add_zero] at h
                        exact h)
                      go_wp2_with fail
                      go_at_call 19
                      refine HOWN.out.mono ?_
                      rintro e w8 ⟨v8, rfl, HL8, HB8⟩
                      obtain ⟨A8, c8, rfl, HR8, hl8, hc8, _⟩ := HL8.out.shape
                      have HSCN := Lib.hid (Scan_any A8 (L.length + 5) c8 (L ++ fillp sp ps k) g w8 HR8 HFL.out ⟨by rw [HFL.out] at hl8; exact hl8, hc8⟩ (by omega))
                      rw [HFL.out] at hl8 ⊢
                      clear HR8
                      go_wp2_with fail
                      go_at_call 18
                      refine HSCN.out.mono ?_
                      rintro e w9 ⟨rs', u', v9, rfl, HS9, HL9, HB9⟩
                      obtain ⟨e1', e2'⟩ := HS9.out.uniq HSC.out
                      have e1' := e1'.symm
                      subst e1' e2'
                      obtain ⟨A10, c10, rfl, HR10, _, _, _⟩ := HL9.out.shape
                      have HBW9 := Lib.hid (below_on2 (below_on2 HBk.out (.inl HBk.out.size) HB8.out) (.inl (Nat.le_trans HBk.out.size HB8.out.size)) HB9.out)
                      have HSM := Lib.hid (SameAll_any rs rs A10 A c10 c w9 HR10 (HR.out.below HBW9.out) (by omega))
                      rw [decide_eq_true (rfl : rs = rs), HN.out] at HSM
                      rw [HN.out]
                      clear HR10
                      go_wp2_with fail
                      go_at_call 14
                      with_reducible refine HSM.out.mono ?_
                      rintro e w10 ⟨rfl, HB10⟩
                      have HBW10 := Lib.hid (below_on2 HBW9.out (.inl HBW9.out.size) HB10.out)
                      have HLA := Lib.hid (((HLk.out.below HB8.out).below HB9.out).below HB10.out)
                      have HPA := Lib.hid (((HPk.out.below HB8.out).below HB9.out).below HB10.out)
                      have hwA : wx.heap.size ≤ w10.heap.size := Nat.le_trans hwk (Nat.le_trans HB8.out.size (Nat.le_trans HB9.out.size HB10.out.size))
                      clear HLk HPk HSM HSCN HOWN HL8 HL9 HSM64
                      go_upto_region 24 with (fail)
                      by_cases hkb : k + 1 = p ∧ ti + 1 < m
                      · have e1 : ((k : Int) == (p : Int) - 1) = true := by have := hkb.1; simp; omega
                        have e2 : (ti : Int) < (m : Int) - 1 := by have := hkb.2; omega
                        have e3 : ((ti : Int) == (m : Int) - 1) = false := by have := hkb.2; simp; omega
                        clear hkb
                        go_wp2_with fail
                        go_roundw
                        case rel => exact ⟨ti + 1, fillp sp ps k, by go_num, hlt2, HLA, HTT, HBW10, by omega⟩
                        case measure => simp only [intOf]; go_num
                      · obtain ⟨b, hb⟩ : ∃ b, bs[k]? = some b := ⟨_, List.getElem?_eq_getElem (by rw [HPA.out.len, HPLN5.out]; exact hlt3)⟩
                        have HX := Lib.hid (HPAT.out k hlt3)
                        have HX64 := Lib.hid (HP64.out k _ HX.out)
                        have HPUTK := Lib.hid (HPUT.out k _ HTT.out)
                        generalize SC.lay (SC.part gn rs.length d k) = x at HX HX64 HPUTK
                        have HBX := Lib.hid (Whole.reads (HPA.out.each k b x hb HX.out).2)
                        have c0 : w10.cell? ⟨w5.heap.size, k, none⟩ = some (.slice (some ⟨b, 0, none⟩) 64 64) := by rw [HPA.out.row.cell]; exact packCells_hdr hb
                        have HXL : Hid (x.length ≤ 140737488355328) := Lib.hid (by rw [HX64.out]; decide)
                        have hb5 : w5.heap.size < w10.heap.size := HPA.out.row.lt
                        have nb5 : w5.heap.size ≠ w10.heap.size := Nat.ne_of_lt hb5
                        have hs10 : w1.heap.size ≤ w10.heap.size := by omega
                        have hkL : L.length + k < L.length + 5 := by omega
                        have HSET := Lib.hid (show (L ++ fillp sp ps k).set (L.length + k) x = L ++ fillp sp ps (k + 1) by
                          rw [List.set_append_right _ _ (Nat.le_add_right _ _), Nat.add_sub_cancel_left, fillp_next HX.out (by rw [HSP5.out]; omega)])
                        have HNX := Lib.hid (show k + 1 < p → Torn g rs.length (fillp sp ps (k + 1)) from fun hk1 => by
                          have h1 := HPUTK.out hk1
                          rw [fillp_next HX.out (by rw [HSP5.out]; omega)] at h1
                          exact h1)
                        have HIX := Lib.hid (show ti + 1 < m → k + 1 < p from fun hi => by
                          rcases Nat.lt_or_ge (k + 1) p with h | h
                          · exact h
                          · exact absurd ⟨by omega, hi⟩ hkb)
                        clear hb
                        rcases Nat.lt_or_ge (k + 1) p with hk1 | hk1
                        · have e1 : ((k : Int) == (p : Int) - 1) = false := by simp; omega
                          clear hkb
                          go_wp2_with (at_builtin; refine app_all rfl (.tmp 104) (.tmp 108) rfl (some ⟨b, 0, none⟩) 64 64 x HX64.out.symm HBX.out w10.heap.size rfl rfl rfl HXL.out ?_; intro A11 n11 c11 w11 hM; obtain ⟨HN11, HB11, HO11, HE11, hn11, hc11⟩ := hM; obtain ⟨k1, ⟨u0, k2⟩, k3, k4⟩ := Lst.set (by rw [HFL.out]; exact HLA.out.below HE11.out) (j := L.length + k) (by rw [HFL.out]; exact hkL) (x := x) (by rw [← HN11.out]; exact own_base HO11.out hs10); have HL12 := Lib.hid k1; rw [HFL.out, HSET.out] at HL12; clear k1)
                          have HPB := Lib.hid ((HPA.out.below HE11.out).mod ((Mod.refl [h] w11).store (p := ⟨h, L.length + k, none⟩) (.inl (by simp)) (.slice A11 n11 c11)) (fun x hx => by rw [List.mem_singleton.1 hx]; exact hh5))
                          have HBB := Lib.hid ((below_on2 HBW10.out (.inl HBW10.out.size) HE11.out).setCell (p := ⟨h, L.length + k, none⟩) (Nat.le_trans h01 k4) (.slice A11 n11 c11))
                          have hwB : wx.heap.size ≤ (w11.setCell ⟨h, L.length + k, none⟩ (.slice A11 n11 c11)).heap.size := by have := HE11.out.size; simp; omega
                          go_roundw
                          case rel => exact ⟨k + 1, by go_num, hlt3, HL12, HNX, HIX, HPB, HBB, hwB⟩
                          case measure => simp only [intOf]; go_num
                        · have e1 : ((k : Int) == (p : Int) - 1) = true := by simp; omega
                          have e2 : ¬ (ti : Int) < (m : Int) - 1 := by
                            intro h
                            exact hkb ⟨by omega, by omega⟩
                          clear hkb
                          go_wp2_with (at_builtin; refine app_all rfl (.tmp 104) (.tmp 108) rfl (some ⟨b, 0, none⟩) 64 64 x HX64.out.symm HBX.out w10.heap.size rfl rfl rfl HXL.out ?_; intro A11 n11 c11 w11 hM; obtain ⟨HN11, HB11, HO11, HE11, hn11, hc11⟩ := hM; obtain ⟨k1, ⟨u0, k2⟩, k3, k4⟩ := Lst.set (by rw [HFL.out]; exact HLA.out.below HE11.out) (j := L.length + k) (by rw [HFL.out]; exact hkL) (x := x) (by rw [← HN11.out]; exact own_base HO11.out hs10); have HL12 := Lib.hid k1; rw [HFL.out, HSET.out] at HL12; clear k1)
                          have HPB := Lib.hid ((HPA.out.below HE11.out).mod ((Mod.refl [h] w11).store (p := ⟨h, L.length + k, none⟩) (.inl (by simp)) (.slice A11 n11 c11)) (fun x hx => by rw [List.mem_singleton.1 hx]; exact hh5))
                          have HBB := Lib.hid ((below_on2 HBW10.out (.inl HBW10.out.size) HE11.out).setCell (p := ⟨h, L.length + k, none⟩) (Nat.le_trans h01 k4) (.slice A11 n11 c11))
                          have hwB : wx.heap.size ≤ (w11.setCell ⟨h, L.length + k, none⟩ (.slice A11 n11 c11)).heap.size := by have := HE11.out.size; simp; omega
                          go_roundw
                          case rel => exact ⟨k + 1, by go_num, hlt3, HL12, HNX, HIX, HPB, HBB, hwB⟩
                          case measure => simp only [intOf]; go_num
                    · obtain rfl : k = p := by omega
                      have hti : ti + 1 = m := by
                        rcases Nat.lt_or_ge (ti + 1) m with h1 | h1
                        · exact absurd (HIk.out h1) (Nat.lt_irrefl _)
                        · omega
                      have e1 : ((ti : Int) == (m : Int) - 1) = true := by simp; omega
                      have HSC := Lib.hid (show ScansI g 0 (L ++ fillp sp ps k) (rs ++ [d]) (L.length + k) from HSF.out _ [d] k HDONE.out)
                      obtain ⟨t, ht⟩ : ∃ t, t = L.length + k := ⟨_, rfl⟩
                      have HTK := Lib.hid ht
                      rw [← ht] at HSC
                      clear ht hti
                      go_wp2_with fail
                      go_at_call 19
                      refine HOWN.out.mono ?_
                      rintro e w8 ⟨v8, rfl, HL8, HB8⟩
                      obtain ⟨A8, c8, rfl, HR8, hl8, hc8, _⟩ := HL8.out.shape
                      have HSCN := Lib.hid (Scan_any A8 (L.length + 5) c8 (L ++ fillp sp ps k) g w8 HR8 HFL.out ⟨by rw [HFL.out] at hl8; exact hl8, hc8⟩ (by omega))
                      rw [HFL.out] at hl8 ⊢
                      clear HR8
                      go_wp2_with fail
                      go_at_call 18
                      refine HSCN.out.mono ?_
                      rintro e w9 ⟨rs', u', v9, rfl, HS9, HL9, HB9⟩
                      obtain ⟨e1', e2'⟩ := HS9.out.uniq HSC.out
                      subst e1' e2'
                      obtain ⟨A10, c10, rfl, HR10, hl10, hc10, _⟩ := HL9.out.shape
                      have HBW9 := Lib.hid (below_on2 (below_on2 HBk.out (.inl HBk.out.size) HB8.out) (.inl (Nat.le_trans HBk.out.size HB8.out.size)) HB9.out)
                      have HRN := Lib.hid (show (rs ++ [d]).length = n + 1 by rw [List.length_append, HN.out]; rfl)
                      rw [HRN.out] at hl10 ⊢
                      obtain ⟨b10, o10, eA, hb10, hca⟩ := HR10 (by rw [HRN.out]; exact Nat.succ_pos _)
                      subst eA
                      obtain ⟨A11, c11, a0, hd1, _, _⟩ := hca n d (by rw [← HN.out, List.getElem?_append_right (Nat.le_refl _), Nat.sub_self]; rfl)
                      have hcv1 := fun j : Nat => By.str_of (c := c11) (show BytesAt (w9.drewN j) A11 d from hd1)
                      have hcv2 := fun j : Nat => By.str_of (c := c4) (show BytesAt (w9.drewN j) A4 d from (show BytesAt w9 A4 d from HB0.out.below HBW9.out))
                      have HQ := Lib.hid (fun j : Nat => Same_quiet rs n (some ⟨b10, o10, none⟩) A c10 c (w9.drewN j) (show RowsAt (w9.drewN j) _ rs from rowsAt_front HR10) (show RowsAt (w9.drewN j) A rs from (show RowsAt w9 A rs from HR.out.below HBW9.out)) HN.out (by omega))
                      have f1 : ((n : Int) + 1 == (n : Int) + 1) = true := by simp
                      have f2 : ((u' : Int) == (L.length : Int) + (k : Int)) = true := by have := HTK.out; simp; omega
                      have hu200 : u' ≤ 200 := by have := HTK.out; omega
                      have hnc10 : n ≤ c10 := by omega
                      clear hca HR10 hd1 HSCN HL9 HL8 HOWN HSM64
                      go_upto_region 29 with (fail)
                      go_quiet ((go_at_call 14; exact Calls.quiet_of (HQ.out _)))
                      go_wp2_with fail
                      go_ret
                      exact ⟨rfl, below_drewN HBW9.out _⟩
                  -- END
                · generalize hpe : packErr g (n : Int) d.length = pe at *
                  have hpe0 : (pe == 0) = false := by simpa using HE.out
                  clear hpe
                  go_wp2_with fail
                  go_roundw
                  case rel => exact ⟨ti + 1, sp, by go_num, hlt2, HL6, HT, HBW6, hw6⟩
                  case measure => simp only [intOf]; go_num
              · obtain rfl : ti = m := by omega
                go_wp2_with fail
                go_ret
                exact ⟨rfl, HBs.out⟩
      · have HB12 := Lib.hid (below_on2 HB1.out (.inl HB1.out.size) HB2.out)
        go_wp2_with fail
        go_ret
        exact ⟨rfl, HB12.out⟩

end Go.Proofs.Ytlnahmgcjaodkaa.lawSectorsTorn
