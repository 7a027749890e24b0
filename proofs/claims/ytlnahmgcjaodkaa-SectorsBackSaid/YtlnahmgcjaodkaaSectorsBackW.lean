/- The walk of SectorsBack: it answers true, and old memory stands. -/
import Derived.Test.YtlnahmgcjaodkaaScArg
import Derived.Test.YtlnahmgcjaodkaaScBMath
import Derived.Test.YtlnahmgcjaodkaaLawBare
import Derived.JoinedCond
import Derived.OpenShut
namespace Go.Proofs.Ytlnahmgcjaodkaa.lawSectorsBack
open Go Go.RowKit Go.ChangeShapes Go.WideShapes Go.ChangeAt
set_option linter.unusedVariables false
set_option linter.unusedSimpArgs false
open By
set_option maxRecDepth 100000
set_option maxHeartbeats 8000000 in
theorem walk (g : Int) (A : Option Addr) (c : Nat) (rs : List (List UInt8)) (B : Option Addr) (cb : Nat) (bh : List UInt8) (w : World) (hg : -9223372036854775808 ≤ g ∧ g ≤ 9223372036854775807) (hA : RowsAt w A rs) (hc : rs.length ≤ c) (hm : c ≤ 5864062014805) (hl : ∀ (j : Nat) (x : List UInt8), rs[j]? = some x → x.length ≤ 140737488351232) (hB : BytesAt w B bh) (hcb : bh.length ≤ cb) (hmb : cb ≤ 140737488351232) :
    Calls Try.prog 7 #[.int .i64 g, .slice A rs.length c, .slice B bh.length cb] w (LK.True_ w) := by
  have HA := Lib.hid (awake_any w)
  have HR := Lib.hid hA
  have HLE := Lib.hid hl
  have HB := Lib.hid hB
  clear hA hl hB
  go_enter Try.func7, Try.ntmps7
  go_wp2_with fail
  go_at_call 12
  with_reducible refine HA.out.mono ?_
  rintro e w1 ⟨rfl, HB1⟩
  have HR1 := Lib.hid (HR.out.below HB1.out)
  by_cases h40 : (40 : Int) < (rs.length : Int)
  · go_wp2_with fail
    go_ret
    exact ⟨rfl, HB1.out⟩
  · have hn40 : rs.length ≤ 40 := by omega
    obtain ⟨n, hn⟩ : ∃ n, n = rs.length := ⟨_, rfl⟩
    have HN := Lib.hid hn.symm
    rw [← hn] at h40 hn40 hc ⊢
    clear hn
    go_wp2_with fail
    go_at_call 21
    refine (packed_any g A n c rs w1 HR1.out HN.out hn40 HLE.out).mono ?_
    rintro e w2 ⟨HB2, ⟨v2, HF, rfl, HL2⟩ | ⟨HNF, rfl⟩⟩
    · have HB12 := Lib.hid (below_on2 HB1.out (.inl HB1.out.size) HB2.out)
      have h40' : rs.length ≤ 40 := by rw [HN.out]; exact hn40
      have HSF := Lib.hid (fun (rest : List (List UInt8)) (hr : ScansI g rs.length rest [] 0) => scans_fair HF.out h40' hr)
      have HAT := Lib.hid (fun (i k : Nat) (r : List UInt8) (h : rs[i]? = some r) (hk : k < SC.np r) => packs_at (g := g.toNat) h hk)
      have HON := Lib.hid (fun (i : Nat) (r : List UInt8) (h : rs[i]? = some r) => offs_next (g := g.toNat) h)
      have HOE := Lib.hid (offs_end g.toNat rs)
      have HO0 := Lib.hid (show offs g.toNat rs 0 = 0 by unfold offs; simp [SC.packs])
      have HOL := Lib.hid (show ∀ i, offs g.toNat rs i ≤ (SC.packs g.toNat 0 rs).length from fun i => by
        unfold offs
        have e : SC.packs g.toNat 0 rs = SC.packs g.toNat 0 (rs.take i) ++ SC.packs g.toNat (0 + (rs.take i).length) (rs.drop i) := by rw [← packs_app, List.take_append_drop]
        rw [e, List.length_append]
        omega)
      have HPLN := Lib.hid (packs_len g.toNat 0 rs (fun r hr => by obtain ⟨j, hj⟩ := List.mem_iff_getElem?.1 hr; exact (fair_any HF.out hj).2.2.2))
      have H64 := Lib.hid (show ∀ (j : Nat) (x : List UInt8), (SC.packs g.toNat 0 rs)[j]? = some x → x.length ≤ 140737488355328 from fun j x hx => by
        cases rs with
        | nil => simp [SC.packs] at hx
        | cons d a =>
          have h1 := fair_any HF.out (i := 0) (r := d) rfl
          rw [packs64 g.toNat h1.1 0 (d :: a) (by rw [Nat.zero_add]; omega) (fun r hr => by obtain ⟨j, hj⟩ := List.mem_iff_getElem?.1 hr; exact (fair_any HF.out hj).2.2.2) x (List.mem_iff_getElem?.2 ⟨j, hx⟩)]
          decide)
      have HGG := Lib.hid (fun (i : Nat) (r : List UInt8) (h : rs[i]? = some r) => fair_any HF.out h)
      generalize SC.packs g.toNat 0 rs = L at *
      obtain ⟨A2, c2, e2, _, hc2, hcc2, _⟩ := HL2.out.shape
      subst e2
      have hL160 : L.length ≤ 160 := by have := HPLN.out; rw [HN.out] at this; omega
      go_wp2_with fail
      go_loopw [11, 54] (fun a i wr => ∃ k : Nat, i = .int .i64 (k : Int) ∧ k ≤ n ∧ a = .int .i64 ((offs g.toNat rs k : Nat) : Int) ∧ Hid (Lst w1.heap.size L (.slice A2 L.length c2) wr) ∧ Hid (Below w.heap.size w wr)) (fun _ i _ => n - (intOf i).toNat)
      case atStart => exact ⟨0, rfl, Nat.zero_le _, by rw [HO0.out]; rfl, HL2, HB12⟩
      case round =>
        obtain ⟨k, rfl, hk, rfl, HL, HBW⟩ := hrel
        by_cases hlt : k < n
        ·
          -- BEGIN
          obtain ⟨b, o, eA, hbl, hca⟩ := (HR.out.below HBW.out) (by rw [HN.out]; omega)
          subst eA
          obtain ⟨r, hr⟩ : ∃ r, rs[k]? = some r := ⟨_, List.getElem?_eq_getElem (by rw [HN.out]; exact hlt)⟩
          obtain ⟨A3, c3, a3, hB3, _, _⟩ := hca k r hr
          have HB3 := Lib.hid hB3
          have HWR := Lib.hid (Below.refl wr.heap.size wr)
          have HATR := Lib.hid (fun j hj => HAT.out k j r hr hj)
          have HONR := Lib.hid (HON.out k r hr)
          have HGR := Lib.hid (HGG.out k r hr)
          have HOLK := Lib.hid (HOL.out (k + 1))
          have hnp : 1 ≤ SC.np r ∧ SC.np r ≤ 4 := by have := (HGG.out k r hr).2.2.2; unfold SC.np; omega
          have HTN := Lib.hid (take_np r)
          have HTP := Lib.hid (fun j => take_part r j)
          have hk40 : k < 40 := by omega
          generalize offs g.toNat rs k = f at *
          have hf160 : f + SC.np r ≤ L.length := by have h1 := HOLK.out; rw [HONR.out] at h1; exact h1
          have HPN := Lib.hid (show ∀ j, (SC.part g.toNat k r j).parts = SC.np r from fun _ => rfl)
          have HGOOD := Lib.hid (show ∀ j, j < SC.np r → SC.Good (SC.part g.toNat k r j) from fun j hj => SC.part_good HGR.out.1 HGR.out.2.2.1 HGR.out.2.2.2 hj)
          have HPVV := Lib.hid (fun (j : Nat) (v : Value) => show pv (SC.part g.toNat k r j) v = .agg #[.int .i64 g, .int .i64 (k : Int), .int .i64 (j : Int), .int .i64 ((SC.np r : Nat) : Int), v] by
            show (Value.agg #[.int .i64 ((g.toNat : Nat) : Int), .int .i64 (k : Int), .int .i64 (j : Int), .int .i64 ((SC.np r : Nat) : Int), v]) = _
            rw [HGR.out.2.1])
          have HPDD := Lib.hid (fun (j : Nat) => show (SC.part g.toNat k r j).data = (r.drop (47 * j)).take 47 from rfl)
          generalize SC.np r = m at *
          clear hca hr hB3
          obtain ⟨wa, rfl⟩ : ∃ y, y = wr := ⟨_, rfl⟩
          go_wp2_with fail
          go_loopw [11, 14, 15, 16] (fun a v qv j wx => ∃ i t q : Nat, j = .int .i64 (i : Int) ∧ i ≤ m ∧ a = .int .i64 (t : Int) ∧ qv = .int .i64 (q : Int) ∧ Hid (t = f + i ∧ (i = 0 → q = 1) ∧ (0 < i → q = m)) ∧ Hid (Grow wa (r.take (47 * i)) v wx)) (fun _ _ _ j _ => 5 - (intOf j).toNat)
          case atStart => exact ⟨0, f, 1, rfl, Nat.zero_le _, rfl, rfl, Lib.hid ⟨rfl, fun _ => rfl, fun h => absurd h (Nat.lt_irrefl _)⟩, Lib.hid (Grow.nil wa)⟩
          case round =>
            obtain ⟨i, t, q, rfl, him, rfl, rfl, HQ, HGW⟩ := hrel
            have hi4 : i ≤ 4 := by omega
            have ht160 : t ≤ 200 := by have := HQ.out.1; omega
            by_cases hlt2 : i < q
            · have him2 : i < m := by
                rcases Nat.eq_zero_or_pos i with h | h
                · omega
                · have := HQ.out.2.2 h; omega
              have hx := HATR.out i him2
              have htx := HQ.out.1
              rw [← htx] at hx
              obtain ⟨A9, c9, e9, HRL, _, _, _⟩ := ((HL.out.below HGW.out.below)).shape
              cases e9
              obtain ⟨b9, o9, rfl, hbl9, hca9⟩ := HRL (by omega)
              obtain ⟨A8, c8, a8, hB8, hl8, hc8⟩ := hca9 t _ hx
              have HIS := Lib.hid (show SC.Is (SC.lay (SC.part g.toNat k r i)) (SC.part g.toNat k r i) from ⟨HGOOD.out i him2, rfl⟩)
              have HLK := Lib.hid (Look_any A8 (SC.lay (SC.part g.toNat k r i)).length c8 (SC.lay (SC.part g.toNat k r i)) wr hB8 rfl hl8 hc8)
              have hI : ¬ (L.length : Int) ≤ (t : Int) := by omega
              clear hx htx hca9 hB8 HRL hl8 hc8
              go_wp2_with fail
              go_at_call 15
              refine HLK.out.mono ?_
              rintro e w5 ⟨HB5, ⟨p, v5, HI5, rfl, HO5⟩ | ⟨HN5, rfl⟩⟩
              · have hp := HI5.out.uniq HIS.out
                subst hp
                obtain ⟨A7, c7, rfl, _, _⟩ := own_shape HO5.out
                have HX7 := Lib.hid (Whole.new w5 33 #[.int .i64 g, .int .i64 (k : Int), .int .i64 (i : Int), .int .i64 (m : Int), .slice A7 (SC.part g.toNat k r i).data.length c7])
                have HGB := Lib.hid ((HGW.out.on HB5.out).on ((Below.refl w5.heap.size w5).alloc (Nat.le_refl _) (.cells #[.int .i64 g, .int .i64 (k : Int), .int .i64 (i : Int), .int .i64 (m : Int), .slice A7 (SC.part g.toNat k r i).data.length c7] 33)))
                have HBY := Lib.hid (show BytesAt (w5.alloc (.cells #[.int .i64 g, .int .i64 (k : Int), .int .i64 (i : Int), .int .i64 (m : Int), .slice A7 (SC.part g.toNat k r i).data.length c7] 33)) A7 (SC.part g.toNat k r i).data from (BytesAt.own HO5.out).below ((Below.refl w5.heap.size w5).alloc (Nat.le_refl _) _))
                have HLEN := Lib.hid (show (r.take (47 * i)).length + (SC.part g.toNat k r i).data.length ≤ 140737488355328 by
                  rw [HPDD.out, List.length_take, List.length_take, List.length_drop]
                  have := HGR.out.2.2.2
                  omega)
                rw [HPVV.out]
                have e0 := HX7.out.cell 0
                have e1 := HX7.out.cell 1
                have e2 := HX7.out.cell 2
                have e3 := HX7.out.cell 3
                have e4 := HX7.out.cell 4
                have hm1 : ¬ (m : Int) < 1 := by omega
                have hm2 : ¬ (4 : Int) < (m : Int) := by omega
                obtain ⟨dl, hdl⟩ : ∃ dl, (SC.part g.toNat k r i).data.length = dl := ⟨_, rfl⟩
                have HDLX := Lib.hid hdl
                rw [hdl] at HX7 HGB HBY e0 e1 e2 e3 e4 ⊢
                clear hdl
                clear a8
                rcases Nat.eq_zero_or_pos i with h0 | h0
                · have hk0 : ¬ (0 : Int) < (i : Int) := by omega
                  clear h0
                  go_wp2_with (at_builtin; refine app_grow HGB.out HBY.out HDLX.out HLEN.out rfl (.tmp 118) (.tmp 120) rfl rfl rfl ?_; intro v8 w8 HG8 HM8)
                  rw [HPDD.out, HTP.out] at HG8
                  go_roundw
                  case rel => exact ⟨i + 1, t + 1, m, by go_num, him2, by go_num, rfl, Lib.hid ⟨by have := HQ.out.1; omega, fun h => absurd h (Nat.succ_ne_zero i), fun _ => rfl⟩, HG8⟩
                  case measure => simp only [intOf]; go_num
                · have hk0 : (0 : Int) < (i : Int) := by omega
                  have hk1 : ((m : Int) != (q : Int)) = false := by have := HQ.out.2.2 h0; simp [this]
                  clear h0
                  go_wp2_with (at_builtin; refine app_grow HGB.out HBY.out HDLX.out HLEN.out rfl (.tmp 118) (.tmp 120) rfl rfl rfl ?_; intro v8 w8 HG8 HM8)
                  rw [HPDD.out, HTP.out] at HG8
                  go_roundw
                  case rel => exact ⟨i + 1, t + 1, m, by go_num, him2, by go_num, rfl, Lib.hid ⟨by have := HQ.out.1; omega, fun h => absurd h (Nat.succ_ne_zero i), fun _ => rfl⟩, HG8⟩
                  case measure => simp only [intOf]; go_num
              · exact absurd HIS.out (HN5.out _)
            · have him3 : i = m ∧ q = m ∧ t = f + m := by
                have h := HQ.out
                rcases Nat.eq_zero_or_pos i with h0 | h0
                · have := h.2.1 h0; omega
                · have := h.2.2 h0; omega
              obtain ⟨e1, e2, e3⟩ := him3
              have HT3 := Lib.hid e3
              rw [e1, HTN.out] at HGW
              obtain ⟨A7, c7, rfl, _, _⟩ := own_shape HGW.out.row
              have hcv1 := conv_of (c := c7) rfl (HGW.out.bytes rfl)
              have hcv2 := conv_of (c := c3) rfl (HB3.out.below HGW.out.below)
              have HLN := Lib.hid (HL.out.below HGW.out.below)
              have HBN := Lib.hid (below_on2 HBW.out (.inl HBW.out.size) HGW.out.below)
              have HOF := Lib.hid (show ((t : Nat) : Int) = ((offs g.toNat rs (k + 1) : Nat) : Int) by rw [HONR.out, HT3.out])
              clear e1 e2 e3
              go_wp2_with fail
              go_roundw
              case rel => exact ⟨k + 1, by go_num, hlt, congrArg (Value.int .i64) HOF.out, HLN, HBN⟩
              case measure => simp only [intOf]; go_num
          -- END
        · obtain rfl : k = n := by omega
          -- BEGIN
          have HOK := Lib.hid (show offs g.toNat rs k = L.length by rw [← HN.out]; exact HOE.out)
          rw [HOK.out]
          have HBX := Lib.hid (HB.out.below HBW.out)
          have hbl47 : bh.length ≤ 140737488355328 := by omega
          have HLB := Lib.hid hbl47
          have HBIG := Lib.hid (show L.length ≤ 9223372036854775807 by omega)
          clear hbl47
          obtain ⟨wa, rfl⟩ : ∃ y, y = wr := ⟨_, rfl⟩
          go_wp2_with (at_builtin; refine app_all rfl (.tmp 131) (.tmp 132) rfl B cb bh.length bh rfl HBX.out wa.heap.size rfl rfl rfl HLB.out ?_; intro A5 n5 c5 w5 hM; obtain ⟨HN5, HB5, HO5, HE5, hn5, hc5⟩ := hM)
          go_at_call 15
          refine (Look_any A5 n5 c5 bh w5 HB5.out HN5.out.symm hn5 hc5).mono ?_
          rintro e w6 ⟨HB6, h6⟩
          have ha5 : w.heap.size ≤ wa.heap.size := HBW.out.size
          have HBW6 := Lib.hid (below_on2 (below_on2 HBW.out (.inl ha5) HE5.out) (.inl (Nat.le_trans ha5 HE5.out.size)) HB6.out)
          have hrs40 : rs.length ≤ 40 := by rw [HN.out]; exact hn40
          rcases h6 with ⟨p, v6, HI6, rfl, HO6⟩ | ⟨HNo, rfl⟩
          · obtain ⟨A7, c7, rfl, _, _⟩ := own_shape HO6.out
            have HPU := Lib.hid (fun q (hq : SC.Is bh q) => HI6.out.uniq hq)
            obtain ⟨pg, ps, pi, pm, pd⟩ := p
            have HX7 := Lib.hid (Whole.new w6 33 #[.int .i64 (pg : Int), .int .i64 (ps : Int), .int .i64 (pi : Int), .int .i64 (pm : Int), .slice A7 pd.length c7])
            have HB7 := Lib.hid ((Below.refl w6.heap.size w6).alloc (Nat.le_refl _) (.cells #[.int .i64 (pg : Int), .int .i64 (ps : Int), .int .i64 (pi : Int), .int .i64 (pm : Int), .slice A7 pd.length c7] 33))
            unfold pv pcells
            simp only
            go_upto_region 35 with (fail)
            generalize w6.alloc _ = w7 at HX7 HB7 ⊢
            have HBW7 := Lib.hid (below_on2 HBW6.out (.inl HBW6.out.size) HB7.out)
            have HL7 := Lib.hid (((HL.out.below HE5.out).below HB6.out).below HB7.out)
            have e0 : w7.cell? ⟨w6.heap.size, 0, none⟩ = some (.int .i64 (pg : Int)) := HX7.out.cell 0
            have e1 : w7.cell? ⟨w6.heap.size, 1, none⟩ = some (.int .i64 (ps : Int)) := HX7.out.cell 1
            by_cases h1 : (pg : Int) = g
            · by_cases h2 : (ps : Int) = (k : Int)
              · subst h1
                have h3 : ((ps : Int) == (k : Int)) = true := by simpa using h2
                go_wp2_with fail
                go_ret
                exact ⟨rfl, HBW7.out⟩
              · have HSTOP := Lib.hid (show ∀ d n, ¬ RecI [bh] g rs.length d n from no_first (fun q hq k1 k2 => by
                  have := HPU.out q hq
                  subst this
                  exact h2 (by rw [← HN.out]; exact k2)))
                have h3 : ((ps : Int) == (k : Int)) = false := by simpa using h2
                have h4 : ((pg : Int) == g) = true := by simpa using h1
                clear h1 h2
                obtain ⟨A9, c9, e9, HRL, hl9, hc9, _⟩ := HL7.out.shape
                cases e9
                have HOWN := Lib.hid (own_any A2 L.length c2 L w7 HRL rfl (by omega) H64.out)
                have HBX7 := Lib.hid (HB.out.below HBW7.out)
                have hw7 : w.heap.size ≤ w7.heap.size := HBW7.out.size
                have HSC := Lib.hid (show ScansI g 0 (L ++ [bh]) rs L.length by
                  have h := HSF.out [bh] (.stop HSTOP.out)
                  rw [List.append_nil, Nat.add_zero] at h
                  exact h)
                have HL1 := Lib.hid (show (L ++ [bh]).length = L.length + 1 by simp)
                clear HRL
                go_wp2_with fail
                go_at_call 19
                refine HOWN.out.mono ?_
                rintro e w8 ⟨v8, rfl, HL8, HB8⟩
                have HBX8 := Lib.hid (HBX7.out.below HB8.out)
                have hw8 : w7.heap.size ≤ w8.heap.size := HB8.out.size
                obtain ⟨A8, c8, rfl, _⟩ := HL8.out.shape
                go_wp2_with (first
                  | (at_builtin; refine app_all rfl (.tmp 159) (.tmp 160) rfl B cb bh.length bh rfl HBX8.out w8.heap.size rfl rfl rfl HLB.out ?_; intro A5 n5 c5 w9 hM; obtain ⟨HN9, HB9, HO9, HE9, _, _⟩ := hM; have HR9 : Hid (Rdy w7.heap.size L (.slice A8 L.length c8) bh (.slice A5 n5 c5) w9) := Lib.hid ⟨HL8.out.below HE9.out, by rw [← HN9.out]; exact own_base HO9.out hw8, Nat.le_trans hw8 HE9.out.size, by omega⟩)
                  | (refine app_rdy (by assumption) rfl (.tmp 158) (.tmp 162) rfl rfl rfl rfl ?_; intro vA wA HLA HBA))
                have HBWA := Lib.hid (HBW7.out.trans ((HB8.out.trans (HE9.out.mono hw8)).trans HBA.out |>.mono hw7))
                obtain ⟨AA, cA, rfl, HRA, hlA, hcA, _⟩ := HLA.out.shape
                have HSCN := Lib.hid (Scan_any AA (L ++ [bh]).length cA (L ++ [bh]) g wA HRA rfl ⟨hlA, hcA⟩ (by rw [HL1.out]; omega))
                rw [HL1.out] at HSCN hlA ⊢
                clear HRA
                go_wp2_with fail
                go_at_call 18
                refine HSCN.out.mono ?_
                rintro e wB ⟨rs', u', vB, rfl, HSB, HLB2, HBB⟩
                obtain ⟨e1', e2'⟩ := HSB.out.uniq HSC.out
                subst e1' e2'
                obtain ⟨AB, cB, rfl, HRB, _, _, _⟩ := HLB2.out.shape
                have HBWB := Lib.hid (below_on2 HBWA.out (.inl HBWA.out.size) HBB.out)
                have HSM := Lib.hid (SameAll_any rs' rs' AB A cB c wB HRB (HR.out.below HBWB.out) (by omega))
                rw [decide_eq_true (rfl : rs' = rs'), HN.out] at HSM
                rw [HN.out]
                clear HRB
                go_wp2_with fail
                go_at_call 14
                with_reducible refine HSM.out.mono ?_
                rintro e wC ⟨rfl, HBC⟩
                go_wp2_with fail
                go_ret
                exact ⟨rfl, below_on2 HBWB.out (.inl HBWB.out.size) HBC.out⟩
            · have HSTOP := Lib.hid (show ∀ d n, ¬ RecI [bh] g rs.length d n from no_first (fun q hq k1 k2 => by
                have := HPU.out q hq
                subst this
                exact h1 k1))
              have h3 : ((pg : Int) == g) = false := by simpa using h1
              clear h1
              obtain ⟨A9, c9, e9, HRL, hl9, hc9, _⟩ := HL7.out.shape
              cases e9
              have HOWN := Lib.hid (own_any A2 L.length c2 L w7 HRL rfl (by omega) H64.out)
              have HBX7 := Lib.hid (HB.out.below HBW7.out)
              have hw7 : w.heap.size ≤ w7.heap.size := HBW7.out.size
              have HSC := Lib.hid (show ScansI g 0 (L ++ [bh]) rs L.length by
                have h := HSF.out [bh] (.stop HSTOP.out)
                rw [List.append_nil, Nat.add_zero] at h
                exact h)
              have HL1 := Lib.hid (show (L ++ [bh]).length = L.length + 1 by simp)
              clear HRL
              go_wp2_with fail
              go_at_call 19
              refine HOWN.out.mono ?_
              rintro e w8 ⟨v8, rfl, HL8, HB8⟩
              have HBX8 := Lib.hid (HBX7.out.below HB8.out)
              have hw8 : w7.heap.size ≤ w8.heap.size := HB8.out.size
              obtain ⟨A8, c8, rfl, _⟩ := HL8.out.shape
              go_wp2_with (first
                | (at_builtin; refine app_all rfl (.tmp 159) (.tmp 160) rfl B cb bh.length bh rfl HBX8.out w8.heap.size rfl rfl rfl HLB.out ?_; intro A5 n5 c5 w9 hM; obtain ⟨HN9, HB9, HO9, HE9, _, _⟩ := hM; have HR9 : Hid (Rdy w7.heap.size L (.slice A8 L.length c8) bh (.slice A5 n5 c5) w9) := Lib.hid ⟨HL8.out.below HE9.out, by rw [← HN9.out]; exact own_base HO9.out hw8, Nat.le_trans hw8 HE9.out.size, by omega⟩)
                | (refine app_rdy (by assumption) rfl (.tmp 158) (.tmp 162) rfl rfl rfl rfl ?_; intro vA wA HLA HBA))
              have HBWA := Lib.hid (HBW7.out.trans ((HB8.out.trans (HE9.out.mono hw8)).trans HBA.out |>.mono hw7))
              obtain ⟨AA, cA, rfl, HRA, hlA, hcA, _⟩ := HLA.out.shape
              have HSCN := Lib.hid (Scan_any AA (L ++ [bh]).length cA (L ++ [bh]) g wA HRA rfl ⟨hlA, hcA⟩ (by rw [HL1.out]; omega))
              rw [HL1.out] at HSCN hlA ⊢
              clear HRA
              go_wp2_with fail
              go_at_call 18
              refine HSCN.out.mono ?_
              rintro e wB ⟨rs', u', vB, rfl, HSB, HLB2, HBB⟩
              obtain ⟨e1', e2'⟩ := HSB.out.uniq HSC.out
              subst e1' e2'
              obtain ⟨AB, cB, rfl, HRB, _, _, _⟩ := HLB2.out.shape
              have HBWB := Lib.hid (below_on2 HBWA.out (.inl HBWA.out.size) HBB.out)
              have HSM := Lib.hid (SameAll_any rs' rs' AB A cB c wB HRB (HR.out.below HBWB.out) (by omega))
              rw [decide_eq_true (rfl : rs' = rs'), HN.out] at HSM
              rw [HN.out]
              clear HRB
              go_wp2_with fail
              go_at_call 14
              with_reducible refine HSM.out.mono ?_
              rintro e wC ⟨rfl, HBC⟩
              go_wp2_with fail
              go_ret
              exact ⟨rfl, below_on2 HBWB.out (.inl HBWB.out.size) HBC.out⟩
          · have HSTOP := Lib.hid (show ∀ d n, ¬ RecI [bh] g rs.length d n from no_first (fun q hq k1 k2 => absurd hq (HNo.out q)))
            have HB7 := Lib.hid ((Below.refl w6.heap.size w6).alloc (Nat.le_refl _) (.cells #[.int .i64 0, .int .i64 0, .int .i64 0, .int .i64 0, .slice none 0 0] 33))
            unfold none5
            go_upto_region 35 with (fail)
            generalize w6.alloc _ = w7 at HB7 ⊢
            have HBW7 := Lib.hid (below_on2 HBW6.out (.inl HBW6.out.size) HB7.out)
            have HL7 := Lib.hid (((HL.out.below HE5.out).below HB6.out).below HB7.out)
            obtain ⟨A9, c9, e9, HRL, hl9, hc9, _⟩ := HL7.out.shape
            cases e9
            have HOWN := Lib.hid (own_any A2 L.length c2 L w7 HRL rfl (by omega) H64.out)
            have HBX7 := Lib.hid (HB.out.below HBW7.out)
            have hw7 : w.heap.size ≤ w7.heap.size := HBW7.out.size
            have HSC := Lib.hid (show ScansI g 0 (L ++ [bh]) rs L.length by
              have h := HSF.out [bh] (.stop HSTOP.out)
              rw [List.append_nil, Nat.add_zero] at h
              exact h)
            have HL1 := Lib.hid (show (L ++ [bh]).length = L.length + 1 by simp)
            clear HRL
            go_wp2_with fail
            go_at_call 19
            refine HOWN.out.mono ?_
            rintro e w8 ⟨v8, rfl, HL8, HB8⟩
            have HBX8 := Lib.hid (HBX7.out.below HB8.out)
            have hw8 : w7.heap.size ≤ w8.heap.size := HB8.out.size
            obtain ⟨A8, c8, rfl, _⟩ := HL8.out.shape
            go_wp2_with (first
              | (at_builtin; refine app_all rfl (.tmp 159) (.tmp 160) rfl B cb bh.length bh rfl HBX8.out w8.heap.size rfl rfl rfl HLB.out ?_; intro A5 n5 c5 w9 hM; obtain ⟨HN9, HB9, HO9, HE9, _, _⟩ := hM; have HR9 : Hid (Rdy w7.heap.size L (.slice A8 L.length c8) bh (.slice A5 n5 c5) w9) := Lib.hid ⟨HL8.out.below HE9.out, by rw [← HN9.out]; exact own_base HO9.out hw8, Nat.le_trans hw8 HE9.out.size, by omega⟩)
              | (refine app_rdy (by assumption) rfl (.tmp 158) (.tmp 162) rfl rfl rfl rfl ?_; intro vA wA HLA HBA))
            have HBWA := Lib.hid (HBW7.out.trans ((HB8.out.trans (HE9.out.mono hw8)).trans HBA.out |>.mono hw7))
            obtain ⟨AA, cA, rfl, HRA, hlA, hcA, _⟩ := HLA.out.shape
            have HSCN := Lib.hid (Scan_any AA (L ++ [bh]).length cA (L ++ [bh]) g wA HRA rfl ⟨hlA, hcA⟩ (by rw [HL1.out]; omega))
            rw [HL1.out] at HSCN hlA ⊢
            clear HRA
            go_wp2_with fail
            go_at_call 18
            refine HSCN.out.mono ?_
            rintro e wB ⟨rs', u', vB, rfl, HSB, HLB2, HBB⟩
            obtain ⟨e1', e2'⟩ := HSB.out.uniq HSC.out
            subst e1' e2'
            obtain ⟨AB, cB, rfl, HRB, _, _, _⟩ := HLB2.out.shape
            have HBWB := Lib.hid (below_on2 HBWA.out (.inl HBWA.out.size) HBB.out)
            have HSM := Lib.hid (SameAll_any rs' rs' AB A cB c wB HRB (HR.out.below HBWB.out) (by omega))
            rw [decide_eq_true (rfl : rs' = rs'), HN.out] at HSM
            rw [HN.out]
            clear HRB
            go_wp2_with fail
            go_at_call 14
            with_reducible refine HSM.out.mono ?_
            rintro e wC ⟨rfl, HBC⟩
            go_wp2_with fail
            go_ret
            exact ⟨rfl, below_on2 HBWB.out (.inl HBWB.out.size) HBC.out⟩
          -- END
    ·
      -- BEGIN
      have HB12 := Lib.hid (below_on2 HB1.out (.inl HB1.out.size) HB2.out)
      go_wp2_with fail
      go_loopw [38] (fun i wr => ∃ k : Nat, i = .int .i64 (k : Int) ∧ k ≤ n ∧ Hid (∀ (j : Nat) (r : List UInt8), rs[j]? = some r → j < k → r.length ≤ 188) ∧ Hid (w2 = wr)) (fun i _ => n - (intOf i).toNat)
      case atStart => exact ⟨0, rfl, Nat.zero_le _, Lib.hid (fun j r _ hj => absurd hj (Nat.not_lt_zero _)), Lib.hid rfl⟩
      case round =>
        obtain ⟨k, rfl, hk, HS, HW⟩ := hrel
        have hw := HW.out
        subst hw
        by_cases hlt : k < n
        · obtain ⟨b, o, eA, hbl, hca⟩ := (HR.out.below HB12.out) (by rw [HN.out]; omega)
          subst eA
          obtain ⟨r, hr⟩ : ∃ r, rs[k]? = some r := ⟨_, List.getElem?_eq_getElem (by rw [HN.out]; exact hlt)⟩
          obtain ⟨A3, c3, a3, _, _, _⟩ := hca k r hr
          by_cases h188 : (188 : Int) < (r.length : Int)
          · clear hca hr
            go_wp2_with fail
            try rw [Exit.noGoto_ret]
            go_ret
            exact ⟨rfl, HB12.out⟩
          · have HS2 := Lib.hid (show ∀ (j : Nat) (r : List UInt8), rs[j]? = some r → j < k + 1 → r.length ≤ 188 from fun j r' hr' hj => by
              by_cases e : j = k
              · subst e; rw [hr] at hr'; cases hr'; omega
              · exact HS.out j r' hr' (by omega))
            clear hca hr
            go_wp2_with fail
            go_roundw
            case rel => exact ⟨k + 1, by go_num, hlt, HS2, Lib.hid trivial⟩
            case measure => simp only [intOf]; go_num
        · obtain rfl : k = n := by omega
          have hgb : g < 1 ∨ 1073741824 < g := by
            rcases Int.lt_or_le g 1 with h | h
            · exact .inl h
            · rcases Int.lt_or_le 1073741824 g with h' | h'
              · exact .inr h'
              · exfalso
                apply HNF.out
                intro i r hr hi
                have h1 := HS.out i r hr (by rw [← HN.out]; exact hi)
                have := HN.out
                unfold packErr
                rw [if_pos ⟨⟨h, h'⟩, by omega⟩, if_neg (by omega)]
          rcases hgb with h | h
          · go_wp2_with fail
            go_ret
            exact ⟨rfl, HB12.out⟩
          · by_cases h1 : g < 1
            · go_wp2_with fail
              go_ret
              exact ⟨rfl, HB12.out⟩
            · go_wp2_with fail
              go_ret
              exact ⟨rfl, HB12.out⟩
      -- END

end Go.Proofs.Ytlnahmgcjaodkaa.lawSectorsBack
