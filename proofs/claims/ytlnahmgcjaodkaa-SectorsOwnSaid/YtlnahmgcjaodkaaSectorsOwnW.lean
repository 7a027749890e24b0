/- The walk of SectorsOwn: it answers true, and old memory stands. -/
import Derived.Test.YtlnahmgcjaodkaaScArg
import Derived.Test.YtlnahmgcjaodkaaScOwnD
import Derived.Test.YtlnahmgcjaodkaaScTMath
import Derived.Test.YtlnahmgcjaodkaaLawBare
import Derived.JoinedCond
import Derived.OpenShut
namespace Go.Proofs.Ytlnahmgcjaodkaa.lawSectorsOwn
open Go Go.RowKit Go.ChangeShapes Go.WideShapes Go.ChangeAt
set_option linter.unusedVariables false
set_option linter.unusedSimpArgs false
open By
set_option maxRecDepth 100000
theorem bytes_pre {w : World} {A : Option Addr} {l m : List UInt8} (h : BytesAt w A (l ++ m)) : BytesAt w A l := fun h0 => by
  obtain ⟨b, o, e, hb, hc⟩ := h (by rw [List.length_append]; omega)
  exact ⟨b, o, e, hb, fun j x hx => hc j x (by rw [List.getElem?_append_left (List.getElem?_eq_some_iff.1 hx).1]; exact hx)⟩
theorem cat_same (l m : List UInt8) : ((⟨l.toArray⟩ : ByteArray) ++ ⟨m.toArray⟩) = ⟨(l ++ m).toArray⟩ := WideShapes.bytes_inj (by rw [ByteArray.data_append]; simp)
theorem cat_no (l : List UInt8) : (!l ++ [91, 92] == ((⟨l.toArray⟩ : ByteArray) ++ ⟨#[91, 92]⟩).toList) = false := by
  have e := cat_same l [91, 92]
  rw [show (⟨#[91, 92]⟩ : ByteArray) = ⟨([91, 92] : List UInt8).toArray⟩ from rfl, e]
  simp [ByteArray.toList_eq]
theorem own_full3 {w : World} {base n : Nat} {ys : List Value} {v : Value} (h : w.ownsRow base 5 1 v n ys) (hn : 0 < n) : ∃ g cap, v = .slice (some ⟨g, 0, none⟩) n cap ∧ n ≤ cap ∧ cap ≤ 9223372036854775807 ∧ base ≤ g ∧ ∃ cs, Whole w g 5 cs ∧ cap ≤ cs.size := by
  rcases h.2 with ⟨_, h⟩ | ⟨g, cap, cur, rfl, hb, hw, h1, h2, h3, _⟩
  · omega
  · exact ⟨g, cap, rfl, h1, h2, hb, cur, hw, by omega⟩
theorem bo {a b c : World} (h : Below a.heap.size a b) (k : Below b.heap.size b c) : Below a.heap.size a c := below_on2 h (.inl h.size) k
/-- What a scan of one record's sectors tells. -/
theorem rows_small {gn sn : Nat} {d : List UInt8} {rs : List (List UInt8)} {u : Nat} (hg : 1 ≤ gn ∧ gn ≤ 1073741824) (hs : sn ≤ 1073741824) (hd : d.length ≤ 188) (hgn : (gn : Int) = 3) (h : ScansI 3 0 (SC.pack gn sn d) rs u) : rs.length ≤ 1 ∧ ∀ (j : Nat) (x : List UInt8), rs[j]? = some x → x.length ≤ 188 := by
  by_cases e : sn = 0
  · subst e
    have hr := SC.rec_pack hg hs hd []
    rw [List.append_nil] at hr
    have h2 : ScansI 3 0 (SC.pack gn 0 d) [d] (SC.np d + 0) := ScansI.more ⟨gn, 0, hgn, rfl, hr⟩ (.stop (fun d' m' k => by
      have hm : 1 ≤ m' := by obtain ⟨_, _, _, _, hr⟩ := k; exact hr.le.1
      obtain ⟨p, ⟨y, h1, _⟩, _⟩ := k.at (i := 0) hm
      rw [List.getElem?_drop, List.getElem?_eq_none (by rw [SC.pack_len]; omega)] at h1
      cases h1))
    obtain ⟨rfl, _⟩ := h.uniq h2
    exact ⟨Nat.le_refl _, fun j x hx => by rw [List.mem_singleton.1 (List.mem_of_getElem? hx)]; exact hd⟩
  · have h2 : ScansI 3 0 (SC.pack gn sn d) [] 0 := .stop (fun d' m' k => by
      have hm : 1 ≤ m' := by obtain ⟨_, _, _, _, hr⟩ := k; exact hr.le.1
      obtain ⟨p, ⟨y, h1, h2, _, h4, _⟩, _⟩ := k.at (i := 0) hm
      have hnp := SC.np_pos d
      rw [SC.pack_at (by omega)] at h1
      cases h1
      have := h2.uniq ⟨SC.part_good hg hs hd (by omega), rfl⟩
      subst this
      have h5 : ((sn : Nat) : Int) = ((0 : Nat) : Int) := h4
      omega)
    obtain ⟨rfl, _⟩ := h.uniq h2
    exact ⟨by simp, fun j x hx => by simp at hx⟩
/-- What is kept while the two lists are looked at. -/
structure Kp (w : World) (bx gx bY gy : Nat) (bsx bsy : List Nat) (m : Nat) (ps : List (List UInt8)) (gf capf : Nat) (cur : World) : Prop where
  x : Packed bx gx bsx m ps cur
  y : Packed bY gy bsy m ps cur
  f : ∃ cs, Whole cur gf 5 cs ∧ capf ≤ cs.size
  below : Below w.heap.size w cur
theorem Kp.on {w : World} {bx gx bY gy : Nat} {bsx bsy : List Nat} {m : Nat} {ps : List (List UInt8)} {gf capf : Nat} {cur w' : World} (h : Kp w bx gx bY gy bsx bsy m ps gf capf cur) (hb : Below cur.heap.size cur w') : Kp w bx gx bY gy bsx bsy m ps gf capf w' :=
  ⟨h.x.below hb, h.y.below hb, by obtain ⟨cs, h1, h2⟩ := h.f; exact ⟨cs, (Mod.of_below hb []).whole h1 (by simp), h2⟩, below_on2 h.below (.inl h.below.size) hb⟩
set_option maxHeartbeats 8000000 in
theorem walk (s : Int) (A : Option Addr) (c : Nat) (d : List UInt8) (w : World) (hs : -9223372036854775808 ≤ s ∧ s ≤ 9223372036854775807) (hA : BytesAt w A d) (hc : d.length ≤ c) (hm : c ≤ 140737488351232) :
    Calls Try.prog 10 #[.int .i64 s, .slice A d.length c] w (LK.True_ w) := by
  have HA := Lib.hid (awake_any w)
  have HD := Lib.hid hA
  clear hA
  go_enter Try.func10, Try.ntmps10
  go_wp2_with fail
  go_at_call 12
  with_reducible refine HA.out.mono ?_
  rintro e w1 ⟨rfl, HB1⟩
  have HD1 := Lib.hid (HD.out.below HB1.out)
  have HDL := Lib.hid (show d.length ≤ 140737488355328 by omega)
  have HDL2 := Lib.hid (show d.length + [91, 92].length ≤ 140737488355328 by simp; omega)
  obtain ⟨n, hn⟩ : ∃ n, n = d.length := ⟨_, rfl⟩
  have HN := Lib.hid hn.symm
  rw [← hn] at hc ⊢
  have HDN := Lib.hid hn
  clear hn
  have HFL := Lib.hid (show (d ++ [91, 92]).length = n + 2 by rw [List.length_append, HN.out]; rfl)
  go_wp2_with (first
    | (at_builtin; refine app_all rfl (.tmp 35) (.tmp 36) rfl A c n d HDN.out HD1.out w1.heap.size rfl rfl rfl HDL.out ?_; intro A5 n5 c5 w5 hM; obtain ⟨HN5, HB5, HO5, HE5, hn5, hc5⟩ := hM; have HG5 : Hid (Grow w1 d (.slice A5 n5 c5) (w5.alloc (.cells #[.int .u8 91, .int .u8 92] 5))) := Lib.hid (Grow.on (w := w5) ⟨by rw [← HN5.out]; exact HO5.out, HE5.out⟩ ((Below.refl _ w5).alloc (Nat.le_refl _) _)); have HX5 : Hid (BytesAt (w5.alloc (.cells #[.int .u8 91, .int .u8 92] 5)) (some ⟨w5.heap.size, 0, none⟩) [91, 92]) := Lib.hid (Whole.reads (x := [91, 92]) (Whole.new w5 5 (u8s [91, 92]).toArray)))
    | (refine app_grow HG5.out HX5.out rfl HDL2.out rfl (.tmp 37) (.tmp 38) rfl rfl rfl ?_; intro v6 w6 HG6 HM6; obtain ⟨gf, capf, hv6, hf1, hf2, hgf, hcs⟩ := own_full3 HG6.out.row (by simp); subst hv6; have HCS := Lib.hid hcs; clear hcs; rw [HFL.out] at hf1 HG6 ⊢))
  have HF6 := Lib.hid (show BytesAt w6 (some ⟨gf, 0, none⟩) (d ++ [91, 92]) from HG6.out.bytes rfl)
  have hcap : n ≤ capf := by omega
  go_at_call 11
  refine (Pack_any 3 s d n (some ⟨gf, 0, none⟩) capf w6 (bytes_pre HF6.out) HN.out ⟨hcap, hf2⟩).mono ?_
  rintro e w7 ⟨HB7, ⟨gn, sn, bs, HG, rfl, HP⟩ | ⟨HE, rfl⟩⟩
  · obtain ⟨hg1, hg2, hg3, hg4, hg5⟩ := HG.out
    have HF7 := Lib.hid (HF6.out.below HB7.out)
    go_wp2_with fail
    go_at_call 11
    refine (Pack_any 3 s d n (some ⟨gf, 0, none⟩) capf w7 (bytes_pre HF7.out) HN.out ⟨hcap, hf2⟩).mono ?_
    rintro e w8 ⟨HB8, ⟨gn2, sn2, bs2, HG2, rfl, HQ⟩ | ⟨HE, rfl⟩⟩
    · have hgg : gn2 = gn := by have := HG2.out.1; omega
      have hss : sn2 = sn := by have := HG2.out.2.1; omega
      have HWX := Lib.hid (Nat.le_trans HB1.out.size HG6.out.below.size)
      have HUX := Lib.hid (show w6.heap.size < w7.heap.size ∧ ∀ b ∈ bs, w6.heap.size ≤ b ∧ b < w7.heap.size from ⟨HP.out.row.lt, fun b hb => by obtain ⟨j, hj⟩ := List.mem_iff_getElem?.1 hb; exact ⟨(HP.out.each j b _ hj (List.getElem?_eq_getElem (by rw [← HP.out.len]; exact (List.getElem?_eq_some_iff.1 hj).1))).1, HP.out.lt hj⟩⟩)
      subst hgg hss
      have HF8 := Lib.hid (HF7.out.below HB8.out)
      have HD8 := Lib.hid (((HD1.out.below HG6.out.below).below HB7.out).below HB8.out)
      have hcv1 := By.conv_of (c := capf) HFL.out.symm HF8.out
      have hcv2 := By.conv_of (c := c) HDN.out HD8.out
      have hcat := cat_no d
      have hbig : ¬ 9223372036854775807 < d.length + 2 := by rw [HN.out]; omega
      have HP8 := Lib.hid (HP.out.below HB8.out)
      have HX8 := Lib.hid (below_on2 (below_on2 HG6.out.below (.inl HG6.out.below.size) HB7.out) (.inl (Nat.le_trans HG6.out.below.size HB7.out.size)) HB8.out)
      obtain ⟨cs0, hw0, hz0⟩ := HCS.out
      have HC8 := Lib.hid (show ∃ cs, Whole w8 gf 5 cs ∧ capf ≤ cs.size from ⟨cs0, (Mod.of_below HB8.out []).whole ((Mod.of_below HB7.out []).whole hw0 (by simp)) (by simp), hz0⟩)
      have hgf6 : gf < w6.heap.size := hw0.lt
      clear hw0 hz0 HCS HG HG2
      go_wp2_with fail
      go_loopw [66] (fun i wr => ∃ k : Nat, i = .int .i64 (k : Int) ∧ k ≤ n + 2 ∧ Hid (∃ cs, Whole wr gf 5 cs ∧ capf ≤ cs.size) ∧ Hid (Mod [gf] w8 wr)) (fun i _ => n + 2 - (intOf i).toNat)
      case atStart => exact ⟨0, rfl, Nat.zero_le _, HC8, Lib.hid (Mod.refl _ _)⟩
      case round =>
        obtain ⟨k, rfl, hk, HCk, HMk⟩ := hrel
        by_cases hlt : k < n + 2
        · obtain ⟨cs, hw, hz⟩ := HCk.out
          have cu : wr.cell? ⟨gf, k, none⟩ = some cs[k] := (hw.cell k).trans (Array.getElem?_eq_getElem (by omega))
          have fu := hw.frozen k
          have HW9 := Lib.hid (show ∃ cs', Whole (wr.setCell ⟨gf, k, none⟩ (.int .u8 120)) gf 5 cs' ∧ capf ≤ cs'.size from ⟨_, hw.store k (.int .u8 120), by simp; exact hz⟩)
          have HM9 := Lib.hid (HMk.out.store (p := ⟨gf, k, none⟩) (.inl (by simp)) (.int .u8 120))
          clear hw
          go_wp2_with fail
          go_roundw
          case rel => exact ⟨k + 1, by go_num, hlt, HW9, HM9⟩
          case measure => simp only [intOf]; go_num
        · have hgfw : w.heap.size ≤ gf := Nat.le_trans HB1.out.size hgf
          have hgf7 : gf < w7.heap.size := Nat.lt_of_lt_of_le hgf6 HB7.out.size
          have HX9 := Lib.hid (HX8.out.trans (HMk.out.below (B := w1.heap.size) HX8.out.size (fun x hx => by rw [List.mem_singleton.1 hx]; exact hgf)))
          have HK9 := Lib.hid (show Kp w w6.heap.size w6.heap.size w7.heap.size w7.heap.size bs bs2 (SC.np d) (SC.pack gn2 sn2 d) gf capf wr from ⟨HP8.out.mod HMk.out (fun x hx => by rw [List.mem_singleton.1 hx]; exact hgf6), HQ.out.mod HMk.out (fun x hx => by rw [List.mem_singleton.1 hx]; exact hgf7), HCk.out, HB1.out.trans (HX9.out.mono HB1.out.size)⟩)
          have HD9 := Lib.hid (HD.out.below HK9.out.below)
          have hnp : 1 ≤ SC.np d ∧ SC.np d ≤ 4 := by unfold SC.np; omega
          have HPL := Lib.hid (SC.pack_len gn2 sn2 d)
          have HPAT := Lib.hid (SC.pack_at (g := gn2) (s := sn2) (d := d) (i := 0) (by omega))
          have HIS := Lib.hid (show SC.Is (SC.lay (SC.part gn2 sn2 d 0)) (SC.part gn2 sn2 d 0) from ⟨SC.part_good hg3 hg4 hg5 (by omega), rfl⟩)
          have HP64 := Lib.hid (fun (j : Nat) (x : List UInt8) (hx : (SC.pack gn2 sn2 d)[j]? = some x) => pack64 hg3 hg4 hg5 j x hx)
          have HROW := Lib.hid (fun (rs : List (List UInt8)) (u : Nat) (h : ScansI 3 0 (SC.pack gn2 sn2 d) rs u) => rows_small hg3 hg4 hg5 hg1 h)
          have hpe : packErr 3 s d.length = 0 := by unfold packErr; rw [if_pos ⟨by omega, by omega⟩, if_neg (by omega)]
          have HREF := Lib.hid (RefPack_any 3 s d n A c wr HD9.out HN.out ⟨hc, by omega⟩)
          have HUN := Lib.hid (fun (a b : Nat) (h1 : (a : Int) = 3) (h2 : (b : Int) = s) => (show SC.pack a b d = SC.pack gn2 sn2 d by rw [show a = gn2 by omega, show b = sn2 by omega]))
          clear hcv1 hcv2 hcat hbig HX9 HCk HMk HX8 HC8 HP8 HQ HP
          generalize SC.pack gn2 sn2 d = ps at *
          generalize SC.part gn2 sn2 d 0 = pt at *
          generalize SC.lay pt = x0 at *
          generalize SC.np d = m at *
          generalize w6.heap.size = gx at *
          generalize w7.heap.size = gy at *
          go_wp2_with fail
          go_at_call 13
          refine HREF.out.mono ?_
          rintro e wa ⟨HBa, ⟨gn3, sn3, vw, HG3, rfl, HL⟩ | ⟨HE, rfl⟩⟩
          · have hps := HUN.out gn3 sn3 HG3.out.1 HG3.out.2.1
            rw [hps] at HL
            clear hps HREF HUN HG3
            obtain ⟨Aw, cw, rfl, HRw, hlw, hcw, _⟩ := HL.out.shape
            rw [HPL.out] at hlw ⊢
            have HKa := Lib.hid (HK9.out.on HBa.out)
            have HSM := Lib.hid (SameAll_any ps ps (some ⟨gx, 0, none⟩) Aw m cw wa (HKa.out.x.rows HP64.out) HRw (by rw [HPL.out]; omega))
            rw [decide_eq_true (rfl : ps = ps), HPL.out] at HSM
            clear HRw
            go_wp2_with fail
            go_at_call 14
            with_reducible refine HSM.out.mono ?_
            rintro e wb ⟨rfl, HBb⟩
            have HKb := Lib.hid (HKa.out.on HBb.out)
            have HLb := Lib.hid (HL.out.below HBb.out)
            obtain ⟨b0, hb0⟩ : ∃ b, bs[0]? = some b := ⟨_, List.getElem?_eq_getElem (by rw [HKb.out.x.len, HPL.out]; omega)⟩
            have HB0 := Lib.hid hb0
            have hx64 := HP64.out 0 x0 HPAT.out
            have HX64 := Lib.hid hx64
            have c0 : wb.cell? ⟨gx, 0, none⟩ = some (.slice (some ⟨b0, 0, none⟩) 64 64) := by rw [HKb.out.x.row.cell]; exact packCells_hdr hb0
            clear hb0 hx64 HSM
            go_wp2_with fail
            go_at_call 15
            refine (Look_any (some ⟨b0, 0, none⟩) 64 64 x0 wb (Whole.reads (HKb.out.x.each 0 b0 x0 HB0.out HPAT.out).2) HX64.out (by decide) (by decide)).mono ?_
            rintro e wc ⟨HBc, ⟨p, v, HI, rfl, HO⟩ | ⟨HNo, rfl⟩⟩
            · have hp := (HI.out.uniq HIS.out).symm
              subst hp
              obtain ⟨pg, psq, pi, pm, pd⟩ := pt
              obtain ⟨A7, c7, rfl, _, _⟩ := own_shape HO.out
              have HXp := Lib.hid (Whole.new wc 33 #[.int .i64 (pg : Int), .int .i64 (psq : Int), .int .i64 (pi : Int), .int .i64 (pm : Int), .slice A7 pd.length c7])
              have HBp := Lib.hid ((Below.refl wc.heap.size wc).alloc (Nat.le_refl _) (.cells #[.int .i64 (pg : Int), .int .i64 (psq : Int), .int .i64 (pi : Int), .int .i64 (pm : Int), .slice A7 pd.length c7] 33))
              unfold pv pcells
              simp only
              go_upto_region 19 with (fail)
              obtain ⟨gp, hgp⟩ : ∃ g, g = wc.heap.size := ⟨_, rfl⟩
              rw [← hgp] at HXp ⊢
              generalize wc.alloc _ = wd at HXp HBp ⊢
              have HKd := Lib.hid ((HKb.out.on HBc.out).on HBp.out)
              have HLd := Lib.hid ((HLb.out.below HBc.out).below HBp.out)
              have HOp := Lib.hid ((Mod.of_below HBp.out []).own HO.out (by simp))
              have HGP := Lib.hid hgp
              have HBbd := Lib.hid (bo HBc.out HBp.out)
              have HBbc := Lib.hid HBc.out.size
              clear hgp HBc HBp HO HI c0
              have c0 : wd.cell? ⟨gx, 0, none⟩ = some (.slice (some ⟨b0, 0, none⟩) 64 64) := by rw [HKd.out.x.row.cell]; exact packCells_hdr HB0.out
              go_wp2_with fail
              go_at_call 15
              refine (Look_any (some ⟨b0, 0, none⟩) 64 64 x0 wd (Whole.reads (HKd.out.x.each 0 b0 x0 HB0.out HPAT.out).2) HX64.out (by decide) (by decide)).mono ?_
              rintro e we ⟨HBe, ⟨p, v, HI, rfl, HO⟩ | ⟨HNo, rfl⟩⟩
              · have hp := (HI.out.uniq HIS.out).symm
                subst hp
                obtain ⟨A8, c8, rfl, _, _⟩ := own_shape HO.out
                have HXq := Lib.hid (Whole.new we 33 #[.int .i64 (pg : Int), .int .i64 (psq : Int), .int .i64 (pi : Int), .int .i64 (pm : Int), .slice A8 pd.length c8])
                have HBq := Lib.hid ((Below.refl we.heap.size we).alloc (Nat.le_refl _) (.cells #[.int .i64 (pg : Int), .int .i64 (psq : Int), .int .i64 (pi : Int), .int .i64 (pm : Int), .slice A8 pd.length c8] 33))
                unfold pv pcells
                simp only
                go_upto_region 20 with (fail)
                obtain ⟨gq, hgq⟩ : ∃ g, g = we.heap.size := ⟨_, rfl⟩
                rw [← hgq] at HXq ⊢
                generalize we.alloc _ = wf at HXq HBq ⊢
                have HKf := Lib.hid ((HKd.out.on HBe.out).on HBq.out)
                have HLf := Lib.hid ((HLd.out.below HBe.out).below HBq.out)
                have HOq := Lib.hid ((Mod.of_below HBq.out []).own HO.out (by simp))
                have HGQ := Lib.hid hgq
                have HBdf := Lib.hid (below_on2 HBe.out (.inl HBe.out.size) HBq.out)
                clear hgq HO HI c0
                have HSC := Lib.hid (Scan_any (some ⟨gx, 0, none⟩) m m ps 3 wf (HKf.out.x.rows HP64.out) HPL.out ⟨Nat.le_refl _, by omega⟩ (by omega))
                go_wp2_with fail
                go_at_call 18
                refine HSC.out.mono ?_
                rintro e wg ⟨rs, u, vr, rfl, HS, HLr, HBg⟩
                obtain ⟨Ar, cr, rfl, _, hlr, hcr, _⟩ := HLr.out.shape
                have HKg := Lib.hid (HKf.out.on HBg.out)
                have HSC2 := Lib.hid (Scan_any (some ⟨gx, 0, none⟩) m m ps 3 wg (HKg.out.x.rows HP64.out) HPL.out ⟨Nat.le_refl _, by omega⟩ (by omega))
                clear HSC
                go_wp2_with fail
                go_at_call 18
                refine HSC2.out.mono ?_
                rintro e wh ⟨rs2, u2, vs, rfl, HS2, HLs, HBh⟩
                obtain ⟨e1, e2⟩ := HS2.out.uniq HS.out
                subst e1 e2
                obtain ⟨As, cs, rfl, _, hls, hcs, _⟩ := HLs.out.shape
                have HKh := Lib.hid (HKg.out.on HBh.out)
                have HLwh := Lib.hid ((HLf.out.below HBg.out).below HBh.out)
                obtain ⟨Aw2, cw2, ew2, HRw2, _, _, _⟩ := HLwh.out.shape
                rw [HPL.out] at ew2
                cases ew2
                have HSM := Lib.hid (SameAll_any ps ps (some ⟨gx, 0, none⟩) Aw m cw wh (HKh.out.x.rows HP64.out) HRw2 (by rw [HPL.out]; omega))
                rw [decide_eq_true (rfl : ps = ps), HPL.out] at HSM
                clear HRw2 HSC2
                go_wp2_with fail
                go_at_call 14
                with_reducible refine HSM.out.mono ?_
                rintro e wi ⟨rfl, HBi⟩
                have HKi := Lib.hid (HKh.out.on HBi.out)
                have HLwi := Lib.hid (HLwh.out.below HBi.out)
                obtain ⟨Aw2, cw2, ew2, HRwi, _, _, _⟩ := HLwi.out.shape
                rw [HPL.out] at ew2
                cases ew2
                obtain ⟨bw, ow, eAw, _, hcaw⟩ := HRwi (by rw [HPL.out]; omega)
                obtain ⟨A9, c9, w0, hd9, hl9, hc9⟩ := hcaw 0 x0 HPAT.out
                subst eAw
                have HLK := Lib.hid (RefLook_any A9 64 c9 x0 wi hd9 HX64.out (by rw [HX64.out] at hl9; exact hl9) hc9)
                rw [HX64.out, Nat.add_zero] at w0
                clear hcaw hd9 HSM
                go_wp2_with fail
                go_at_call 16
                refine HLK.out.mono ?_
                rintro e wj ⟨HBj, ⟨p, v, HI, rfl, HO⟩ | ⟨HNo, rfl⟩⟩
                · have hp := (HI.out.uniq HIS.out).symm
                  subst hp
                  obtain ⟨A10, c10, rfl, _, _⟩ := own_shape HO.out
                  have HXt := Lib.hid (Whole.new wj 33 #[.int .i64 (pg : Int), .int .i64 (psq : Int), .int .i64 (pi : Int), .int .i64 (pm : Int), .slice A10 pd.length c10])
                  have HBt := Lib.hid ((Below.refl wj.heap.size wj).alloc (Nat.le_refl _) (.cells #[.int .i64 (pg : Int), .int .i64 (psq : Int), .int .i64 (pi : Int), .int .i64 (pm : Int), .slice A10 pd.length c10] 33))
                  unfold pv pcells
                  simp only
                  go_upto_region 25 with (fail)
                  obtain ⟨gt, hgt⟩ : ∃ g, g = wj.heap.size := ⟨_, rfl⟩
                  rw [← hgt] at HXt ⊢
                  generalize wj.alloc _ = wk at HXt HBt ⊢
                  have HKk := Lib.hid ((HKi.out.on HBj.out).on HBt.out)
                  have HLwk := Lib.hid ((HLwi.out.below HBj.out).below HBt.out)
                  have HOt := Lib.hid ((Mod.of_below HBt.out []).own HO.out (by simp))
                  have HGT := Lib.hid hgt
                  have HBik := Lib.hid (below_on2 HBj.out (.inl HBj.out.size) HBt.out)
                  clear hgt HO HI w0
                  obtain ⟨Aw3, cw3, ew3, HRw3, hlw3, hcw3, _⟩ := HLwk.out.shape
                  rw [HPL.out] at ew3
                  cases ew3
                  have HSC := Lib.hid (RefScan_any (some ⟨bw, ow, none⟩) m cw ps 3 wk HRw3 HPL.out ⟨by rw [HPL.out] at hlw3; exact hlw3, hcw3⟩ (by omega))
                  clear HRw3
                  go_wp2_with fail
                  go_at_call 20
                  refine HSC.out.mono ?_
                  rintro e wz ⟨rs3, u3, vl, rfl, HS3, HLl, HBz⟩
                  obtain ⟨e1, e2⟩ := HS3.out.uniq HS2.out
                  subst e1 e2
                  obtain ⟨Al, cl, rfl, _, hll, hcl, _⟩ := HLl.out.shape
                  have HKz := Lib.hid (HKk.out.on HBz.out)
                  clear HSC
                  have Bkz := Lib.hid HBz.out
                  have Biz := Lib.hid (bo HBik.out Bkz.out)
                  have Bhz := Lib.hid (bo HBi.out Biz.out)
                  have Bgz := Lib.hid (bo HBh.out Bhz.out)
                  have Bfz := Lib.hid (bo HBg.out Bgz.out)
                  have Bdz := Lib.hid (bo HBdf.out Bfz.out)
                  have Bbz := Lib.hid (bo HBbd.out Bdz.out)
                  have Baz := Lib.hid (bo HBb.out Bbz.out)
                  have Brz := Lib.hid (bo HBa.out Baz.out)
                  obtain ⟨F, hF⟩ : ∃ F : List Nat, ∀ k, k ∈ F ↔ k < wz.heap.size ∧ ((gx ≤ k ∧ k < gy) ∨ (wb.heap.size ≤ k ∧ k < wd.heap.size) ∨ (wf.heap.size ≤ k ∧ k < wg.heap.size)) :=
                    ⟨(List.range wz.heap.size).filter (fun k => decide ((gx ≤ k ∧ k < gy) ∨ (wb.heap.size ≤ k ∧ k < wd.heap.size) ∨ (wf.heap.size ≤ k ∧ k < wg.heap.size))), fun k => by rw [List.mem_filter, List.mem_range, decide_eq_true_eq]⟩
                  have HFF := Lib.hid hF
                  clear hF
                  have hyr := HK9.out.y.row.lt
                  have hux := HUX.out.1
                  have s1 := HBa.out.size
                  have s2 := HBb.out.size
                  have s3 := HBbd.out.size
                  have s4 := HBdf.out.size
                  have s5 := HBg.out.size
                  have s6 := HBh.out.size
                  have s7 := HBi.out.size
                  have s8 := HBik.out.size
                  have s9 := HBz.out.size
                  have hN1 := (HROW.out _ _ HS.out).1
                  have HPH := Lib.hid (show Own.Ph F wz.heap.size wz gx m 64 gp (.int .i64 (pg : Int)) (.int .i64 (psq : Int)) (.int .i64 (pi : Int)) (.int .i64 (pm : Int)) A7 pd.length c7 Ar rs3.length 188 wz from
                    { mod := Mod.refl F wz
                      x := Own.Hx.packed HKz.out.x HPL.out HP64.out (.inl ((HFF.out _).2 (by omega))) (fun b hb => .inl ((HFF.out _).2 (by have := HUX.out.2 b hb; omega)))
                      p := (Mod.of_below Bdz.out []).whole HXp.out (by simp)
                      pd := (Own.GwB.own HOp.out (fun k h1 h2 => .inl ((HFF.out _).2 (by omega)))).holds (Own.Holds.of Bdz.out)
                      r := (Own.Hx.lst HLr.out (HROW.out _ _ HS.out).2 (fun k h1 h2 => .inl ((HFF.out _).2 (by omega)))).on Bgz.out
                      inF := (HFF.out _).2 (by have := HGP.out; have := HBbc.out; have := HXp.out.lt; omega)
                      big := rfl
                      ne := fun g e => by
                        obtain ⟨hs, h1, _⟩ := HLr.out.ex
                        have := (h1.lt g (by rw [e]; rfl)).1
                        omega })
                  go_wp2_with fail
                  go_loopw [136] (fun i wx => ∃ k : Nat, i = .int .i64 (k : Int) ∧ k ≤ m ∧ Hid (Own.Ph F wz.heap.size wz gx m (64) gp (.int .i64 (pg : Int)) (.int .i64 (psq : Int)) (.int .i64 (pi : Int)) (.int .i64 (pm : Int)) A7 (pd.length) c7 Ar rs3.length (188) wx)) (fun i _ => m - (intOf i).toNat)
                  case atStart => exact ⟨0, rfl, Nat.zero_le _, HPH⟩
                  case round =>
                    obtain ⟨k, rfl, hk, HPk⟩ := hrel
                    by_cases hlt : k < m
                    · obtain ⟨gg, A', n', c', eg, cx, fx, HM', HG', HF', hds⟩ := HPk.out.x.at hlt
                      cases eg
                      have HDS := Lib.hid (show ∃ ds, Whole wr gx 26 ds ∧ ds[k]? = some (.slice A' n' c') from by obtain ⟨ds, hd⟩ := hds.out; exact ⟨ds, hd, (hd.cell k).symm.trans cx⟩)
                      have hn' := HM'.out
                      clear hds
                      go_wp2_with fail
                      go_loopw [144] (fun i wy => ∃ t : Nat, i = .int .i64 (t : Int) ∧ t ≤ n' ∧ Hid (Own.Ph F wz.heap.size wz gx m (64) gp (.int .i64 (pg : Int)) (.int .i64 (psq : Int)) (.int .i64 (pi : Int)) (.int .i64 (pm : Int)) A7 (pd.length) c7 Ar rs3.length (188) wy) ∧ Hid (∃ ds, Whole wy gx 26 ds ∧ ds[k]? = some (.slice A' n' c')) ∧ Hid (Own.GwB wy F wz.heap.size A' n' c')) (fun i _ => n' - (intOf i).toNat)
                      case atStart => exact ⟨0, rfl, Nat.zero_le _, HPk, HDS, HG'⟩
                      case round =>
                        obtain ⟨t, rfl, ht, HPt, HDt, HGt⟩ := hrel
                        by_cases hlt2 : t < n'
                        · obtain ⟨b, u, cs, eA, cu, fu, HW, HFb⟩ := HGt.out.cellW hlt2
                          subst eA
                          obtain ⟨ds, hd, hdk⟩ := HDt.out
                          have cx2 := (hd.cell k).trans hdk
                          have HP2 := Lib.hid (HPt.out.byte HW.out HFb.out t (.int .u8 ((k : Int) + 1)))
                          have HD2 := Lib.hid (show ∃ ds, Whole (wr.setCell ⟨b, t, none⟩ (.int .u8 ((k : Int) + 1))) gx 26 ds ∧ ds[k]? = some (.slice (some ⟨b, 0, none⟩) n' c') from ⟨ds, hd.far (q := ⟨b, t, none⟩) (fun e => Whole.ne hd HW.out (by decide) e) _, hdk⟩)
                          have HG2 := Lib.hid (HGt.out.holds (Own.Holds.store wr ⟨b, t, none⟩ rfl (.int .u8 ((k : Int) + 1))))
                          have wr1 : IntKind.i64.wrap ((k : Int) + 1) = (k : Int) + 1 := by rw [IntKind.wrap_i64]; omega
                          have wr2 : IntKind.u8.wrap ((k : Int) + 1) = (k : Int) + 1 := by simp [IntKind.wrap, IntKind.signed, IntKind.bits]; omega
                          clear hd hdk cx
                          go_wp2_with fail
                          go_roundw
                          case rel => exact ⟨t + 1, by go_num, hlt2, HP2, HD2, HG2⟩
                          case measure => simp only [intOf]; go_num
                        · clear cx
                          go_wp2_with fail
                          go_roundw
                          case rel => exact ⟨k + 1, by go_num, hlt, HPt⟩
                          case measure => simp only [intOf]; go_num
                    · clear hk
                      have p0 : wr.cell? ⟨gp, 4, none⟩ = some (.slice A7 pd.length c7) := HPk.out.p.cell 4
                      have hpd : pd.length ≤ 188 := Nat.le_trans (show pd.length ≤ 47 from HIS.out.1.len) (by decide)
                      go_wp2_with fail
                      clear p0
                      go_loopw [161] (fun i wx => ∃ t : Nat, i = .int .i64 (t : Int) ∧ t ≤ pd.length ∧ Hid (Own.Ph F wz.heap.size wz gx m (64) gp (.int .i64 (pg : Int)) (.int .i64 (psq : Int)) (.int .i64 (pi : Int)) (.int .i64 (pm : Int)) A7 (pd.length) c7 Ar rs3.length (188) wx)) (fun i _ => pd.length - (intOf i).toNat)
                      case atStart => exact ⟨0, rfl, Nat.zero_le _, HPk⟩
                      case round =>
                        obtain ⟨t, rfl, ht, HP3⟩ := hrel
                        by_cases hlt3 : t < pd.length
                        · obtain ⟨b, u, cs, eA, cu, fu, HW, HFb⟩ := HP3.out.pd.cellW hlt3
                          subst eA
                          have p0 : wr.cell? ⟨gp, 4, none⟩ = some (.slice (some ⟨b, 0, none⟩) pd.length c7) := HP3.out.p.cell 4
                          have HP4 := Lib.hid (HP3.out.byte HW.out HFb.out t (.int .u8 112))
                          go_wp2_with fail
                          go_roundw
                          case rel => exact ⟨t + 1, by go_num, hlt3, HP4⟩
                          case measure => simp only [intOf]; go_num
                        · clear ht
                          go_wp2_with fail
                          go_loopw [171] (fun i wx => ∃ k : Nat, i = .int .i64 (k : Int) ∧ k ≤ rs3.length ∧ Hid (Own.Ph F wz.heap.size wz gx m (64) gp (.int .i64 (pg : Int)) (.int .i64 (psq : Int)) (.int .i64 (pi : Int)) (.int .i64 (pm : Int)) A7 (pd.length) c7 Ar rs3.length (188) wx)) (fun i _ => rs3.length - (intOf i).toNat)
                          case atStart => exact ⟨0, rfl, Nat.zero_le _, HP3⟩
                          case round =>
                            obtain ⟨k, rfl, hk, HPk⟩ := hrel
                            by_cases hlt : k < rs3.length
                            · obtain ⟨gg, A', n', c', eg, cx, fx, HM', HG', HF', hds⟩ := HPk.out.r.at hlt
                              subst eg
                              have HDS := Lib.hid (show ∃ ds, Whole wr gg 26 ds ∧ ds[k]? = some (.slice A' n' c') from by obtain ⟨ds, hd⟩ := hds.out; exact ⟨ds, hd, (hd.cell k).symm.trans cx⟩)
                              have hn' := HM'.out
                              clear hds
                              go_wp2_with fail
                              go_loopw [179] (fun i wy => ∃ t : Nat, i = .int .i64 (t : Int) ∧ t ≤ n' ∧ Hid (Own.Ph F wz.heap.size wz gx m (64) gp (.int .i64 (pg : Int)) (.int .i64 (psq : Int)) (.int .i64 (pi : Int)) (.int .i64 (pm : Int)) A7 (pd.length) c7 (some ⟨gg, 0, none⟩) rs3.length (188) wy) ∧ Hid (∃ ds, Whole wy gg 26 ds ∧ ds[k]? = some (.slice A' n' c')) ∧ Hid (Own.GwB wy F wz.heap.size A' n' c')) (fun i _ => n' - (intOf i).toNat)
                              case atStart => exact ⟨0, rfl, Nat.zero_le _, HPk, HDS, HG'⟩
                              case round =>
                                obtain ⟨t, rfl, ht, HPt, HDt, HGt⟩ := hrel
                                by_cases hlt2 : t < n'
                                · obtain ⟨b, u, cs, eA, cu, fu, HW, HFb⟩ := HGt.out.cellW hlt2
                                  subst eA
                                  obtain ⟨ds, hd, hdk⟩ := HDt.out
                                  have cx2 := (hd.cell k).trans hdk
                                  have HP2 := Lib.hid (HPt.out.byte HW.out HFb.out t (.int .u8 114))
                                  have HD2 := Lib.hid (show ∃ ds, Whole (wr.setCell ⟨b, t, none⟩ (.int .u8 114)) gg 26 ds ∧ ds[k]? = some (.slice (some ⟨b, 0, none⟩) n' c') from ⟨ds, hd.far (q := ⟨b, t, none⟩) (fun e => Whole.ne hd HW.out (by decide) e) _, hdk⟩)
                                  have HG2 := Lib.hid (HGt.out.holds (Own.Holds.store wr ⟨b, t, none⟩ rfl (.int .u8 114)))
                                  clear hd hdk cx
                                  go_wp2_with fail
                                  go_roundw
                                  case rel => exact ⟨t + 1, by go_num, hlt2, HP2, HD2, HG2⟩
                                  case measure => simp only [intOf]; go_num
                                · clear cx
                                  go_wp2_with fail
                                  go_roundw
                                  case rel => exact ⟨k + 1, by go_num, hlt, HPt⟩
                                  case measure => simp only [intOf]; go_num
                            · clear hk
                              go_wp2_with fail
                              go_loopw [30] (fun i wx => ∃ (q : Nat) (Ap : Option Addr) (cp : Nat), i = .int .i64 (q : Int) ∧ q ≤ 70 ∧ Hid (Own.Ph F wz.heap.size wz gx m (64 + 4 * q) gp (.int .i64 (pg : Int)) (.int .i64 (psq : Int)) (.int .i64 (pi : Int)) (.int .i64 (pm : Int)) Ap (pd.length + q) cp Ar rs3.length (188 + q) wx)) (fun i _ => 70 - (intOf i).toNat)
                              case atStart => exact ⟨0, A7, c7, rfl, Nat.zero_le _, HPk⟩
                              case round =>
                                obtain ⟨q, Ap, cp, rfl, hq, HPq⟩ := hrel
                                by_cases hq70 : q < 70
                                · have p0 : (wr.alloc (.cells #[.int .u8 122] 5)).cell? ⟨gp, 4, none⟩ = some (.slice Ap (pd.length + q) cp) := (HPq.out.alloc _).p.cell 4
                                  have p1 : wr.cell? ⟨gp, 4, none⟩ = some (.slice Ap (pd.length + q) cp) := HPq.out.p.cell 4
                                  go_wp2_with (refine Own.list_app_gwb rfl (.tmp 195) (.tmp 196) rfl ((HPq.out.alloc _).pd) wr.heap.size (.int .u8 122) rfl (Whole.new wr 5 #[.int .u8 122]) (by omega) (HPq.out.alloc _).le rfl rfl ?_; intro A2 c2 w2 hg hm hh; have HG2 := Lib.hid hg; have HP2 := Lib.hid ((HPq.out.alloc _).app ((HPq.out.alloc _).pd) hm hh); clear hg hm hh; have f2 : w2.frozen? ⟨gp, 4, none⟩ = false := HP2.out.p.frozen 4; have p2 : w2.cell? ⟨gp, 4, none⟩ = some (.slice Ap (pd.length + q) cp) := HP2.out.p.cell 4)
                                  have HP3 := Lib.hid (HP2.out.setp HG2.out)
                                  clear p0 p1 p2 f2
                                  go_loopw [201] (fun i wx => ∃ k : Nat, i = .int .i64 (k : Int) ∧ k ≤ m ∧ Hid (Own.Ph F wz.heap.size wz gx m (64 + 4 * q + k) gp (.int .i64 (pg : Int)) (.int .i64 (psq : Int)) (.int .i64 (pi : Int)) (.int .i64 (pm : Int)) A2 (pd.length + q + 1) c2 Ar rs3.length (188 + q) wx)) (fun i _ => m - (intOf i).toNat)
                                  case atStart => exact ⟨0, rfl, Nat.zero_le _, HP3⟩
                                  case round =>
                                    obtain ⟨k, rfl, hk, HPq⟩ := hrel
                                    by_cases hlt : k < m
                                    · obtain ⟨gg, A', n', c', eg, cx, fx, HM', HG', HF', hds⟩ := HPq.out.x.at hlt
                                      cases eg
                                      have hn' := HM'.out
                                      clear hds
                                      go_wp2_with (refine Own.list_app_gwb rfl (.tmp 209) (.tmp 210) rfl (HG'.out.holds (Own.Holds.alloc wr (.cells #[.int .u8 121] 5))) wr.heap.size (.int .u8 121) rfl (Whole.new wr 5 #[.int .u8 121]) (by omega) (HPq.out.alloc _).le rfl rfl ?_; intro A3 c3 w2 hg hm hh; have HG2 := Lib.hid hg; have HP2 := Lib.hid ((HPq.out.alloc _).app (HG'.out.holds (Own.Holds.alloc wr (.cells #[.int .u8 121] 5))) hm hh); clear hg hm hh; obtain ⟨gg2, A4, n4, c4, eg2, cx2, fx2, _, _, HF4, HW4⟩ := HP2.out.x.at hlt; cases eg2)
                                      have HP3 := Lib.hid (HP2.out.setx (M' := 64 + 4 * q + (k + 1)) hlt HF4.out HW4.out HG2.out (by omega) (by omega))
                                      clear cx fx cx2 fx2
                                      go_roundw
                                      case rel => exact ⟨k + 1, by go_num, hlt, HP3⟩
                                      case measure => simp only [intOf]; go_num
                                    · have hkm : k = m := by omega
                                      rw [hkm] at HPq
                                      clear hk hkm
                                      have HPx := HPq
                                      go_wp2_with fail
                                      go_loopw [216] (fun i wx => ∃ k : Nat, i = .int .i64 (k : Int) ∧ k ≤ rs3.length ∧ Hid (Own.Ph F wz.heap.size wz gx m (64 + 4 * q + m) gp (.int .i64 (pg : Int)) (.int .i64 (psq : Int)) (.int .i64 (pi : Int)) (.int .i64 (pm : Int)) A2 (pd.length + q + 1) c2 Ar rs3.length (188 + q + k) wx)) (fun i _ => rs3.length - (intOf i).toNat)
                                      case atStart => exact ⟨0, rfl, Nat.zero_le _, HPx⟩
                                      case round =>
                                        obtain ⟨k, rfl, hk, HPq⟩ := hrel
                                        by_cases hlt : k < rs3.length
                                        · obtain ⟨gg, A', n', c', eg, cx, fx, HM', HG', HF', hds⟩ := HPq.out.r.at hlt
                                          subst eg
                                          have hn' := HM'.out
                                          clear hds
                                          go_wp2_with (refine Own.list_app_gwb rfl (.tmp 224) (.tmp 225) rfl (HG'.out.holds (Own.Holds.alloc wr (.cells #[.int .u8 119] 5))) wr.heap.size (.int .u8 119) rfl (Whole.new wr 5 #[.int .u8 119]) (by omega) (HPq.out.alloc _).le rfl rfl ?_; intro A3 c3 w2 hg hm hh; have HG2 := Lib.hid hg; have HP2 := Lib.hid ((HPq.out.alloc _).app (HG'.out.holds (Own.Holds.alloc wr (.cells #[.int .u8 119] 5))) hm hh); clear hg hm hh; obtain ⟨gg2, A4, n4, c4, eg2, cx2, fx2, _, _, HF4, HW4⟩ := HP2.out.r.at hlt; cases eg2)
                                          have HP3 := Lib.hid (HP2.out.setr (M' := 188 + q + (k + 1)) hlt HF4.out HW4.out HG2.out (by omega) (by omega))
                                          clear cx fx cx2 fx2
                                          go_roundw
                                          case rel => exact ⟨k + 1, by go_num, hlt, HP3⟩
                                          case measure => simp only [intOf]; go_num
                                        · have HPn := Lib.hid (HPq.out.more (Mx' := 64 + 4 * (q + 1)) (Mr' := 188 + (q + 1)) (by omega) (by omega))
                                          clear hk
                                          go_wp2_with fail
                                          go_roundw
                                          case rel => exact ⟨q + 1, A2, c2, by go_num, hq70, HPn⟩
                                          case measure => simp only [intOf]; go_num
                                · clear hq
                                  have HP5 := HPq
                                  have M := Lib.hid HP5.out.mod
                                  have hwx := HWX.out
                                  have Y := Lib.hid (HK9.out.y.mod ((Mod.of_below Brz.out (List.range gy)).trans M.out (fun x hx => by have := (HFF.out x).1 hx; rw [List.mem_range]; omega)) (fun x hx => List.mem_range.1 hx))
                                  have W := Lib.hid (HL.out.mod ((Mod.of_below Baz.out (List.range _)).trans M.out (fun x hx => by have := (HFF.out x).1 hx; rw [List.mem_range]; omega)) (fun x hx => List.mem_range.1 hx))
                                  have hq1 := HBe.out.size
                                  have Q := Lib.hid (((Mod.of_below Bfz.out (List.range wd.heap.size)).trans M.out (fun x hx => by have := (HFF.out x).1 hx; rw [List.mem_range]; omega)).whole HXq.out (by rw [List.mem_range]; have := HGQ.out; omega))
                                  have Qd := Lib.hid (((Mod.of_below Bfz.out (List.range wd.heap.size)).trans M.out (fun x hx => by have := (HFF.out x).1 hx; rw [List.mem_range]; omega)).own HOq.out (fun k hk => by rw [List.mem_range]; have := (HOq.out.lt k hk).1; omega))
                                  have hj1 := HBj.out.size
                                  have T := Lib.hid (((Mod.of_below Bkz.out (List.range wi.heap.size)).trans M.out (fun x hx => by have := (HFF.out x).1 hx; rw [List.mem_range]; omega)).whole HXt.out (by rw [List.mem_range]; have := HGT.out; omega))
                                  have Td := Lib.hid (((Mod.of_below Bkz.out (List.range wi.heap.size)).trans M.out (fun x hx => by have := (HFF.out x).1 hx; rw [List.mem_range]; omega)).own HOt.out (fun k hk => by rw [List.mem_range]; have := (HOt.out.lt k hk).1; omega))
                                  have S1 := Lib.hid (HLs.out.mod ((Mod.of_below Bhz.out (List.range wg.heap.size)).trans M.out (fun x hx => by have := (HFF.out x).1 hx; rw [List.mem_range]; omega)) (fun x hx => List.mem_range.1 hx))
                                  have S2 := Lib.hid (HLl.out.mod ((Mod.refl (List.range wk.heap.size) wz).trans M.out (fun x hx => by have := (HFF.out x).1 hx; rw [List.mem_range]; omega)) (fun x hx => List.mem_range.1 hx))
                                  have HBF := Lib.hid (HKz.out.below.trans (M.out.below (B := w.heap.size) HKz.out.below.size (fun x hx => by have := (HFF.out x).1 hx; omega)))
                                  obtain ⟨Aw4, cw4, ew4, HRw4, _, _, _⟩ := W.out.shape
                                  rw [HPL.out] at ew4
                                  cases ew4
                                  have HSM := Lib.hid (SameAll_any ps ps (some ⟨gy, 0, none⟩) (some ⟨bw, ow, none⟩) m cw wr (Y.out.rows HP64.out) HRw4 (by rw [HPL.out]; omega))
                                  rw [decide_eq_true (rfl : ps = ps), HPL.out] at HSM
                                  clear HRw4 W Y
                                  go_wp2_with fail
                                  go_at_call 14
                                  with_reducible refine HSM.out.mono ?_
                                  rintro e wA ⟨rfl, HA1⟩
                                  have Q2 := Lib.hid ((Mod.of_below HA1.out []).whole Q.out (by simp))
                                  have T2 := Lib.hid ((Mod.of_below HA1.out []).whole T.out (by simp))
                                  have Qe := Lib.hid ((Mod.of_below HA1.out []).own Qd.out (by simp))
                                  have Te := Lib.hid ((Mod.of_below HA1.out []).own Td.out (by simp))
                                  have HSY := Lib.hid (same_yes ⟨pg, psq, pi, pm, pd⟩ A8 A10 pd.length c8 c10 wA (BytesAt.own Qe.out) (BytesAt.own Te.out) rfl)
                                  unfold pv pcells at HSY
                                  simp only at HSY
                                  have e0 : wA.cell? ⟨gq, 0, none⟩ = some (.int .i64 (pg : Int)) := Q2.out.cell 0
                                  have e1 : wA.cell? ⟨gq, 1, none⟩ = some (.int .i64 (psq : Int)) := Q2.out.cell 1
                                  have e2 : wA.cell? ⟨gq, 2, none⟩ = some (.int .i64 (pi : Int)) := Q2.out.cell 2
                                  have e3 : wA.cell? ⟨gq, 3, none⟩ = some (.int .i64 (pm : Int)) := Q2.out.cell 3
                                  have e4 : wA.cell? ⟨gq, 4, none⟩ = some (.slice A8 pd.length c8) := Q2.out.cell 4
                                  have t0 : wA.cell? ⟨gt, 0, none⟩ = some (.int .i64 (pg : Int)) := T2.out.cell 0
                                  have t1 : wA.cell? ⟨gt, 1, none⟩ = some (.int .i64 (psq : Int)) := T2.out.cell 1
                                  have t2 : wA.cell? ⟨gt, 2, none⟩ = some (.int .i64 (pi : Int)) := T2.out.cell 2
                                  have t3 : wA.cell? ⟨gt, 3, none⟩ = some (.int .i64 (pm : Int)) := T2.out.cell 3
                                  have t4 : wA.cell? ⟨gt, 4, none⟩ = some (.slice A10 pd.length c10) := T2.out.cell 4
                                  go_wp2_with fail
                                  go_at_call 17
                                  with_reducible refine HSY.out.mono ?_
                                  rintro e wB ⟨rfl, HB2⟩
                                  clear e0 e1 e2 e3 e4 t0 t1 t2 t3 t4
                                  obtain ⟨As2, cs2, es2, HRs, _, _, _⟩ := ((S1.out.below HA1.out).below HB2.out).shape
                                  cases es2
                                  obtain ⟨Al2, cl2, el2, HRl, _, _, _⟩ := ((S2.out.below HA1.out).below HB2.out).shape
                                  cases el2
                                  have HSZ := Lib.hid (SameAll_any _ _ _ _ cs cl wB HRs HRl (by omega))
                                  rw [decide_eq_true rfl] at HSZ
                                  clear HRs HRl
                                  go_wp2_with fail
                                  go_at_call 14
                                  with_reducible refine HSZ.out.mono ?_
                                  rintro e wC ⟨rfl, HC3⟩
                                  have HB9 := Lib.hid (below_on2 (below_on2 HBF.out (.inl HBF.out.size) HA1.out) (.inl (Nat.le_trans HBF.out.size HA1.out.size)) HB2.out)
                                  go_wp2_with fail
                                  go_ret
                                  exact ⟨rfl, below_on2 HB9.out (.inl HB9.out.size) HC3.out⟩
                · exact absurd HIS.out (HNo.out _)
              · exact absurd HIS.out (HNo.out _)
            · exact absurd HIS.out (HNo.out _)
          · exact absurd hpe HE.out
    · exact absurd (by unfold packErr; rw [if_pos ⟨by omega, by omega⟩, if_neg (by omega)]) HE.out
  · have HF7 := Lib.hid (HF6.out.below HB7.out)
    go_wp2_with fail
    go_at_call 11
    refine (Pack_any 3 s d n (some ⟨gf, 0, none⟩) capf w7 (bytes_pre HF7.out) HN.out ⟨hcap, hf2⟩).mono ?_
    rintro e w8 ⟨HB8, ⟨gn2, sn2, bs2, HG2, rfl, HQ⟩ | ⟨HE2, rfl⟩⟩
    · obtain ⟨hg1, hg2, hg3, hg4, hg5⟩ := HG2.out
      exact absurd (by unfold packErr; rw [if_pos ⟨by omega, by omega⟩, if_neg (by omega)]) HE.out
    · have HF8 := Lib.hid (HF7.out.below HB8.out)
      have HD8 := Lib.hid (((HD1.out.below HG6.out.below).below HB7.out).below HB8.out)
      have hcv1 := By.conv_of (c := capf) HFL.out.symm HF8.out
      have hcv2 := By.conv_of (c := c) HDN.out HD8.out
      have hcat := cat_no d
      have hbig : ¬ 9223372036854775807 < d.length + 2 := by rw [HN.out]; omega
      have HX8 := Lib.hid (below_on2 (below_on2 HG6.out.below (.inl HG6.out.below.size) HB7.out) (.inl (Nat.le_trans HG6.out.below.size HB7.out.size)) HB8.out)
      obtain ⟨cs0, hw0, hz0⟩ := HCS.out
      have HC8 := Lib.hid (show ∃ cs, Whole w8 gf 5 cs ∧ capf ≤ cs.size from ⟨cs0, (Mod.of_below HB8.out []).whole ((Mod.of_below HB7.out []).whole hw0 (by simp)) (by simp), hz0⟩)
      clear hw0 hz0 HCS
      obtain ⟨pe, hpe⟩ : ∃ pe, packErr 3 s d.length = pe := ⟨_, rfl⟩
      have HPE := Lib.hid hpe
      rw [hpe] at HE HE2 ⊢
      clear hpe
      go_wp2_with fail
      go_loopw [66] (fun i wr => ∃ k : Nat, i = .int .i64 (k : Int) ∧ k ≤ n + 2 ∧ Hid (∃ cs, Whole wr gf 5 cs ∧ capf ≤ cs.size) ∧ Hid (Mod [gf] w8 wr)) (fun i _ => n + 2 - (intOf i).toNat)
      case atStart => exact ⟨0, rfl, Nat.zero_le _, HC8, Lib.hid (Mod.refl _ _)⟩
      case round =>
        obtain ⟨k, rfl, hk, HCk, HMk⟩ := hrel
        by_cases hlt : k < n + 2
        · obtain ⟨cs, hw, hz⟩ := HCk.out
          have cu : wr.cell? ⟨gf, k, none⟩ = some cs[k] := (hw.cell k).trans (Array.getElem?_eq_getElem (by omega))
          have fu := hw.frozen k
          have HW9 := Lib.hid (show ∃ cs', Whole (wr.setCell ⟨gf, k, none⟩ (.int .u8 120)) gf 5 cs' ∧ capf ≤ cs'.size from ⟨_, hw.store k (.int .u8 120), by simp; exact hz⟩)
          have HM9 := Lib.hid (HMk.out.store (p := ⟨gf, k, none⟩) (.inl (by simp)) (.int .u8 120))
          clear hw
          go_wp2_with fail
          go_roundw
          case rel => exact ⟨k + 1, by go_num, hlt, HW9, HM9⟩
          case measure => simp only [intOf]; go_num
        · have HX9 := Lib.hid (HX8.out.trans (HMk.out.below (B := w1.heap.size) HX8.out.size (fun x hx => by rw [List.mem_singleton.1 hx]; exact hgf)))
          have HXW := Lib.hid (HB1.out.trans (HX9.out.mono HB1.out.size))
          have HREF := Lib.hid (RefPack_any 3 s d n A c wr (HD.out.below HXW.out) HN.out ⟨hc, by omega⟩)
          clear hcv1 hcv2 hcat hbig HX9 HCk HMk HX8 HC8
          go_wp2_with fail
          go_at_call 13
          refine HREF.out.mono ?_
          rintro e wa ⟨HBa, ⟨gn3, sn3, vw, HG3, rfl, HL⟩ | ⟨HE3, rfl⟩⟩
          · obtain ⟨hg1, hg2, hg3, hg4, hg5⟩ := HG3.out
            exact absurd (show pe = 0 by rw [← HPE.out]; unfold packErr; rw [if_pos ⟨by omega, by omega⟩, if_neg (by omega)]) HE.out
          · rw [HPE.out]
            have HSM := Lib.hid (SameAll_any [] [] none none 0 0 wa (fun h => absurd h (by simp)) (fun h => absurd h (by simp)) (by simp))
            rw [decide_eq_true (rfl : ([] : List (List UInt8)) = []), List.length_nil] at HSM
            have HXa := Lib.hid (below_on2 HXW.out (.inl HXW.out.size) HBa.out)
            clear HREF HE HE2 HE3
            go_wp2_with fail
            go_at_call 14
            with_reducible refine HSM.out.mono ?_
            rintro e wb ⟨rfl, HBb⟩
            go_wp2_with fail
            go_ret
            exact ⟨rfl, below_on2 HXa.out (.inl HXa.out.size) HBb.out⟩

end Go.Proofs.Ytlnahmgcjaodkaa.lawSectorsOwn
