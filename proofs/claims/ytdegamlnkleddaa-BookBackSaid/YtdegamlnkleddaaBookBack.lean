/- Decoding an encoded record gives it back, and any bytes that are decoded are the only ones of their record; for every record and all bytes. -/
import Derived.Test.YtdegamlnkleddaaBkArg
import Derived.Test.YtdegamlnkleddaaLaw
import Derived.JoinedCond
import Derived.OpenShut
namespace Go.Proofs.Ytdegamlnkleddaa.lawBookBack
open BM (Gr Rc Bk g0 r0 b0)
open Go Go.RowKit Go.ChangeShapes Go.WideShapes Go.ChangeAt
set_option linter.unusedVariables false
set_option linter.unusedSimpArgs false
set_option maxRecDepth 100000
set_option maxHeartbeats 8000000 in
theorem walk (s u : Value) (r : Rc) (A : Option Addr) (c : Nat) (l : List UInt8) (w : World) (hR : FitR w s u r) (hB : Oct.BytesAt w A l) (hc : l.length ≤ c) (hm : c ≤ 140737488351232) :
    Calls Try.prog 7 #[.agg (twelve r s u), .slice A l.length c] w (LK.True_ w) := by
  obtain ⟨As, cs, hs, _⟩ := hR.g.hd
  obtain ⟨Bs, ds, hu, _⟩ := hR.st
  subst hs hu
  have HLC := Lib.hid hc
  have HX := Lib.hid ((Below.refl _ w).alloc (Nat.le_refl _) (.cells (twelve r (.slice As r.g.stamp.length cs) (.slice Bs r.stamp.length ds)) 32))
  have HR := Lib.hid (hR.below HX.out)
  have HK := Lib.hid (Whole.new w 32 (twelve r (.slice As r.g.stamp.length cs) (.slice Bs r.stamp.length ds)))
  have HBY := Lib.hid hB
  clear hR hB hc
  go_enter Try.func7, Try.ntmps7
  go_wp2_with fail
  go_at_call 11
  generalize w.alloc (.cells (twelve r (.slice As r.g.stamp.length cs) (.slice Bs r.stamp.length ds)) 32) = w0 at HX HR HK ⊢
  with_reducible refine (awake_any w0).mono ?_
  rintro e w1 ⟨rfl, hb1⟩
  have HB1 := Lib.hid (below_on HX.out hb1)
  have HR1 := Lib.hid (HR.out.below hb1)
  have HK1 := Lib.hid (show Whole w1 w.heap.size 32 (twelve r (.slice As r.g.stamp.length cs) (.slice Bs r.stamp.length ds)) from (Mod.of_below hb1 []).whole HK.out (by simp))
  clear hb1 HX HR HK
  obtain ⟨c0, c1, c2', c3, c4, c5', c6, c7, c8, c9, c10, c11⟩ := rec_cells HK1.out
  go_wp2_with fail
  refine (r_ownRec (.slice As r.g.stamp.length cs) (.slice Bs r.stamp.length ds) r w1 HR1.out).mono ?_
  rintro e w2 ⟨v2, u2, rfl, hv2, hu2, hb2⟩
  have HF2 := Lib.hid (OwnRecPost.fit HR1.out hv2 hu2)
  obtain ⟨V2, cv2, hvv, _, _⟩ := own_shape hv2
  obtain ⟨U2, cu2, huu, _, _⟩ := own_shape hu2
  subst hvv huu
  have HB2 := Lib.hid (below_on HB1.out hb2)
  have HR2 := Lib.hid (HR1.out.below hb2)
  have HK2 := Lib.hid ((Mod.of_below hb2 []).whole HK1.out (by simp))
  clear hv2 hu2 hb2 HB1 HR1 HK1 c0 c1 c2' c3 c4 c5' c6 c7 c8 c9 c10 c11
  unfold twelve
  go_wp2_with fail
  refine (b_Encode (.slice V2 r.g.stamp.length cv2) (.slice U2 r.stamp.length cu2) r w2 HF2.out).mono ?_
  clear HF2
  unfold EncPost
  cases hok : BM.okRc r with
  | true =>
    have he : BM.encode r = (BM.laid r, 0) := by unfold BM.encode; rw [if_pos hok]
    rw [he]
    have HDD0 := Lib.hid (BM.decode_laid hok)
    have hll := BM.laid_len (BM.ok_may hok).1
    generalize BM.laid r = x at hll HDD0 ⊢
    rintro e w3 ⟨A3, c3, rfl, ho3, hb3⟩
    have HB3 := Lib.hid (below_on HB2.out hb3)
    have HR3 := Lib.hid (HR2.out.below hb3)
    have HK3 := Lib.hid ((Mod.of_below hb3 []).whole HK2.out (by simp))
    have HO3 := Lib.hid (bytes_own ho3)
    clear ho3 hb3 HB2 HR2 HK2 he hok
    have HLX := Lib.hid hll
    clear hll
    go_wp2_with fail
    refine (b_Decode A3 c3 x w3 HO3.out (by have := HLX.out; omega)).mono ?_
    unfold DecPost
    rw [HDD0.out]
    rintro e w4 ⟨v4, u4, rfl, hv4, hu4, hrw, hb4⟩
    obtain ⟨V4, cv4, hvv, _, _⟩ := own_shape hv4
    obtain ⟨U4, cu4, huu, _, _⟩ := own_shape hu4
    have hvv' : v4 = .slice V4 r.g.stamp.length cv4 := hvv
    have huu' : u4 = .slice U4 r.stamp.length cu4 := huu
    clear hvv huu
    subst hvv' huu'
    have HF4 := Lib.hid (fit_own hrw hv4 hu4)
    have HX4 := Lib.hid ((Below.refl _ w4).alloc (Nat.le_refl _) (.cells (twelve r (.slice V4 r.g.stamp.length cv4) (.slice U4 r.stamp.length cu4)) 32))
    have HB4 := Lib.hid (below_on HB3.out (below_on hb4 HX4.out))
    have HR4 := Lib.hid (HR3.out.below (below_on hb4 HX4.out))
    have HK4 := Lib.hid ((Mod.of_below (below_on hb4 HX4.out) []).whole HK3.out (by simp))
    have HF5 := Lib.hid (HF4.out.below HX4.out)
    have HK5 := Lib.hid (Whole.new w4 32 (twelve r (.slice V4 r.g.stamp.length cv4) (.slice U4 r.stamp.length cu4)))
    clear hv4 hu4 hrw hb4 HF4 HX4 HB3 HR3 HK3 HO3 HDD0
    have hl1 : decide ((x.length : Int) < 1) = false := by have := HLX.out; simp; omega
    have hl2 : decide ((188 : Int) < (x.length : Int)) = false := by have := HLX.out; simp; omega
    obtain ⟨c0, c1, c2', c3', c4, c5', c6, c7, c8, c9, c10, c11⟩ := rec_cells HK4.out
    obtain ⟨k0, k1, k2, k3, k4, k5, k6, k7, k8, k9, k10, k11⟩ := rec_cells HK5.out
    unfold twelve at *
    go_wp2_with fail
    generalize w4.alloc _ = w5 at HB4 HR4 HK4 HF5 HK5 c0 c1 c2' c3' c4 c5' c6 c7 c8 c9 c10 c11 k0 k1 k2 k3 k4 k5 k6 k7 k8 k9 k10 k11 ⊢
    refine (r_SameRec (.slice V4 r.g.stamp.length cv4) (.slice U4 r.stamp.length cu4) (.slice As r.g.stamp.length cs) (.slice Bs r.stamp.length ds) r r w5 HF5.out HR4.out).mono ?_
    rintro e w9 ⟨rfl, hb9⟩
    have HBX := Lib.hid (below_on HB4.out hb9)
    have hd : decide (r = r) = true := decide_eq_true rfl
    rw [hd]
    clear hd hb9 c0 c1 c2' c3' c4 c5' c6 c7 c8 c9 c10 c11 k0 k1 k2 k3 k4 k5 k6 k7 k8 k9 k10 k11 HB4 HR4 HK4 HF5 HK5
    have HB10 := Lib.hid HBX.out
    have HBy := Lib.hid (HBY.out.below HB10.out)
    have HLL := Lib.hid hm
    go_wp2_with (at_builtin; refine By.app_all rfl (.tmp 54) (.tmp 55) rfl A c _ l rfl (show By.BytesAt _ A l from HBy.out) _ rfl rfl rfl (by have := HLL.out; have := HLC.out; omega) ?_; intro A5 n5 c5 w5 hm5; obtain ⟨HN5, -, HO5, HF5, -, -⟩ := hm5; have e5 := HN5.out; subst e5)
    refine (b_Decode A5 c5 l w5 (bytes_own HO5.out) (by have := HLL.out; have := HLC.out; omega)).mono ?_
    have HB5 := Lib.hid (below_on HB10.out HF5.out)
    unfold DecPost
    obtain ⟨rd, ed, hdd⟩ : ∃ rd ed, BM.decode l = (rd, ed) := ⟨_, _, rfl⟩
    rw [hdd]
    have HDD := Lib.hid hdd
    clear hdd
    rintro e w6 ⟨v6, u6, rfl, hv6, hu6, hrw, hb6⟩
    obtain ⟨V6, cv6, hvv, _, _⟩ := own_shape hv6
    obtain ⟨U6, cu6, huu, _, _⟩ := own_shape hu6
    have hvv' : v6 = .slice V6 rd.g.stamp.length cv6 := hvv
    have huu' : u6 = .slice U6 rd.stamp.length cu6 := huu
    clear hvv huu
    subst hvv' huu'
    have HB6 := Lib.hid (below_on HB5.out hb6)
    have HFD := Lib.hid (fit_own hrw hv6 hu6)
    clear hv6 hu6 hrw hb6
    have HX7 := Lib.hid ((Below.refl _ w6).alloc (Nat.le_refl _) (.cells (twelve rd (.slice V6 rd.g.stamp.length cv6) (.slice U6 rd.stamp.length cu6)) 32))
    have HK7 := Lib.hid (Whole.new w6 32 (twelve rd (.slice V6 rd.g.stamp.length cv6) (.slice U6 rd.stamp.length cu6)))
    have HFD7 := Lib.hid (HFD.out.below HX7.out)
    have HB7 := Lib.hid (below_on HB6.out HX7.out)
    clear HFD HX7
    by_cases hed : ed = 0
    · subst hed
      obtain ⟨hok, hla⟩ := BM.decode_ok HDD.out
      have HEN := Lib.hid (show BM.encode rd = (l, 0) by unfold BM.encode; rw [if_pos hok, hla])
      clear hok hla
      obtain ⟨c0, c1, c2', c3, c4, c5', c6, c7, c8, c9, c10, c11⟩ := rec_cells HK7.out
      unfold twelve at *
      go_wp2_with fail
      generalize w6.alloc _ = w7 at HK7 HFD7 HB7 c0 c1 c2' c3 c4 c5' c6 c7 c8 c9 c10 c11 ⊢
      refine (b_Encode (.slice V6 rd.g.stamp.length cv6) (.slice U6 rd.stamp.length cu6) rd w7 HFD7.out).mono ?_
      unfold EncPost
      rw [HEN.out]
      rintro e w8 ⟨A8, c8', rfl, ho8, hb8⟩
      have hcv := Oct.str_of (c := c8') (bytes_own ho8)
      have HB8 := Lib.hid (below_on HB7.out hb8)
      have hcv2 := Oct.str_of (c := c) (HBY.out.below HB8.out)
      clear ho8 hb8 c0 c1 c2' c3 c4 c5' c6 c7 c8 c9 c10 c11
      go_wp2_with fail
      go_ret
      exact ⟨rfl, HB8.out⟩
    · have hee : rd = r0 ∧ ed = 43 := by
        have h := HDD.out
        unfold BM.decode at h
        split at h
        · injection h with h1 h2
          exact absurd h2.symm hed
        · injection h with h1 h2
          exact ⟨h1.symm, h2.symm⟩
      obtain ⟨hr0, he0⟩ := hee
      subst hr0 he0
      obtain ⟨c0, c1, c2', c3, c4, c5', c6, c7, c8, c9, c10, c11⟩ := rec_cells HK7.out
      unfold twelve at *
      go_wp2_with fail
      generalize w6.alloc _ = w7 at HK7 HFD7 HB7 c0 c1 c2' c3 c4 c5' c6 c7 c8 c9 c10 c11 ⊢
      refine (r_SameRec (.slice V6 r0.g.stamp.length cv6) (.slice U6 r0.stamp.length cu6) (.slice none 0 0) (.slice none 0 0) r0 r0 w7 HFD7.out (fit_own (base := 0) rw0 (World.ownsRow_nil _ _ _ _) (World.ownsRow_nil _ _ _ _))).mono ?_
      rintro e w8 ⟨rfl, hb8⟩
      have HB8 := Lib.hid (below_on HB7.out hb8)
      have hd : decide (r0 = r0) = true := decide_eq_true rfl
      rw [hd]
      clear hb8 c0 c1 c2' c3 c4 c5' c6 c7 c8 c9 c10 c11
      go_wp2_with fail
      go_ret
      exact ⟨rfl, HB8.out⟩
  | false =>
    have he : BM.encode r = ([], 43) := by unfold BM.encode; rw [if_neg (by rw [hok]; simp)]
    rw [he]
    clear he hok
    rintro e w3 ⟨A3, c3, rfl, ho3, hb3⟩
    have HBX := Lib.hid (below_on HB2.out hb3)
    clear ho3 hb3 HB2 HR2 HK2
    have HB10 := Lib.hid HBX.out
    have HBy := Lib.hid (HBY.out.below HB10.out)
    have HLL := Lib.hid hm
    go_wp2_with (at_builtin; refine By.app_all rfl (.tmp 54) (.tmp 55) rfl A c _ l rfl (show By.BytesAt _ A l from HBy.out) _ rfl rfl rfl (by have := HLL.out; have := HLC.out; omega) ?_; intro A5 n5 c5 w5 hm5; obtain ⟨HN5, -, HO5, HF5, -, -⟩ := hm5; have e5 := HN5.out; subst e5)
    refine (b_Decode A5 c5 l w5 (bytes_own HO5.out) (by have := HLL.out; have := HLC.out; omega)).mono ?_
    have HB5 := Lib.hid (below_on HB10.out HF5.out)
    unfold DecPost
    obtain ⟨rd, ed, hdd⟩ : ∃ rd ed, BM.decode l = (rd, ed) := ⟨_, _, rfl⟩
    rw [hdd]
    have HDD := Lib.hid hdd
    clear hdd
    rintro e w6 ⟨v6, u6, rfl, hv6, hu6, hrw, hb6⟩
    obtain ⟨V6, cv6, hvv, _, _⟩ := own_shape hv6
    obtain ⟨U6, cu6, huu, _, _⟩ := own_shape hu6
    have hvv' : v6 = .slice V6 rd.g.stamp.length cv6 := hvv
    have huu' : u6 = .slice U6 rd.stamp.length cu6 := huu
    clear hvv huu
    subst hvv' huu'
    have HB6 := Lib.hid (below_on HB5.out hb6)
    have HFD := Lib.hid (fit_own hrw hv6 hu6)
    clear hv6 hu6 hrw hb6
    have HX7 := Lib.hid ((Below.refl _ w6).alloc (Nat.le_refl _) (.cells (twelve rd (.slice V6 rd.g.stamp.length cv6) (.slice U6 rd.stamp.length cu6)) 32))
    have HK7 := Lib.hid (Whole.new w6 32 (twelve rd (.slice V6 rd.g.stamp.length cv6) (.slice U6 rd.stamp.length cu6)))
    have HFD7 := Lib.hid (HFD.out.below HX7.out)
    have HB7 := Lib.hid (below_on HB6.out HX7.out)
    clear HFD HX7
    by_cases hed : ed = 0
    · subst hed
      obtain ⟨hok, hla⟩ := BM.decode_ok HDD.out
      have HEN := Lib.hid (show BM.encode rd = (l, 0) by unfold BM.encode; rw [if_pos hok, hla])
      clear hok hla
      obtain ⟨c0, c1, c2', c3, c4, c5', c6, c7, c8, c9, c10, c11⟩ := rec_cells HK7.out
      unfold twelve at *
      go_wp2_with fail
      generalize w6.alloc _ = w7 at HK7 HFD7 HB7 c0 c1 c2' c3 c4 c5' c6 c7 c8 c9 c10 c11 ⊢
      refine (b_Encode (.slice V6 rd.g.stamp.length cv6) (.slice U6 rd.stamp.length cu6) rd w7 HFD7.out).mono ?_
      unfold EncPost
      rw [HEN.out]
      rintro e w8 ⟨A8, c8', rfl, ho8, hb8⟩
      have hcv := Oct.str_of (c := c8') (bytes_own ho8)
      have HB8 := Lib.hid (below_on HB7.out hb8)
      have hcv2 := Oct.str_of (c := c) (HBY.out.below HB8.out)
      clear ho8 hb8 c0 c1 c2' c3 c4 c5' c6 c7 c8 c9 c10 c11
      go_wp2_with fail
      go_ret
      exact ⟨rfl, HB8.out⟩
    · have hee : rd = r0 ∧ ed = 43 := by
        have h := HDD.out
        unfold BM.decode at h
        split at h
        · injection h with h1 h2
          exact absurd h2.symm hed
        · injection h with h1 h2
          exact ⟨h1.symm, h2.symm⟩
      obtain ⟨hr0, he0⟩ := hee
      subst hr0 he0
      obtain ⟨c0, c1, c2', c3, c4, c5', c6, c7, c8, c9, c10, c11⟩ := rec_cells HK7.out
      unfold twelve at *
      go_wp2_with fail
      generalize w6.alloc _ = w7 at HK7 HFD7 HB7 c0 c1 c2' c3 c4 c5' c6 c7 c8 c9 c10 c11 ⊢
      refine (r_SameRec (.slice V6 r0.g.stamp.length cv6) (.slice U6 r0.stamp.length cu6) (.slice none 0 0) (.slice none 0 0) r0 r0 w7 HFD7.out (fit_own (base := 0) rw0 (World.ownsRow_nil _ _ _ _) (World.ownsRow_nil _ _ _ _))).mono ?_
      rintro e w8 ⟨rfl, hb8⟩
      have HB8 := Lib.hid (below_on HB7.out hb8)
      have hd : decide (r0 = r0) = true := decide_eq_true rfl
      rw [hd]
      clear hb8 c0 c1 c2' c3 c4 c5' c6 c7 c8 c9 c10 c11
      go_wp2_with fail
      go_ret
      exact ⟨rfl, HB8.out⟩

theorem own : ownKnob Try.prog.godebug = none := by kernel_rfl
theorem laidOut : laidOutB Try.prog = true := by kernel_rfl
set_option maxRecDepth 100000 in
theorem lifted (os : Os) (started : os.Started) (H : Type) (enc : TypeId × Value → H) :
    ReturnsInHanded {} Try.checked os 7 .any (Rows.bookBackSpec.pre6 enc Try.prog Try.f7 [] false) (Rows.bookBackSpec.post enc Try.prog Try.f7 false true false false) := by
  refine LK.lifted_bare (C := Try.checked) (tb := 4) own started (by kernel_rfl) Try.func7 laidOut rfl (by kernel_rfl) (by kernel_rfl) Try.underlying4
    (fun ds h => by
      match ds, h with
      | [_, _], _ => rfl)
    (ChangeSpec.witness6 (enc := enc) (C := Try.checked) false ⟨#[], #[.agg #[.int .i64 0, .int .i64 0, .int .i64 0, .string ⟨#[]⟩, .int .i64 0, .slice none 0 0, .int .i64 0, .int .i64 0, .slice none 0 0, .int .i64 0, .int .i64 0, .int .i64 0], .slice none 0 0], []⟩ 8 (by kernel_rfl) (by kernel_rfl) (by kernel_rfl) (by kernel_rfl)) ?_
  intro W base args ds ps hval hA hwt _
  rw [show Try.f7.params.toList = [32, 46] by kernel_rfl] at hA hwt
  have hval' : ∀ (j : Nat) t v, (#[32, 46] : Array TypeId)[j]? = some t → args[j]? = some v → Value.okWide Try.prog W .any base t v := by
    rw [← Try.params7]; exact hval
  clear hval
  obtain ⟨v0, v1, d0, d1, pl0, pl1, rfl, rfl, rfl, h0, h1⟩ := trodAll_two hA
  obtain ⟨s0, u0, r0, rfl, hR0⟩ := open_rec (hval' 0 32 v0 rfl rfl) h0 hwt (j := 0) rfl rfl
  obtain ⟨A1, c1, l1, rfl, hB1, hc1, hm1⟩ := By.open_bytes (hval' 1 46 v1 rfl rfl) h1 hwt (j := 1) rfl rfl
  exact walk s0 u0 r0 A1 c1 l1 W hR0 (oct_bytes hB1) hc1 hm1

/-- The statement. -/
theorem proved : Rows.BookBackSaid :=
  OpenClaim.holds_of_wide 7 Try.f7 rfl rfl rfl rfl rfl rfl rfl ⟨rfl, rfl, rfl, rfl, rfl⟩ rfl rfl rfl rfl rfl (by kernel_rfl) Try.func7 (by kernel_rfl)
    (of_decide_eq_true (by kernel_rfl)) (by unfold Func.isWrapper; first | (rw [if_pos (by decide +kernel)]; kernel_rfl) | (rw [if_neg (by decide +kernel)]; exact ⟨rfl, rfl⟩))
    (fun os started H enc _ => lifted os started H enc)

end Go.Proofs.Ytdegamlnkleddaa.lawBookBack
