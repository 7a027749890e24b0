/- Encode and Decode answer what the document says; for every record and all bytes. -/
import Derived.Test.YtboflkadabagfabBkRC
import Derived.Test.YtboflkadabagfabBkArg
import Derived.Test.YtboflkadabagfabLaw
import Derived.JoinedCond
import Derived.OpenShut
namespace Go.Proofs.Ytboflkadabagfab.lawBookCodes
open BM (Gr Rc Bk g0 r0 b0)
open Go Go.RowKit Go.ChangeShapes Go.WideShapes Go.ChangeAt
set_option linter.unusedVariables false
set_option linter.unusedSimpArgs false
set_option maxRecDepth 100000
set_option maxHeartbeats 8000000 in
theorem walk (s u : Value) (r : Rc) (A : Option Addr) (c : Nat) (l : List UInt8) (w : World) (hR : FitR w s u r) (hB : Oct.BytesAt w A l) (hc : l.length ≤ c) (hm : c ≤ 140737488351232) :
    Calls Try.prog 3 #[.agg (twelve r s u), .slice A l.length c] w (LK.True_ w) := by
  obtain ⟨As, cs, hs, _⟩ := hR.g.hd
  obtain ⟨Bs, ds, hu, _⟩ := hR.st
  subst hs hu
  have HLC := Lib.hid hc
  have HLL := Lib.hid hm
  have HX := Lib.hid ((Below.refl _ w).alloc (Nat.le_refl _) (.cells (twelve r (.slice As r.g.stamp.length cs) (.slice Bs r.stamp.length ds)) 28))
  have HR := Lib.hid (hR.below HX.out)
  have HK := Lib.hid (Whole.new w 28 (twelve r (.slice As r.g.stamp.length cs) (.slice Bs r.stamp.length ds)))
  have HBY := Lib.hid hB
  clear hR hB hc hm
  go_enter Try.func3, Try.ntmps3
  go_wp2_with fail
  go_at_call 4
  generalize w.alloc (.cells (twelve r (.slice As r.g.stamp.length cs) (.slice Bs r.stamp.length ds)) 28) = w0 at HX HR HK ⊢
  with_reducible refine (awake_any w0).mono ?_
  rintro e w1 ⟨rfl, hb1⟩
  have HB1 := Lib.hid (below_on HX.out hb1)
  have HR1 := Lib.hid (HR.out.below hb1)
  have HK1 := Lib.hid (show Whole w1 w.heap.size 28 (twelve r (.slice As r.g.stamp.length cs) (.slice Bs r.stamp.length ds)) from (Mod.of_below hb1 []).whole HK.out (by simp))
  clear hb1 HX HR HK
  obtain ⟨c0, c1, c2', c3, c4, c5', c6, c7, c8, c9, c10, c11⟩ := rec_cells HK1.out
  go_wp2_with fail
  refine (r_ownRec (.slice As r.g.stamp.length cs) (.slice Bs r.stamp.length ds) r w1 HR1.out).mono ?_
  rintro e w2 ⟨v2, u2, rfl, hv2, hu2, hb2⟩
  have HF2 := Lib.hid (OwnRecPost.fit HR1.out hv2 hu2)
  obtain ⟨V2, cv2, hvv, _, _⟩ := own_shape hv2
  obtain ⟨U2, cu2, huu, _, _⟩ := own_shape hu2
  subst hvv huu
  have HB2 := Lib.hid (below_on HB1.out hb2)
  have HR2 := Lib.hid (HR1.out.below hb2)
  have HK2 := Lib.hid ((Mod.of_below hb2 []).whole HK1.out (by simp))
  clear hv2 hu2 hb2 HB1 HR1 HK1 c0 c1 c2' c3 c4 c5' c6 c7 c8 c9 c10 c11
  unfold twelve
  go_wp2_with fail
  refine (b_Encode (.slice V2 r.g.stamp.length cv2) (.slice U2 r.stamp.length cu2) r w2 HF2.out).mono ?_
  clear HF2
  unfold EncPost
  obtain ⟨lx, ex, hdx⟩ : ∃ lx ex, BM.encode r = (lx, ex) := ⟨_, _, rfl⟩
  have HDX := Lib.hid hdx
  rw [hdx]
  clear hdx
  rintro e w3 ⟨A3, c3', rfl, ho3, hb3⟩
  have HB3 := Lib.hid (below_on HB2.out hb3)
  have HR3 := Lib.hid (HR2.out.below hb3)
  have HK3 := Lib.hid ((Mod.of_below hb3 []).whole HK2.out (by simp))
  have HO3 := Lib.hid (bytes_own ho3)
  clear ho3 hb3 HB2 HR2 HK2
  obtain ⟨c0, c1, c2', c3, c4, c5', c6, c7, c8, c9, c10, c11⟩ := rec_cells HK3.out
  go_wp2_with fail
  refine (r11_Encode (.slice As r.g.stamp.length cs) (.slice Bs r.stamp.length ds) r w3 HR3.out).mono ?_
  unfold EncPost
  rw [HDX.out]
  rintro e w4 ⟨A4, c4', rfl, ho4, hb4⟩
  have HB4 := Lib.hid (below_on HB3.out hb4)
  have HO4 := Lib.hid (bytes_own ho4)
  have HO34 := Lib.hid (HO3.out.below hb4)
  have HBY4 := Lib.hid (HBY.out.below HB4.out)
  clear ho4 hb4 HB3 HR3 HK3 HO3 HDX c0 c1 c2' c3 c4 c5' c6 c7 c8 c9 c10 c11
  go_wp2_with (at_builtin; refine By.app_all rfl (.tmp 27) (.tmp 28) rfl A c _ l rfl (show By.BytesAt _ A l from HBY4.out) _ rfl rfl rfl (by have := HLL.out; have := HLC.out; omega) ?_; intro A5 n5 c5 w5 hm5; obtain ⟨HN5, -, HO5, HF5, -, -⟩ := hm5; have e5 := HN5.out; subst e5)
  refine (b_Decode A5 c5 l w5 (bytes_own HO5.out) (by have := HLL.out; have := HLC.out; omega)).mono ?_
  have HB5 := Lib.hid (below_on HB4.out HF5.out)
  have HX5 := Lib.hid HF5.out
  unfold DecPost
  obtain ⟨rd, ed, hdd⟩ : ∃ rd ed, BM.decode l = (rd, ed) := ⟨_, _, rfl⟩
  rw [hdd]
  have HDD := Lib.hid hdd
  clear hdd
  rintro e w6 ⟨v6, u6, rfl, hv6, hu6, hrw, hb6⟩
  obtain ⟨V6, cv6, hvv, _, _⟩ := own_shape hv6
  obtain ⟨U6, cu6, huu, _, _⟩ := own_shape hu6
  have hvv' : v6 = .slice V6 rd.g.stamp.length cv6 := hvv
  have huu' : u6 = .slice U6 rd.stamp.length cu6 := huu
  clear hvv huu
  subst hvv' huu'
  have HFD := Lib.hid (fit_own hrw hv6 hu6)
  have HX7 := Lib.hid ((Below.refl _ w6).alloc (Nat.le_refl _) (.cells (twelve rd (.slice V6 rd.g.stamp.length cv6) (.slice U6 rd.stamp.length cu6)) 28))
  have HK7 := Lib.hid (Whole.new w6 28 (twelve rd (.slice V6 rd.g.stamp.length cv6) (.slice U6 rd.stamp.length cu6)))
  have HFD7 := Lib.hid (HFD.out.below HX7.out)
  have HX57 := Lib.hid (below_on HX5.out (below_on hb6 HX7.out))
  have HB7 := Lib.hid (below_on HB4.out HX57.out)
  have HBY7 := Lib.hid (HBY4.out.below HX57.out)
  have HP7 := Lib.hid (HO34.out.below HX57.out)
  have HQ7 := Lib.hid (HO4.out.below HX57.out)
  clear hv6 hu6 hrw hb6 HFD HX7 HX57 HX5 HB4 HB5 HBY4 HO34 HO4 HN5 HO5 HF5
  unfold twelve at *
  go_wp2_with fail
  generalize w6.alloc _ = w7 at HK7 HFD7 HB7 HBY7 HP7 HQ7 ⊢
  refine (r11_Decode A c l w7 HBY7.out HLC.out (by have := HLL.out; omega)).mono ?_
  unfold DecPost
  rw [HDD.out]
  rintro e w8 ⟨v8, u8, rfl, hv8, hu8, hrw8, hb8⟩
  obtain ⟨V8, cv8, hvv, _, _⟩ := own_shape hv8
  obtain ⟨U8, cu8, huu, _, _⟩ := own_shape hu8
  have hvv' : v8 = .slice V8 rd.g.stamp.length cv8 := hvv
  have huu' : u8 = .slice U8 rd.stamp.length cu8 := huu
  clear hvv huu
  subst hvv' huu'
  have HFE := Lib.hid (fit_own hrw8 hv8 hu8)
  have HX9 := Lib.hid ((Below.refl _ w8).alloc (Nat.le_refl _) (.cells (twelve rd (.slice V8 rd.g.stamp.length cv8) (.slice U8 rd.stamp.length cu8)) 28))
  have HL9 := Lib.hid (Whole.new w8 28 (twelve rd (.slice V8 rd.g.stamp.length cv8) (.slice U8 rd.stamp.length cu8)))
  have HX79 := Lib.hid (below_on hb8 HX9.out)
  have HFE9 := Lib.hid (HFE.out.below HX9.out)
  have HFD9 := Lib.hid (HFD7.out.below HX79.out)
  have HK9 := Lib.hid ((Mod.of_below HX79.out []).whole HK7.out (by simp))
  have HB9 := Lib.hid (below_on HB7.out HX79.out)
  have HP9 := Lib.hid (HP7.out.below HX79.out)
  have HQ9 := Lib.hid (HQ7.out.below HX79.out)
  clear hv8 hu8 hrw8 hb8 HFE HX9 HX79 HFD7 HK7 HB7 HBY7 HP7 HQ7 HDD
  unfold twelve at *
  obtain ⟨k0, k1, k2, k3, k4, k5, k6, k7, k8, k9, k10, k11⟩ := rec_cells HK9.out
  obtain ⟨c0, c1, c2', c3, c4, c5', c6, c7, c8, c9, c10, c11⟩ := rec_cells HL9.out
  have hcv := Oct.str_of (c := c3') HP9.out
  have hcv2 := Oct.str_of (c := c4') HQ9.out
  go_wp2_with fail
  generalize w8.alloc _ = w9 at HFE9 HFD9 HB9 ⊢
  refine (r_SameRec (.slice V6 rd.g.stamp.length cv6) (.slice U6 rd.stamp.length cu6) (.slice V8 rd.g.stamp.length cv8) (.slice U8 rd.stamp.length cu8) rd rd w9 HFD9.out HFE9.out).mono ?_
  rintro e wa ⟨rfl, hba⟩
  have HBa := Lib.hid (below_on HB9.out hba)
  have hd : decide (rd = rd) = true := decide_eq_true rfl
  rw [hd]
  clear hd hba k0 k1 k2 k3 k4 k5 k6 k7 k8 k9 k10 k11 c0 c1 c2' c3 c4 c5' c6 c7 c8 c9 c10 c11 hcv hcv2
  go_wp2_with fail
  go_ret
  exact ⟨rfl, HBa.out⟩

theorem own : ownKnob Try.prog.godebug = none := by kernel_rfl
theorem laidOut : laidOutB Try.prog = true := by kernel_rfl
set_option maxRecDepth 100000 in
theorem lifted (os : Os) (started : os.Started) (H : Type) (enc : TypeId × Value → H) :
    ReturnsInHanded {} Try.checked os 3 .any (Rows.bookCodesSpec.pre6 enc Try.prog Try.f3 [] false) (Rows.bookCodesSpec.post enc Try.prog Try.f3 false true false false) := by
  refine LK.lifted_bare (C := Try.checked) (tb := 4) own started (by kernel_rfl) Try.func3 laidOut rfl (by kernel_rfl) (by kernel_rfl) Try.underlying4
    (fun ds h => by
      match ds, h with
      | [_, _], _ => rfl)
    (ChangeSpec.witness6 (enc := enc) (C := Try.checked) false ⟨#[], #[.agg #[.int .i64 0, .int .i64 0, .int .i64 0, .string ⟨#[]⟩, .int .i64 0, .slice none 0 0, .int .i64 0, .int .i64 0, .slice none 0 0, .int .i64 0, .int .i64 0, .int .i64 0], .slice none 0 0], []⟩ 8 (by kernel_rfl) (by kernel_rfl) (by kernel_rfl) (by kernel_rfl)) ?_
  intro W base args ds ps hval hA hwt _
  rw [show Try.f3.params.toList = [28, 29] by kernel_rfl] at hA hwt
  have hval' : ∀ (j : Nat) t v, (#[28, 29] : Array TypeId)[j]? = some t → args[j]? = some v → Value.okWide Try.prog W .any base t v := by
    rw [← Try.params3]; exact hval
  clear hval
  obtain ⟨v0, v1, d0, d1, pl0, pl1, rfl, rfl, rfl, h0, h1⟩ := trodAll_two hA
  obtain ⟨s0, u0, r0, rfl, hR0⟩ := open_rec (hval' 0 28 v0 rfl rfl) h0 hwt (j := 0) rfl rfl
  obtain ⟨A1, c1, l1, rfl, hB1, hc1, hm1⟩ := By.open_bytes (hval' 1 29 v1 rfl rfl) h1 hwt (j := 1) rfl rfl
  exact walk s0 u0 r0 A1 c1 l1 W hR0 (oct_bytes hB1) hc1 hm1

/-- The statement. -/
theorem proved : Rows.BookCodesSaid :=
  OpenClaim.holds_of_wide 3 Try.f3 rfl rfl rfl rfl rfl rfl rfl ⟨rfl, rfl, rfl, rfl, rfl⟩ rfl rfl rfl rfl rfl (by kernel_rfl) Try.func3 (by kernel_rfl)
    (of_decide_eq_true (by kernel_rfl)) (by unfold Func.isWrapper; first | (rw [if_pos (by decide +kernel)]; kernel_rfl) | (rw [if_neg (by decide +kernel)]; exact ⟨rfl, rfl⟩))
    (fun os started H enc _ => lifted os started H enc)

end Go.Proofs.Ytboflkadabagfab.lawBookCodes
