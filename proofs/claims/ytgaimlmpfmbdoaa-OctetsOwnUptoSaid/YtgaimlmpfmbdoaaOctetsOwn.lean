/- Bytes that are handed in stay, bytes that are answered share no memory, and a nil writer or reader does nothing; for all bytes and every list of things of bulk at most 1048576 in all (beyond 2^48 bytes in all an append ends the call). -/
import Derived.Test.YtgaimlmpfmbdoaaOctetsW14
import Derived.Test.YtgaimlmpfmbdoaaLawBare
import Derived.JoinedCond
import Derived.OpenShut
namespace Go.Proofs.Ytgaimlmpfmbdoaa.lawOctetsOwn
open Go Go.RowKit Go.ChangeShapes Go.WideShapes Go.ChangeAt
set_option linter.unusedVariables false
set_option linter.unusedSimpArgs false
theorem bytes_pre {w : World} {A : Option Addr} {l m : List UInt8} (h : BytesAt w A (l ++ m)) : BytesAt w A l := fun h0 => by
  obtain ⟨b, o, e, hb, hc⟩ := h (by rw [List.length_append]; omega)
  exact ⟨b, o, e, hb, fun j x hx => hc j x (by rw [List.getElem?_append_left (List.getElem?_eq_some_iff.1 hx).1]; exact hx)⟩
theorem cat_same (l m : List UInt8) : ((⟨l.toArray⟩ : ByteArray) ++ ⟨m.toArray⟩) = ⟨(l ++ m).toArray⟩ := WideShapes.bytes_inj (by rw [ByteArray.data_append]; simp)
theorem cat_no (l : List UInt8) : (!l ++ [91, 92] == ((⟨l.toArray⟩ : ByteArray) ++ ⟨#[91, 92]⟩).toList) = false := by
  have e := cat_same l [91, 92]
  rw [show (⟨#[91, 92]⟩ : ByteArray) = ⟨([91, 92] : List UInt8).toArray⟩ from rfl, e]
  simp
theorem rat_mod {F : List Nat} {w w' : World} {r b : Nat} {l : List UInt8} {e : Nat} (h : RAt w r b l e) (hm : Mod F w w') (h1 : r ∉ F) (h2 : b ∉ F) : RAt w' r b l e := by
  obtain ⟨A, c, k1, k2, k3, k4, k5⟩ := h
  exact ⟨A, c, hm.whole k1 h1, k2.mod hm (fun ad e => by rw [k5 ad e]; exact h2), k3, k4, k5⟩
theorem enc5 (L : List UInt8) : L ++ OM.enc ((5 : Int)).toNat = L ++ [5] := by
  have e : OM.enc ((5 : Int)).toNat = [5] := by
    rw [show ((5 : Int)).toNat = 5 from rfl]
    unfold OM.enc
    rfl
  rw [e]
theorem four7 : four 7 = [7, 0, 0, 0] := by decide
theorem cat_yes (l : List UInt8) : (l ++ [5] == ((⟨l.toArray⟩ : ByteArray) ++ ⟨#[5]⟩).toList) = true := by
  have e := cat_same l [5]
  rw [show (⟨#[5]⟩ : ByteArray) = ⟨([5] : List UInt8).toArray⟩ from rfl, e]
  simp
theorem own_full {w : World} {base n m : Nat} {ys : List Value} {v : Value} (h : w.ownsRow base 5 1 v (n + (m + 1)) ys) : ∃ g cap, v = .slice (some ⟨g, 0, none⟩) (n + (m + 1)) cap ∧ n + (m + 1) ≤ cap ∧ cap ≤ 9223372036854775807 := by
  rcases h.2 with ⟨_, h⟩ | ⟨g, cap, cur, rfl, _, _, h1, h2, _⟩
  · omega
  · exact ⟨g, cap, rfl, h1, h2⟩
set_option maxRecDepth 100000 in
set_option maxHeartbeats 8000000 in
theorem walk (A : Option Addr) (c : Nat) (l : List UInt8) (B : Option Addr) (d : Nat) (xs : List Thing) (w : World) (hB : BytesAt w A l) (hc : l.length ≤ c) (hm : c ≤ 140737488351232)
    (hT : ThingsAt w.heap.size w B xs) (hd : xs.length ≤ d) (hdm : d ≤ 9223372036854775807) (hF : ∀ x ∈ xs, Fair x) (hroom : (things xs).length ≤ 10485760) :
    Calls Try.prog 10 #[.slice A l.length c, .slice B xs.length d] w (LK.True_ w) := by
  have HY := Lib.hid hB; clear hB
  have HT := Lib.hid hT; clear hT
  have HF := Lib.hid hF; clear hF
  obtain ⟨i0, hi, hz0, hz1, hz2⟩ := info_parts info_u8
  go_enter Try.func10, Try.ntmps10
  go_wp2_with fail
  refine (awake_any _).mono ?_
  rintro e w1 ⟨rfl, hb⟩
  have HB1 := Lib.hid hb
  have HY1 := Lib.hid (HY.out.below hb)
  clear hb
  go_wp2_with (first
    | (at_builtin; refine app_all rfl (.tmp 23) (.tmp 24) rfl A c _ l rfl HY1.out _ rfl rfl rfl (by omega) ?_; intro A2 n2 c2 w2 hm2; obtain ⟨HN2, HX2, HO2, HF2, -, -⟩ := hm2; have e2 := HN2.out; subst e2; clear HX2 HN2)
    | (at_builtin; refine wpList_append_own_at _ rfl (.tmp 25) (.tmp 26) 28 rfl w1.heap.size 5 i0 (.int .u8 0) 1 1 Try.underlying28 hi hz0 hz1 hz2 rfl (by decide) (.slice A2 l.length c2) l.length (u8s l) rfl (HO2.out.alloc _) ⟨w2.heap.size, 0, none⟩ 2 2 (u8s [91, 92]) rfl rfl (World.news_of_block (cs := (u8s [91, 92]).toArray) (t := 5) (fr := (0, 0)) (heap_alloc_new w2 _)) one_u8 (by unfold maxLen; omega) (by omega) (by have := HF2.out.size; rw [World.size_alloc]; omega) ?_; intro v3 w3 hown3 hgrow3 _ _; rw [← u8s_append] at hown3; obtain ⟨g, cap, hv3, hcap, hcm⟩ := own_full hown3; subst hv3; have HO3 := Lib.hid hown3; have HG3 := Lib.hid hgrow3; clear hown3 hgrow3 hi hz0 hz1 hz2)
    | fail)
  have HB3 := Lib.hid ((HF2.out.alloc HF2.out.size (.cells (u8s [91, 92]).toArray 5)).grown HG3.out (by have := HF2.out.size; rw [World.size_alloc]; omega) (fun k hk => (HO2.out.lt k hk).1))
  have HX3 := Lib.hid (bytes_pre (BytesAt.own HO3.out))
  obtain ⟨hg1, hg3⟩ := HO3.out.lt g rfl
  clear HF2 HG3 HO2
  refine (NewReader_in rfl HX3.out (by omega)).mono ?_
  rintro e w4 ⟨r, b, rfl, hr, hb, hr1, -, hb1, -⟩
  have HR4 := Lib.hid hr
  have HB4 := Lib.hid (below_on HB3.out hb)
  have HX4 := Lib.hid (HX3.out.below hb)
  have HO4 := Lib.hid (Mod.own (Mod.of_below hb []) HO3.out (by simp))
  have hs34 := hb.size
  clear hr hb HO3 HB3 HX3
  go_wp2_with fail
  refine (Sum_in rfl HX4.out (by omega)).mono ?_
  rintro e w5 ⟨rfl, rfl⟩
  go_wp2_with fail
  refine (OfFour_in rfl HX4.out (by omega) (by omega)).mono ?_
  rintro e w5 ⟨rfl, rfl⟩
  have hcf := conv_of (n := l.length + 2) (c := cap) (by simp) (BytesAt.own HO4.out)
  have hcat := cat_no l
  have hcl := conv_of (c := c) rfl (HY1.out.below HB4.out)
  go_wp2_with fail
  clear hcat hcf hcl
  go_loopw [51] (fun i wx => ∃ (k : Nat) (ys : List Value), i = .int .i64 (k : Int) ∧ k ≤ l.length + 2 ∧ wx.ownsRow w1.heap.size 5 1 (.slice (some ⟨g, 0, none⟩) (l.length + 2) cap) (l.length + 2) ys ∧ Mod [g] w4 wx) (fun i _ => l.length + 2 - (intOf i).toNat)
  case atStart => exact ⟨0, _, rfl, by omega, HO4.out, Mod.refl _ _⟩
  case round =>
    obtain ⟨k, ys, rfl, hk, hO, hM⟩ := hrel
    by_cases hlt : k < l.length + 2
    · have hyl : ys.length = l.length + 2 := by have := hO.1; omega
      have hcell := hO.cellAt k (by omega)
      obtain ⟨u, hu⟩ : ∃ u, ys[k]? = some u := ⟨ys[k]'(by omega), List.getElem?_eq_getElem _⟩
      rw [hu] at hcell
      have HU := Lib.hid hu; clear hu
      have hfr := hO.frozenAt k
      have HST := Lib.hid (hO.stored k (.int .u8 120)).1
      have HM1 := Lib.hid (hM.store (p := ⟨g, k, none⟩) (.inl (by simp)) (.int .u8 120))
      clear hO hM
      go_wp2_with fail
      go_roundw
      case rel => exact ⟨k + 1, _, rfl, by omega, HST.out, HM1.out⟩
      case measure => simp only [intOf]; omega
    · clear hO
      have hs4 : w1.heap.size ≤ w4.heap.size := HB4.out.size
      have hs5 : w4.heap.size ≤ wr.heap.size := hM.size
      have HR5 := Lib.hid (rat_mod HR4.out hM (by simp; omega) (by simp; omega))
      have HB5 := Lib.hid (HB4.out.trans (hM.below hs4 (by simp; omega)))
      clear hM HR4 HO4 HX4 HB4
      obtain ⟨n, m, e', hk'⟩ : ∃ n m e', OM.rnum l 0 = (n, m, e') := ⟨_, _, _, rfl⟩
      have HK := Lib.hid hk'; clear hk'
      go_wp2_with fail
      refine (RNum_in HR5.out HK.out).mono ?_
      rintro e w6 ⟨rfl, -, hm6⟩
      have HB6 := Lib.hid (HB5.out.trans (hm6.below HB5.out.size (by simp; omega)))
      clear hm6 HR5 HB5
      go_wp2_with fail
      refine (ReadNum_any A c l 0 w6 (HY1.out.below HB6.out) hc (by omega)).mono ?_
      rintro e w7 ⟨A7, c7, hx, hx1, -, -, hb7⟩
      rw [HK.out] at hx hx1
      subst hx
      have HB7 := Lib.hid (HB1.out.trans ((HB6.out.trans (hb7.mono HB6.out.size)).mono HB1.out.size))
      clear HB6 hb7 hx1 HK HY1 HB1
      go_wp2_with fail
      have h8 := WIn.fresh (N := w.heap.size) (K := []) (w := w7.alloc (.cells #[.slice A7 m.length c7, .int .i64 (e' : Int)] 43)) (by have := HB7.out.size; rw [World.size_alloc]; omega) (by simp)
      rw [World.size_alloc] at h8
      have HW8 := Lib.hid h8
      have HB8 := Lib.hid ((HB7.out.alloc HB7.out.size (.cells #[.slice A7 m.length c7, .int .i64 (e' : Int)] 43)).alloc (by have := HB7.out.size; rw [World.size_alloc]; omega) (.cells #[.pointer none, .int .i64 0] 24))
      clear h8 HB7
      refine (lawlay_any d HW8.out HB8.out.size (by simp) (HT.out.below HB8.out) (by omega) HF.out (by rw [List.nil_append]; omega)).mono ?_
      rintro e w9 ⟨rfl, h1, h2⟩
      rw [List.nil_append] at h1
      have HW9 := Lib.hid h1
      have HB9 := Lib.hid (HB8.out.trans (h2.belowN HB8.out.size))
      clear h1 h2 HW8 HB8 HT HF
      generalize w7.heap.size + 1 = a at HW9 ⊢
      generalize things xs = L at HW9 hroom
      go_wp2_with fail
      refine (Bytes_in HW9.out (by omega)).mono ?_
      rintro e w10 ⟨A10, n10, c10, rfl, HN10, -, HO10, HF10, k10, k10', -⟩
      have e10 := HN10.out
      subst e10
      clear HN10
      go_wp2_with fail
      refine (Bytes_in (HW9.out.below HF10.out) (by omega)).mono ?_
      rintro e w11 ⟨A11, n11, c11, rfl, HN11, -, HO11, HF11, k11, k11', hS11⟩
      have e11 := HN11.out
      subst e11
      clear HN11
      have HGx := Lib.hid (show ∀ k ∈ (Value.slice A10 L.length c10).ownBlock.toList, w9.heap.size ≤ k ∧ k < w10.heap.size from fun k hk => HO10.out.lt k (by simpa using hk))
      have HGy := Lib.hid (show ∀ k ∈ (Value.slice A11 L.length c11).ownBlock.toList, w10.heap.size ≤ k ∧ k < w11.heap.size from fun k hk => HO11.out.lt k (by simpa using hk))
      have hs10 : w9.heap.size ≤ w10.heap.size := HF10.out.size
      have hs11 : w10.heap.size ≤ w11.heap.size := HF11.out.size
      have HW11 := Lib.hid (((HW9.out.rekey (K' := (Value.slice A10 L.length c10).ownBlock.toList ++ (Value.slice A11 L.length c11).ownBlock.toList) (fun x hx => .inr (by
        rcases List.mem_append.1 hx with h | h
        · exact (HGx.out x h).1
        · have := (HGy.out x h).1; omega))).below HF10.out).below HF11.out)
      have HB11 := Lib.hid ((HB9.out.trans (HF10.out.mono HB9.out.size)).trans (HF11.out.mono (Nat.le_trans HB9.out.size hs10)))
      have HO10' := Lib.hid (Mod.own (Mod.of_below HF11.out []) HO10.out (by simp))
      have hs9 : w.heap.size ≤ w9.heap.size := HB9.out.size
      clear HF10 HF11 HW9 HB9 HO10
      generalize hGd : (Value.slice A10 L.length c10).ownBlock.toList = G at HGx HW11
      have HGd := Lib.hid hGd; clear hGd
      go_wp2_with fail
      clear hS11
      go_loopw [79] (fun i wx => ∃ (k : Nat) (ys : List Value), i = .int .i64 (k : Int) ∧ k ≤ L.length ∧ wx.ownsRow w9.heap.size 5 1 (.slice A10 L.length c10) L.length ys ∧ Mod G w11 wx) (fun i _ => L.length - (intOf i).toNat)
      case atStart => exact ⟨0, _, rfl, by omega, HO10'.out, Mod.refl _ _⟩
      case round =>
        obtain ⟨k, ys, rfl, hk, hO, hM⟩ := hrel
        by_cases hlt : k < L.length
        · obtain ⟨g1, rfl⟩ : ∃ g1, A10 = some ⟨g1, 0, none⟩ := by
            rcases hO.2 with ⟨_, h⟩ | ⟨g', cap', cur, h, _⟩
            · omega
            · cases h; exact ⟨_, rfl⟩
          have hyl : ys.length = L.length := by have := hO.1; omega
          have hcell := hO.cellAt k (by omega)
          obtain ⟨u, hu⟩ : ∃ u, ys[k]? = some u := ⟨ys[k]'(by omega), List.getElem?_eq_getElem _⟩
          rw [hu] at hcell
          have HU := Lib.hid hu; clear hu
          have hfr := hO.frozenAt k
          have HST := Lib.hid (hO.stored k (.int .u8 122)).1
          have HM1 := Lib.hid (hM.store (p := ⟨g1, k, none⟩) (.inl (by rw [← HGd.out]; simp [Value.ownBlock])) (.int .u8 122))
          clear hO hM
          go_wp2_with fail
          go_roundw
          case rel => exact ⟨k + 1, _, rfl, by omega, HST.out, HM1.out⟩
          case measure => simp only [intOf]; omega
        · have HOx := Lib.hid hO
          have HMx := Lib.hid hM
          clear hO hM HO10'
          go_wp2_with fail
          go_loopw [12, 16] (fun v i wx => ∃ (j : Nat) (ys : List Value), i = .int .i64 (j : Int) ∧ j ≤ 40 ∧ wx.ownsRow w9.heap.size 5 1 v (L.length + j) ys ∧ Mod G w11 wx ∧ Hid (∀ x, v.ownBlock = some x → x ∈ G ∨ w11.heap.size ≤ x)) (fun _ i _ => 40 - (intOf i).toNat)
          case atStart => exact ⟨0, _, rfl, by omega, HOx.out, HMx.out, Lib.hid (fun x hx => .inl (by rw [← HGd.out, hx]; simp))⟩
          case round =>
            obtain ⟨j, ys, rfl, hj, hO, hM, HD⟩ := hrel
            have hsr : w11.heap.size ≤ wr.heap.size := hM.size
            by_cases hlt3 : j < 40
            · obtain ⟨i0, hi, hz0, hz1, hz2⟩ := info_parts info_u8
              have HO := Lib.hid hO; have HM := Lib.hid hM
              clear hO hM
              obtain ⟨Av, cv, hv, hv1, hv2⟩ := own_shape HO.out
              subst hv
              go_wp2_with (at_builtin; refine wpList_append_own_at _ rfl (.tmp 90) (.tmp 91) 28 rfl w9.heap.size 5 i0 (.int .u8 0) 1 1 Try.underlying28 hi hz0 hz1 hz2 rfl (by decide) (.slice Av (L.length + j) cv) (L.length + j) ys rfl (HO.out.alloc _) ⟨wr.heap.size, 0, none⟩ 1 1 [.int .u8 122] rfl rfl (cell_one_new _ _ _) (by intro u hu; rw [List.mem_singleton.1 hu]; rfl) (by unfold maxLen; omega) (by omega) (by rw [World.size_alloc]; omega) ?_; intro v9 w12 hown9 hgrow9 _ hat9; have HO9 := Lib.hid hown9; have HG9 := Lib.hid hgrow9; have HA9 := Lib.hid hat9; clear hown9 hgrow9 hat9 hi hz0 hz1 hz2)
              go_roundw
              case rel =>
                refine ⟨j + 1, _, rfl, by omega, HO9.out, (HM.out.alloc _).grown HG9.out HD.out, Lib.hid (fun x hx => ?_)⟩
                rcases HA9.out with h | h
                · exact HD.out x (h ▸ hx)
                · have e := h.symm.trans hx
                  rw [World.size_alloc] at e
                  have : wr.heap.size + 1 = x := by simpa using e
                  exact .inr (by omega)
              case measure => simp only [intOf]; omega
            · have HM12 := Lib.hid hM
              clear hM hO HD
              go_wp2_with fail
              have hsr : w11.heap.size ≤ wr.heap.size := HM12.out.size
              have HBr := Lib.hid (HB11.out.trans (HM12.out.below HB11.out.size (fun x hx => Nat.le_trans hs9 (HGx.out x hx).1)))
              have HWr := Lib.hid (HW11.out.mod HM12.out (fun x hx => .inl (List.mem_append.2 (.inl hx))))
              have HOr := Lib.hid (Mod.own HM12.out HO11.out (fun x hx hG => by
                have h1 := (HGx.out x hG).2
                have h2 := (HO11.out.lt x hx).1
                omega))
              have hl5 : (L ++ OM.enc ((5 : Int)).toNat).length ≤ 140737488355328 := by rw [enc5, List.length_append]; simp only [List.length_cons, List.length_nil]; omega
              refine (Num_in 5 HWr.out HBr.out.size (fun x hx => by
                rcases List.mem_append.1 hx with h | h
                · have := (HGx.out x h).2; omega
                · have := (HGy.out x h).2; omega) (by omega) hl5).mono ?_
              rintro e w13 ⟨rfl, h1, h2⟩
              rw [enc5] at h1
              have HW13 := Lib.hid h1
              have HB13 := Lib.hid (HBr.out.trans (h2.belowN HBr.out.size))
              have HO13 := Lib.hid (h2.own HOr.out (fun x hx => List.mem_append.2 (.inr (by rw [hx]; simp))))
              clear h1 h2 HWr HBr HOr HM12 HW11 HB11 HO11 hl5
              go_wp2_with fail
              refine (Four_in (x := 7) (by decide)).mono ?_
              rintro e w14 ⟨A14, n14, c14, rfl, HN14, -, HO14, HF14, k14, k14', -⟩
              have e14 : n14 = 4 := by rw [HN14.out, four7]; rfl
              subst e14
              go_wp2_with fail
              refine (Four_in (x := 7) (by decide)).mono ?_
              rintro e w15 ⟨A15, n15, c15, rfl, HN15, -, HO15, HF15, k15, k15', -⟩
              have e15 : n15 = 4 := by rw [HN15.out, four7]; rfl
              subst e15
              clear HN14 HN15
              obtain ⟨gf, rfl⟩ : ∃ gf, A14 = some ⟨gf, 0, none⟩ := by
                rcases HO14.out.2 with ⟨_, h⟩ | ⟨g', cap', cur, h, _⟩
                · omega
                · cases h; exact ⟨_, rfl⟩
              obtain ⟨hf1, hf2⟩ := HO14.out.lt gf rfl
              have hs14 : w13.heap.size ≤ w14.heap.size := HF14.out.size
              have hs15 : w14.heap.size ≤ w15.heap.size := HF15.out.size
              have hO15 := Mod.own (Mod.of_below HF15.out []) HO14.out (by simp)
              have hcell := hO15.cellAt 0 (by omega)
              rw [show (u8s (four 7))[0]? = some (.int .u8 7) by rw [four7]; rfl] at hcell
              have hfr := hO15.frozenAt 0
              clear hO15
              have HB15 := Lib.hid ((HB13.out.trans (HF14.out.mono HB13.out.size)).trans (HF15.out.mono (Nat.le_trans HB13.out.size hs14)))
              have hn13 : w.heap.size ≤ w13.heap.size := HB13.out.size
              have HB16 := Lib.hid (HB15.out.setCell (p := ⟨gf, 0, none⟩) (by show w.heap.size ≤ gf; omega) (.int .u8 9))
              have HW16 := Lib.hid ((((HW13.out.rekey (K' := [gf]) (fun x hx => .inr (by rw [List.mem_singleton.1 hx]; exact hf1))).below HF14.out).below HF15.out).mod (Mod.store (Mod.refl [gf] w15) (p := ⟨gf, 0, none⟩) (.inl (by simp)) (.int .u8 9)) (fun x hx => .inl hx))
              have HY15 := Lib.hid (Mod.own (Mod.of_below HF15.out []) (Mod.own (Mod.of_below HF14.out []) HO13.out (by simp)) (by simp))
              have HY16 := Lib.hid (own_far HY15.out (q := ⟨gf, 0, none⟩) (fun e => by have := (HO13.out.lt gf e).2; omega) (.int .u8 9))
              have HG16 := Lib.hid (own_far HO15.out (q := ⟨gf, 0, none⟩) (fun e => by have := (HO15.out.lt gf e).1; omega) (.int .u8 9))
              clear HF14 HF15 HO14 HO15 HO13 HY15 HB15 HB13 HW13
              go_wp2_with fail
              generalize w15.setCell ⟨gf, 0, none⟩ (.int .u8 9) = w16 at HB16 HW16 HY16 HG16 ⊢
              refine (Num_nil _).mono ?_
              rintro e w17 ⟨rfl, rfl⟩
              go_wp2_with fail
              refine (Text_nil _).mono ?_
              rintro e w17 ⟨rfl, rfl⟩
              have hSy := conv_of (c := c11) rfl (BytesAt.own HY16.out)
              have hcat := cat_yes L
              go_wp2_with fail
              refine (Bytes_in HW16.out (by rw [List.length_append]; simp only [List.length_cons, List.length_nil]; omega)).mono ?_
              rintro e w17 ⟨A17, n17, c17, rfl, -, -, -, HF17, -, -, hS17⟩
              have HB17 := Lib.hid (HB16.out.trans (HF17.out.mono HB16.out.size))
              have hg := BytesAt.below (BytesAt.own HG16.out) HF17.out
              rw [four7] at hg
              have hSg := conv_of (n := 4) (c := c15) rfl hg
              clear hg HF17 HB16 HY16 HG16 HW16 hSy
              go_wp2_with fail
              refine (Bytes_nil _).mono ?_
              rintro e w18 ⟨rfl, rfl⟩
              go_wp2_with fail
              refine (RNum_nil _).mono ?_
              rintro e w18 ⟨rfl, rfl⟩
              go_wp2_with fail
              refine (RText_nil _).mono ?_
              rintro e w18 ⟨rfl, rfl⟩
              go_wp2_with fail
              refine (Left_nil _).mono ?_
              rintro e w18 ⟨rfl, rfl⟩
              go_wp2_with fail
              refine (Err_nil _).mono ?_
              rintro e w18 ⟨rfl, rfl⟩
              go_wp2_with fail
              go_ret
              exact ⟨rfl, HB17.out⟩

theorem own : ownKnob Try.prog.godebug = none := by kernel_rfl
theorem laidOut : laidOutB Try.prog = true := by kernel_rfl
set_option maxRecDepth 100000 in
theorem lifted (os : Os) (started : os.Started) (H : Type) (enc : TypeId × Value → H) (F : Stop.Interp) :
    ReturnsInHanded {} Try.checked os 10 .any ((Rows.OpenSpec.upto Rows.octetsOwnSpec).pre6 enc Try.prog Try.f10 Rows.octetsOwnUptoRow.domain false) (((Rows.OpenSpec.upto Rows.octetsOwnSpec).at F).post enc Try.prog Try.f10 false true false false) := by
  refine LK.lifted_upto (C := Try.checked) (s := Rows.OpenSpec.upto Rows.octetsOwnSpec) (k := Rows.uptoSmall) rfl (F := F) (s0 := Rows.octetsOwnSpec) (tb := 4) rfl own started (by kernel_rfl) Try.func10 laidOut rfl rfl rfl rfl (by kernel_rfl) (by kernel_rfl) Try.underlying4
    (fun ds h => by
      match ds, h with
      | [_, _], _ => rfl)
    (OpenSpec.witness (enc := enc) (C := Try.checked) (s := Rows.OpenSpec.upto Rows.octetsOwnSpec) (k := Rows.uptoSmall) rfl false ⟨#[], #[.slice none 0 0, .slice none 0 0], []⟩ 8 (by kernel_rfl) (by kernel_rfl) (by kernel_rfl)
      (x := ([.nil, .nil], [], [])) (by kernel_rfl) rfl (by kernel_rfl)) ?_
  intro W base args ds ps hval hA hwt hkk
  rw [show Try.f10.params.toList = [28, 34] by kernel_rfl] at hA hwt
  have hval' : ∀ (j : Nat) t v, (#[28, 34] : Array TypeId)[j]? = some t → args[j]? = some v → Value.okWide Try.prog W .any base t v := by
    rw [← Try.params10]; exact hval
  clear hval
  obtain ⟨v0, v1, d0, d1, p0, p1, rfl, rfl, rfl, h0, h1⟩ := trodAll_two hA
  obtain ⟨A0, c0, l0, rfl, hB0, hc0, hm0⟩ := open_bytes (hval' 0 28 v0 rfl rfl) h0 hwt (j := 0) rfl rfl
  obtain ⟨A1, c1, xs1, rfl, hT1, hc1, hm1, hF1, hk1⟩ := open_things (hval' 1 34 v1 rfl rfl) h1
  have hbulk : Rows.uptoBulkAll [d0, d1] ≤ 1048576 := of_decide_eq_true hkk
  have hroom : (things xs1).length ≤ 10485760 := by
    simp only [Rows.uptoBulkAll] at hbulk
    omega
  exact walk A0 c0 l0 A1 c1 xs1 W hB0 hc0 hm0 hT1 hc1 hm1 hF1 hroom

/-- The statement. -/
theorem proved : Rows.OctetsOwnUptoSaid :=
  OpenClaim.holds_of_cond 10 Try.f10 rfl rfl rfl rfl rfl rfl rfl ⟨rfl, rfl, rfl, rfl, rfl⟩ rfl rfl rfl rfl rfl (by kernel_rfl) Try.func10 (by kernel_rfl)
    (of_decide_eq_true (by kernel_rfl)) (by unfold Func.isWrapper; first | (rw [if_pos (by decide +kernel)]; kernel_rfl) | (rw [if_neg (by decide +kernel)]; exact ⟨rfl, rfl⟩))
    (fun os started H enc _ F => lifted os started H enc F)

end Go.Proofs.Ytgaimlmpfmbdoaa.lawOctetsOwn
