/- Splitting and joining give back what was taken apart, and a path with one more segment is covered by it; for every text, list and further text. -/
import Derived.Deep.DeepCutAuto
import Derived.Test.YtabilfjaiopemaaDoorPathsW5
import Derived.Test.YtabilfjaiopemaaDoorLawKit
import Derived.Test.YtabilfjaiopemaaDoorCards
import Derived.Test.YtabilfjaiopemaaDoorTie
import Derived.SevenTiedAt
namespace Go.Proofs.YtabilfjaiopemaaDoor.lawPathsBack
open Go Go.RowKit Go.ChangeShapes Go.WideShapes Go.ChangeAt
open Go.ChangeMaps (open_string shut_string)
open PM (str)
set_option linter.unusedVariables false

/-- The law's second half asks of the list alone: joining and splitting gives the segments back. -/
theorem jn_str (xs : List (List UInt8)) : (⟨(PM.jn xs).toArray⟩ : ByteArray).data.toList = PM.jn xs := bytes_data _

set_option maxHeartbeats 1000000 in
set_option maxRecDepth 100000 in
theorem walk (p : ByteArray) (A1 : Option Addr) (c1 : Nat) (xs : List (List UInt8)) (more : ByteArray) (w : World) (hp : p.size ≤ 140737488351232) (hS1 : StrsAt w A1 c1 xs) (hx1 : ∀ x ∈ xs, x.length ≤ 9223372036854775807)
    (k1 : c1 * 16 ≤ 140737488351232) (n1 : A1 = none → c1 = 0) (hm : more.size ≤ 140737488351232) (hw : HasMax w) :
    Calls Tryd.prog 7 #[.string p, .slice A1 xs.length c1, .string more] w (LK.True_ w) := by
  have hp' : p.size ≤ 9223372036854775807 := by omega
  obtain ⟨n, hn⟩ : ∃ n, xs.length = n := ⟨_, rfl⟩
  rw [hn]
  have hle : n ≤ c1 := by have := hS1.1; omega
  have HW := Lib.hid hw; have HS1 := Lib.hid hS1; have HX1 := Lib.hid hx1; have HN1 := Lib.hid n1; have HN := Lib.hid hn
  clear hw hS1 hx1 n1 hn
  go_enter Tryd.func7, Tryd.ntmps7
  go_wp2_with fail
  refine (awake_any _ HW.out).mono ?_
  rintro e w1 ⟨rfl, hb1⟩
  have HW1 := Lib.hid (HW.out.below hb1)
  by_cases ho : PM.okB p.data.toList = true
  · have HO := Lib.hid ho; clear ho
    have hjn : joinE (PM.segsOf p.data.toList) = .returned (.tuple #[.string p, .int .i64 0]) := by
      have h1 := HO.out
      rw [PM.okB_segs] at h1
      rw [joinE_ok h1, PM.jn_segsOf]; rfl
    have HJN := Lib.hid hjn; clear hjn
    have hvalid : ∀ w, Calls Tryd.prog 12 #[.string p] w fun e w' => e = .returned (.bool true) ∧ w = w' := fun w => by
      have := Valid_any p w hp'
      rw [HO.out] at this
      exact this
    have hdepth : ∀ w, Calls Tryd.prog 17 #[.string p] w fun e w' => e = .returned (.int .i64 ((PM.segsOf p.data.toList).length : Int)) ∧ w = w' := fun w => by
      have := Depth_any p w hp'
      rw [PM.depth_ok HO.out] at this
      exact this
    have HV := Lib.hid hvalid; have HD := Lib.hid hdepth; clear hvalid hdepth
    go_wp2_with fail
    refine (Split_ok p _ HW1.out HO.out).mono ?_
    rintro e w2 ⟨A, c, rfl, hS, hb2, hA, hc4⟩
    have hsl := segs_len HO.out
    obtain ⟨m, hm'⟩ : ∃ m, (PM.segsOf p.data.toList).length = m := ⟨_, rfl⟩
    rw [hm'] at HD
    have HSL := Lib.hid hsl
    have hm4 : m ≤ 4 := by rw [← hm']; exact hsl.1
    have hS0 := hS
    have HM := Lib.hid hm'; have HS := Lib.hid hS; have HA := Lib.hid hA
    clear hS hA hsl
    rw [hm']
    clear hm'
    have HJ : Hid (Calls Tryd.prog 19 #[.slice A m c] w2 fun e w' => e = .returned (.tuple #[.string p, .int .i64 0]) ∧ Below w2.heap.size w2 w') := Lib.hid (by
      have := Join_any A c _ w2 HS.out (fun x hx => by have := HSL.out.2 x hx; omega) (by rw [HM.out]; omega)
      rw [HM.out, HJN.out] at this
      exact this)
    clear hS0
    go_wp2_with fail
    refine (HV.out _).mono ?_
    rintro e w' ⟨rfl, rfl⟩
    go_wp2_with fail
    refine HJ.out.mono ?_; rintro e w3 ⟨rfl, hb3⟩
    go_wp2_with fail
    refine (HD.out _).mono ?_; rintro e w' ⟨rfl, rfl⟩
    go_upto_region 10 with (fail)
    have HB3 := Lib.hid ((hb1.on hb2).on hb3)
    have HS3 := Lib.hid ((HS.out.below hb3).below ((Below.refl _ w3).alloc (Nat.le_refl _) (.cells #[] 9)))
    have HS1' := Lib.hid (HS1.out.below HB3.out)
    clear hb1 hb2 hb3
    go_wp2_with (first
      | (at_builtin; refine app_strs rfl (.tmp 60) (.tmp 61) rfl w3.heap.size _ 0 [] rfl (own_lit0 w3) A c m (PM.segsOf p.data.toList) rfl HM.out HS3.out HA.out (by omega) (by rw [size_alloc]; omega) ?_; intro v4 w4 hown4 hgrow4; have HG4 := Lib.hid hgrow4; clear hgrow4)
      | (at_builtin; refine app_strs rfl (.tmp 62) (.tmp 64) rfl w3.heap.size _ (0 + m) _ rfl (hown4.alloc _) (some ⟨w4.heap.size, 0, none⟩) 1 1 [more.data.toList] rfl rfl (StrsAt.new w4 [more.data.toList] 1 (Nat.le_refl _)) (fun h => by cases h) (by omega) (by rw [size_alloc]; have := (grown_lit0 HG4.out).size; omega) ?_; intro v5 w5 hown5 hgrow5; obtain ⟨B5, c5, rfl⟩ := own_form hown5; have HG5 := Lib.hid hgrow5; clear hgrow5; have HO5 := Lib.hid hown5; clear hown5)
      | fail)
    have HB5 : Hid (Below w3.heap.size w3 w5) := Lib.hid (((grown_lit0 HG4.out).alloc (grown_lit0 HG4.out).size _).grown HG5.out (by rw [size_alloc]; have := (grown_lit0 HG4.out).size; omega) (fun k hk => (hown4.lt k hk).1))
    have HT5 : Hid (StrsAt w5 B5 c5 (PM.segsOf p.data.toList ++ [more.data.toList])) := Lib.hid (own_strs (n := m + 1) (by have := HO5.out; rw [Nat.zero_add, List.nil_append] at this; exact this) (by rw [List.length_append, HM.out]; rfl))
    have HJ5 := Lib.hid (Join_any B5 c5 _ w5 HT5.out (fun x hx => by
      rcases List.mem_append.1 hx with h | h
      · have := HSL.out.2 x h; omega
      · rw [List.mem_singleton] at h
        rw [h, len_toList]; omega) (by rw [List.length_append, HM.out]; simp only [List.length_cons, List.length_nil]; omega))
    have hlen5 : (PM.segsOf p.data.toList ++ [more.data.toList]).length = m + 1 := by rw [List.length_append, HM.out]; rfl
    rw [hlen5] at HJ5
    clear hlen5 hown4
    rcases hj : PM.segsB (PM.segsOf p.data.toList ++ [more.data.toList]) with _ | _
    · rw [joinE_no hj] at HJ5
      clear hj
      refine HJ5.out.mono ?_
      rintro e w9 ⟨rfl, hb6⟩
      have HB9 := Lib.hid ((HB3.out.on HB5.out).on hb6)
      clear hb6
      go_upto_region 13 with (fail)
      have HS9 := Lib.hid (HS1.out.below HB9.out)
      have HS9' := Lib.hid (HS9.out.below ((Below.refl _ w9).alloc (Nat.le_refl _) (.cells #[] 9)))
      have HW9 := Lib.hid (HW.out.below HB9.out)
      go_wp2_with (first
        | (at_builtin; refine app_strs rfl (.tmp 97) (.tmp 98) rfl w9.heap.size _ 0 [] rfl (own_lit0 w9) A1 c1 n xs rfl HN.out HS9'.out HN1.out (by omega) (by rw [size_alloc]; omega) ?_; intro v10 w10 hown10 hgrow10; obtain ⟨B10, c10, rfl⟩ := own_form hown10; have HG10 := Lib.hid hgrow10; clear hgrow10; have HO10 := Lib.hid hown10; clear hown10)
        | fail)
      have HB10 := Lib.hid (grown_lit0 HG10.out)
      have HT10 : Hid (StrsAt w10 B10 c10 xs) := Lib.hid (own_strs (n := n) (by have := HO10.out; rw [Nat.zero_add, List.nil_append] at this; exact this) HN.out)
      have HJ10 := Lib.hid (Join_any B10 c10 _ w10 HT10.out HX1.out (by rw [HN.out]; omega))
      rw [HN.out] at HJ10
      rcases hj : PM.segsB xs with _ | _
      · rw [joinE_no hj] at HJ10
        clear hj
        refine HJ10.out.mono ?_
        rintro e w11 ⟨rfl, hb11⟩
        go_wp2
        go_ret
        exact ⟨ret_bool (by decide), (HB9.out.on HB10.out).on hb11⟩
      · rw [joinE_ok hj] at HJ10
        unfold str at HJ10
        have q1 := PM.okB_jn _ hj
        have q2 := PM.segsOf_jn _ hj
        rw [← bytes_data (PM.jn xs)] at q1 q2
        clear hj
        have Q1 := Lib.hid q1; have Q2 := Lib.hid q2; clear q1 q2
        refine HJ10.out.mono ?_
        rintro e w11 ⟨rfl, hb11⟩
        go_wp2_with fail
        refine (Split_ok _ _ ((HW9.out.below HB10.out).below hb11) Q1.out).mono ?_
        rintro e w12 ⟨A12, c12, rfl, hS12, hb12, _, _⟩
        rw [Q2.out] at hS12 ⊢
        rw [HN.out]
        have HSM := Lib.hid (same_any A12 A1 c12 c1 xs xs w12 hS12 (((HS9.out.below HB10.out).below hb11).below hb12) (by rw [HN.out]; omega))
        rw [HN.out] at HSM
        clear hS12
        go_wp2_with fail
        refine HSM.out.mono ?_
        rintro e w13 ⟨rfl, hb13⟩
        go_wp2
        go_ret
        exact ⟨ret_bool (by simp), (((HB9.out.on HB10.out).on hb11).on hb12).on hb13⟩
    · rw [joinE_ok hj] at HJ5
      obtain ⟨e1, e2, e3, e4⟩ := PM.okB_ext p.data.toList more.data.toList HO.out hj
      have e5 := PM.okB_len _ (PM.okB_jn _ hj)
      obtain ⟨R, hR⟩ : ∃ R : ByteArray, R = ⟨(PM.jn (PM.segsOf p.data.toList ++ [more.data.toList])).toArray⟩ := ⟨_, rfl⟩
      have hRd : R.data.toList = PM.jn (PM.segsOf p.data.toList ++ [more.data.toList]) := by rw [hR]
      have hRs : R.size ≤ 9223372036854775807 := by rw [← len_toList, hRd]; omega
      rw [HM.out] at e3
      rw [← hRd] at e1 e2 e3 e4
      unfold str at HJ5
      rw [← hR] at HJ5
      clear hj hR hRd e5
      have D1 : Hid (∀ w, Calls Tryd.prog 23 #[.string p, .string R] w fun e w' => e = .returned (.bool true) ∧ w = w') := Lib.hid (fun w => by
        have := Covers_any p R w hp' hRs
        rw [e1] at this; exact this)
      have D2 : Hid (∀ w, Calls Tryd.prog 23 #[.string R, .string p] w fun e w' => e = .returned (.bool false) ∧ w = w') := Lib.hid (fun w => by
        have := Covers_any R p w hRs hp'
        rw [e2] at this; exact this)
      have D3 : Hid (∀ w, Calls Tryd.prog 17 #[.string R] w fun e w' => e = .returned (.int .i64 ((m : Int) + 1)) ∧ w = w') := Lib.hid (fun w => by
        have := Depth_any R w hRs
        rw [e3] at this; exact this)
      have D4 : Hid (∀ w, Calls Tryd.prog 27 #[.string p, .string R] w fun e w' => e = .returned (.int .i64 (-1)) ∧ w = w') := Lib.hid (fun w => by
        have := Compare_any p R w
        rw [e4] at this; exact this)
      clear e1 e2 e3 e4
      refine HJ5.out.mono ?_
      rintro e w9 ⟨rfl, hb6⟩
      have HB9 := Lib.hid ((HB3.out.on HB5.out).on hb6)
      clear hb6
      go_upto_region 13 with (first
        | (go_at_call 23; with_reducible refine (D1.out _).mono ?_; rintro e w' ⟨rfl, rfl⟩)
        | (go_at_call 23; with_reducible refine (D2.out _).mono ?_; rintro e w' ⟨rfl, rfl⟩)
        | (go_at_call 17; refine (D3.out _).mono ?_; rintro e w' ⟨rfl, rfl⟩)
        | (go_at_call 27; refine (D4.out _).mono ?_; rintro e w' ⟨rfl, rfl⟩))
      have HS9 := Lib.hid (HS1.out.below HB9.out)
      have HS9' := Lib.hid (HS9.out.below ((Below.refl _ w9).alloc (Nat.le_refl _) (.cells #[] 9)))
      have HW9 := Lib.hid (HW.out.below HB9.out)
      go_wp2_with (first
        | (at_builtin; refine app_strs rfl (.tmp 97) (.tmp 98) rfl w9.heap.size _ 0 [] rfl (own_lit0 w9) A1 c1 n xs rfl HN.out HS9'.out HN1.out (by omega) (by rw [size_alloc]; omega) ?_; intro v10 w10 hown10 hgrow10; obtain ⟨B10, c10, rfl⟩ := own_form hown10; have HG10 := Lib.hid hgrow10; clear hgrow10; have HO10 := Lib.hid hown10; clear hown10)
        | fail)
      have HB10 := Lib.hid (grown_lit0 HG10.out)
      have HT10 : Hid (StrsAt w10 B10 c10 xs) := Lib.hid (own_strs (n := n) (by have := HO10.out; rw [Nat.zero_add, List.nil_append] at this; exact this) HN.out)
      have HJ10 := Lib.hid (Join_any B10 c10 _ w10 HT10.out HX1.out (by rw [HN.out]; omega))
      rw [HN.out] at HJ10
      rcases hj : PM.segsB xs with _ | _
      · rw [joinE_no hj] at HJ10
        clear hj
        refine HJ10.out.mono ?_
        rintro e w11 ⟨rfl, hb11⟩
        go_wp2
        go_ret
        exact ⟨ret_bool (by decide), (HB9.out.on HB10.out).on hb11⟩
      · rw [joinE_ok hj] at HJ10
        unfold str at HJ10
        have q1 := PM.okB_jn _ hj
        have q2 := PM.segsOf_jn _ hj
        rw [← bytes_data (PM.jn xs)] at q1 q2
        clear hj
        have Q1 := Lib.hid q1; have Q2 := Lib.hid q2; clear q1 q2
        refine HJ10.out.mono ?_
        rintro e w11 ⟨rfl, hb11⟩
        go_wp2_with fail
        refine (Split_ok _ _ ((HW9.out.below HB10.out).below hb11) Q1.out).mono ?_
        rintro e w12 ⟨A12, c12, rfl, hS12, hb12, _, _⟩
        rw [Q2.out] at hS12 ⊢
        rw [HN.out]
        have HSM := Lib.hid (same_any A12 A1 c12 c1 xs xs w12 hS12 (((HS9.out.below HB10.out).below hb11).below hb12) (by rw [HN.out]; omega))
        rw [HN.out] at HSM
        clear hS12
        go_wp2_with fail
        refine HSM.out.mono ?_
        rintro e w13 ⟨rfl, hb13⟩
        go_wp2
        go_ret
        exact ⟨ret_bool (by simp), (((HB9.out.on HB10.out).on hb11).on hb12).on hb13⟩
  · have HO := Lib.hid (Bool.eq_false_iff.2 ho); clear ho
    have hvalid : ∀ w, Calls Tryd.prog 12 #[.string p] w fun e w' => e = .returned (.bool false) ∧ w = w' := fun w => by
      have := Valid_any p w hp'
      rw [HO.out] at this
      exact this
    have HV := Lib.hid hvalid; clear hvalid
    obtain ⟨w9, rfl⟩ : ∃ w9, w9 = w1 := ⟨_, rfl⟩
    have HB9 := Lib.hid hb1
    have HS1' := HS1
    clear hb1
    go_wp2_with fail
    refine (Split_no p _ hp' HO.out).mono ?_
    rintro e w2 ⟨rfl, rfl⟩
    go_upto_region 13 with (go_at_call 12; refine (HV.out _).mono ?_; rintro e w' ⟨rfl, rfl⟩)
    have HS9 := Lib.hid (HS1.out.below HB9.out)
    have HS9' := Lib.hid (HS9.out.below ((Below.refl _ w9).alloc (Nat.le_refl _) (.cells #[] 9)))
    have HW9 := Lib.hid (HW.out.below HB9.out)
    go_wp2_with (first
      | (at_builtin; refine app_strs rfl (.tmp 97) (.tmp 98) rfl w9.heap.size _ 0 [] rfl (own_lit0 w9) A1 c1 n xs rfl HN.out HS9'.out HN1.out (by omega) (by rw [size_alloc]; omega) ?_; intro v10 w10 hown10 hgrow10; obtain ⟨B10, c10, rfl⟩ := own_form hown10; have HG10 := Lib.hid hgrow10; clear hgrow10; have HO10 := Lib.hid hown10; clear hown10)
      | fail)
    have HB10 := Lib.hid (grown_lit0 HG10.out)
    have HT10 : Hid (StrsAt w10 B10 c10 xs) := Lib.hid (own_strs (n := n) (by have := HO10.out; rw [Nat.zero_add, List.nil_append] at this; exact this) HN.out)
    have HJ10 := Lib.hid (Join_any B10 c10 _ w10 HT10.out HX1.out (by rw [HN.out]; omega))
    rw [HN.out] at HJ10
    rcases hj : PM.segsB xs with _ | _
    · rw [joinE_no hj] at HJ10
      clear hj
      refine HJ10.out.mono ?_
      rintro e w11 ⟨rfl, hb11⟩
      go_wp2
      go_ret
      exact ⟨ret_bool (by decide), (HB9.out.on HB10.out).on hb11⟩
    · rw [joinE_ok hj] at HJ10
      unfold str at HJ10
      have q1 := PM.okB_jn _ hj
      have q2 := PM.segsOf_jn _ hj
      rw [← bytes_data (PM.jn xs)] at q1 q2
      clear hj
      have Q1 := Lib.hid q1; have Q2 := Lib.hid q2; clear q1 q2
      refine HJ10.out.mono ?_
      rintro e w11 ⟨rfl, hb11⟩
      go_wp2_with fail
      refine (Split_ok _ _ ((HW9.out.below HB10.out).below hb11) Q1.out).mono ?_
      rintro e w12 ⟨A12, c12, rfl, hS12, hb12, _, _⟩
      rw [Q2.out] at hS12 ⊢
      rw [HN.out]
      have HSM := Lib.hid (same_any A12 A1 c12 c1 xs xs w12 hS12 (((HS9.out.below HB10.out).below hb11).below hb12) (by rw [HN.out]; omega))
      rw [HN.out] at HSM
      clear hS12
      go_wp2_with fail
      refine HSM.out.mono ?_
      rintro e w13 ⟨rfl, hb13⟩
      go_wp2
      go_ret
      exact ⟨ret_bool (by simp), (((HB9.out.on HB10.out).on hb11).on hb12).on hb13⟩

theorem own : ownKnob Tryd.prog.godebug = none := by kernel_rfl
theorem laidOut : laidOutB Tryd.prog = true := by kernel_rfl
set_option maxRecDepth 100000 in
theorem lifted (os : Os) (started : os.Started) (H : Type) (enc : TypeId × Value → H) :
    ReturnsInHanded {} Tryd.checked os 7 .any (fun w args => (Rows.pathsBackSpec.pre enc Tryd.prog Tryd.f7 [] false w args ∧ laidMetH Tryd.prog Rows.pathsBackRow.laid w) ∧ sizedMet enc Tryd.prog Tryd.f7 (OpenSpec.ofChange Rows.pathsBackSpec) false w args)
      (Rows.pathsBackSpec.post enc Tryd.prog Tryd.f7 false true false false) := by
  refine LK.lifted_of_law (C := Tryd.checked) (laid := Rows.pathsBackRow.laid) (tb := 4) own started (by kernel_rfl) Tryd.func7 laidOut rfl (by kernel_rfl) (by kernel_rfl) Tryd.underlying4
    (fun ds h => by
      match ds, h with
      | [_, _, _], _ => rfl)
    (ChangeSpec.witness_shaped (enc := enc) (C := Tryd.checked) (os := os) (X := fun w _ => laidMetH Tryd.prog Rows.pathsBackRow.laid w) false (World.laidAll Tryd.prog os Rows.pathsBackRow.laid) #[.string ⟨#[]⟩, .slice none 0 0, .string ⟨#[]⟩] 8 (World.laidAll_os _ _ _)
      (World.shaped_of_ZipB (by kernel_rfl) (by kernel_rfl)) (by kernel_rfl) (by kernel_rfl) (by kernel_rfl)
      (by rw [MakeChecks.laidMetH_plain _ _ _ (by kernel_rfl)]; exact laidMet_laidAll _ (by kernel_rfl) (by kernel_rfl))) ?_
  intro W base args ds ps hval hA hwt hsh _
  rw [show Tryd.f7.params.toList = [9, 24, 9] by kernel_rfl] at hA hwt
  have hval' : ∀ (j : Nat) t v, (#[9, 24, 9] : Array TypeId)[j]? = some t → args[j]? = some v → Value.okWide Tryd.prog W .any base t v := by
    rw [← Tryd.params7]; exact hval
  clear hval
  obtain ⟨v0, v1, v2, d0, d1, d2, p0, p1, p2, rfl, rfl, rfl, h0, h1, h2⟩ := trodAll_three hA
  obtain ⟨s0, rfl, rfl, _, _⟩ := open_string Tryd.underlying9 (hval' 0 9 v0 rfl rfl) h0
  have k0 : s0.size ≤ 140737488351232 := sized_string hwt (j := 0) rfl rfl
  obtain ⟨A1, c1, xs1, rfl, hS1, hx1, k1, n1⟩ := open_texts (hval' 1 24 v1 rfl rfl) h1 hwt (j := 1) rfl rfl
  obtain ⟨s2, rfl, rfl, _, _⟩ := open_string Tryd.underlying9 (hval' 2 9 v2 rfl rfl) h2
  have k2 : s2.size ≤ 140737488351232 := sized_string hwt (j := 2) rfl rfl
  exact walk s0 A1 c1 xs1 s2 W k0 hS1 hx1 k1 n1 k2 (max_of hsh)

theorem over : Rows.pathsBackRow.holds Tryd.pinned (OpenSpec.ofChange Rows.pathsBackSpec) :=
  OpenClaim.holds_of_wide 7 Tryd.f7 rfl rfl rfl rfl rfl rfl rfl ⟨rfl, rfl, rfl, rfl, rfl⟩ rfl rfl rfl rfl rfl (by kernel_rfl) Tryd.func7 (by kernel_rfl)
    (of_decide_eq_true (by kernel_rfl)) (by unfold Func.isWrapper; first | (rw [if_pos (by decide +kernel)]; kernel_rfl) | (rw [if_neg (by decide +kernel)]; exact ⟨rfl, rfl⟩))
    (fun os started H enc _ => lifted os started H enc)

/-- The statement. -/
theorem proved : Rows.PathsBackCardSaid :=
  Claim7.holds_tied_plain_at .later [] Rows.pathsBackCard.laidKinds true Rows.pathsBackCard.stood.harness false
    over (fun _ h => by cases h) (by kernel_rfl) (fun _ h => by cases h) pathsBack_row_tie rfl ⟨rfl, rfl⟩ (by kernel_rfl) rfl
    (fun f fn hf hfn => by
      obtain rfl : f = 7 := Option.some.inj ((show Tryd.prog.funcNamed Rows.pathsBackRow.func = some 7 by kernel_rfl).symm.trans hf) |>.symm
      obtain rfl : fn = Tryd.f7 := (Option.some.inj (Tryd.func7.symm.trans hfn)).symm
      exact ⟨by kernel_rfl, fun j t ht => by
        rw [Tryd.params7] at ht
        have hm : t ∈ ([9, 24, 9] : List TypeId) := by simpa using Array.mem_of_getElem? ht
        have hall : (([9, 24, 9] : List TypeId).all fun u => !Tryd.prog.wantsStandIn u) = true := by kernel_rfl
        exact (show Tryd.prog.wantsStandIn t = false by simpa using List.all_eq_true.1 hall t hm)⟩)
    (by kernel_rfl)

end Go.Proofs.YtabilfjaiopemaaDoor.lawPathsBack
