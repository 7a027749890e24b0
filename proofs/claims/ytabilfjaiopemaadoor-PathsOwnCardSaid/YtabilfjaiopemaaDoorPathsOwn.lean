/- Lists that are handed in stay as they are, and lists that are answered share no memory; for every text and list. -/
import Derived.Deep.DeepCutAuto
import Derived.Test.YtabilfjaiopemaaDoorPathsW5
import Derived.Test.YtabilfjaiopemaaDoorLawKit
import Derived.Test.YtabilfjaiopemaaDoorCards
import Derived.Test.YtabilfjaiopemaaDoorTie
import Derived.SevenTiedAt
namespace Go.Proofs.YtabilfjaiopemaaDoor.lawPathsOwn
open Go Go.RowKit Go.ChangeShapes Go.WideShapes Go.ChangeAt
open Go.ChangeMaps (open_string shut_string)
open PM (str)
set_option linter.unusedVariables false

/-! ### rows of the call's own, kept while others are written -/
theorem own_below {w w' : World} {base : Nat} {e : TypeId} {v : Value} {n : Nat} {ys : List Value} (h : w.ownsRow base e 1 v n ys) (hb : Below w.heap.size w w') : w'.ownsRow base e 1 v n ys := by
  refine ⟨h.1, ?_⟩
  rcases h.2 with hn | ⟨g, cap, cur, rfl, hg0, hg, r⟩
  · exact .inl hn
  · exact .inr ⟨g, cap, cur, rfl, hg0, (hb.block g (Array.getElem?_eq_some_iff.1 hg).1).trans hg, r⟩
theorem own_far {w : World} {base : Nat} {e : TypeId} {v : Value} {n : Nat} {ys : List Value} (h : w.ownsRow base e 1 v n ys) {a : Addr} (ha : v.ownBlock ≠ some a.block) (u : Value) : (w.setCell a u).ownsRow base e 1 v n ys := by
  refine ⟨h.1, ?_⟩
  rcases h.2 with hn | ⟨g, cap, cur, rfl, hg0, hg, r⟩
  · exact .inl hn
  · exact .inr ⟨g, cap, cur, rfl, hg0, (Below.heap_setCell w a u g (fun e => ha (by rw [← e]; rfl))).trans hg, r⟩

/-- The segments of what is a path, and none of what is not. -/
def segsE (l : List UInt8) : List (List UInt8) := if PM.okB l = true then PM.segsOf l else []

theorem Split_own (p : ByteArray) (w : World) (hp : p.size ≤ 9223372036854775807) (hw : HasMax w) :
    Calls Tryd.prog 13 #[.string p] w fun e w' => ∃ X c E, e = .returned (.tuple #[.slice X (segsE p.data.toList).length c, .int .i64 E]) ∧
      w'.ownsRow w.heap.size 9 1 (.slice X (segsE p.data.toList).length c) (segsE p.data.toList).length ((segsE p.data.toList).map str) ∧ Below w.heap.size w w' := by
  by_cases ho : PM.okB p.data.toList = true
  · by_cases h0 : p.toList = []
    · refine (Split_nil p w h0 ho).mono ?_
      rintro e w' ⟨rfl, rfl⟩
      have h1 : p.data.toList = [] := by rw [← Lib.toList_data]; exact h0
      have : segsE p.data.toList = [] := by unfold segsE; rw [if_pos ho, PM.segsOf_nil_iff]; exact h1
      rw [this]
      exact ⟨none, 0, 0, rfl, World.ownsRow_nil _ _ _ _, Below.refl _ _⟩
    · refine (Split_some p w hw (by simpa using h0) ho).mono ?_
      rintro e w' ⟨rfl, rfl⟩
      have : segsE p.data.toList = PM.pcs [] p.data.toList := by
        unfold segsE PM.segsOf
        rw [if_pos ho, if_neg (by rw [← Lib.toList_data]; exact h0)]
      rw [this]
      refine ⟨_, _, _, rfl, ?_, (Below.refl _ _).alloc (Nat.le_refl _) _⟩
      have h4 := ((PM.okB_iff p.data.toList (by rw [← Lib.toList_data]; exact h0)).1 ho).1
      have := World.ownsRow_lit (base := w.heap.size) (e := 9) (size := 1) w ((PM.pcs [] p.data.toList).map str).toArray (PM.pcs [] p.data.toList).length (Nat.le_refl _) (by unfold maxLen; omega) (by simp)
      simpa using this
  · have ho' := Bool.eq_false_iff.2 ho
    refine (Split_no p w hp ho').mono ?_
    rintro e w' ⟨rfl, rfl⟩
    have : segsE p.data.toList = [] := by unfold segsE; rw [if_neg ho]
    rw [this]
    exact ⟨none, 0, 10, rfl, World.ownsRow_nil _ _ _ _, Below.refl _ _⟩

theorem RSplit_own (p : ByteArray) (w : World) (hp : p.size ≤ 140737488351232) :
    Calls Tryd.prog 14 #[.string p] w fun e w' => ∃ X c E, e = .returned (.tuple #[.slice X (segsE p.data.toList).length c, .int .i64 E]) ∧ StrsAt w' X c (segsE p.data.toList) ∧ Below w.heap.size w w' := by
  refine (RSplit_any p w hp).mono ?_
  rintro e w' ⟨hcase, hb⟩
  rcases hcase with ⟨ho, A, c, rfl, hS⟩ | ⟨ho, rfl⟩
  · have : segsE p.data.toList = PM.segsOf p.data.toList := by unfold segsE; rw [if_pos ho]
    rw [this]
    exact ⟨_, _, _, rfl, hS, hb⟩
  · have : segsE p.data.toList = [] := by unfold segsE; rw [ho]; rfl
    rw [this]
    exact ⟨none, 0, 10, rfl, StrsAt.nil _ _ _, hb⟩

theorem strs_pre {w : World} {A : Option Addr} {c : Nat} {xs ys : List (List UInt8)} (h : StrsAt w A c (xs ++ ys)) : StrsAt w A c xs :=
  ⟨by have := h.1; rw [List.length_append] at this; omega, fun h0 => by
    obtain ⟨b, o, e, hb, hc⟩ := h.2 (by rw [List.length_append]; omega)
    exact ⟨b, o, e, hb, fun j x hx => hc j x (by rw [List.getElem?_append_left (List.getElem?_eq_some_iff.1 hx).1]; exact hx)⟩⟩

set_option maxHeartbeats 1000000 in
set_option maxRecDepth 100000 in
theorem walk (p : ByteArray) (A1 : Option Addr) (c1 : Nat) (xs : List (List UInt8)) (w : World) (hp : p.size ≤ 140737488351232) (hS1 : StrsAt w A1 c1 xs) (hx1 : ∀ x ∈ xs, x.length ≤ 9223372036854775807)
    (k1 : c1 * 16 ≤ 140737488351232) (n1 : A1 = none → c1 = 0) (hw : HasMax w) :
    Calls Tryd.prog 10 #[.string p, .slice A1 xs.length c1] w (LK.True_ w) := by
  have hp' : p.size ≤ 9223372036854775807 := by omega
  obtain ⟨n, hn⟩ : ∃ n, xs.length = n := ⟨_, rfl⟩
  rw [hn]
  have hle : n ≤ c1 := by have := hS1.1; omega
  have HW := Lib.hid hw; have HS1 := Lib.hid hS1; have HX1 := Lib.hid hx1; have HN1 := Lib.hid n1; have HN := Lib.hid hn
  clear hw hS1 hx1 n1 hn
  go_enter Tryd.func10, Tryd.ntmps10
  go_wp2_with fail
  refine (awake_any _ HW.out).mono ?_
  rintro e w1 ⟨rfl, hb1⟩
  have HW1 := Lib.hid (HW.out.below hb1)
  have HSa := Lib.hid ((HS1.out.below hb1).below ((Below.refl _ w1).alloc (Nat.le_refl _) (.cells #[] 9)))
  go_upto_region 4 with (first
    | (at_builtin; refine app_strs rfl (.tmp 22) (.tmp 23) rfl w1.heap.size _ 0 [] rfl (own_lit0 w1) A1 c1 n xs rfl HN.out HSa.out HN1.out (by omega) (by rw [size_alloc]; omega) ?_; intro v2 w2 hown2 hgrow2; have HG2 := Lib.hid hgrow2; clear hgrow2)
    | (at_builtin; refine app_strs rfl (.tmp 24) (.tmp 25) rfl w1.heap.size _ (0 + n) _ rfl (hown2.alloc _) (some ⟨w2.heap.size, 0, none⟩) 1 1 [[115, 112, 97, 114, 101]] rfl rfl (StrsAt.new w2 [[115, 112, 97, 114, 101]] 1 (Nat.le_refl _)) (fun h => by cases h) (by omega) (by rw [size_alloc]; have := (grown_lit0 HG2.out).size; omega) ?_; intro v3 w3 hown3 hgrow3; have HG3 := Lib.hid hgrow3; clear hgrow3)
    | fail)
  have HB3 : Hid (Below w.heap.size w w3) := Lib.hid (hb1.on (((grown_lit0 HG2.out).alloc (grown_lit0 HG2.out).size _).grown HG3.out (by rw [size_alloc]; have := (grown_lit0 HG2.out).size; omega) (fun k hk => (hown2.lt k hk).1)))
  rw [Nat.zero_add, List.nil_append] at hown3
  obtain ⟨g, cap, rfl, hcap, hc⟩ : ∃ g cap, v3 = .slice (some ⟨g, 0, none⟩) (n + 1) cap ∧ n + 1 ≤ cap ∧ cap ≤ 9223372036854775807 := by
    rcases hown3.2 with ⟨_, h⟩ | ⟨g, cap, cur, rfl, _, _, h1, h2, _⟩
    · omega
    · exact ⟨g, cap, rfl, h1, h2⟩
  have hSS := own_strs hown3 (by rw [List.length_append, HN.out]; rfl)
  have HSx := Lib.hid (strs_pre hSS)
  have hsp : w3.cell? ⟨g, n, none⟩ = some (.string ⟨#[115, 112, 97, 114, 101]⟩) := by
    obtain ⟨b, o, e, _, h⟩ := hSS.2 (by rw [List.length_append, HN.out]; exact Nat.succ_pos _)
    cases e
    have := h n [115, 112, 97, 114, 101] (by rw [List.getElem?_append_right (by rw [HN.out]; exact Nat.le_refl _), HN.out, Nat.sub_self]; rfl)
    rw [Nat.zero_add] at this
    exact this
  have hglt : g < w3.heap.size := World.block_lt_of_cell? _ _ hsp
  have HSP := Lib.hid hsp
  clear hsp hSS hown2 hown3 HG2 HG3 hb1
  have HJ := Lib.hid (Join_any (some ⟨g, 0, none⟩) cap xs w3 HSx.out HX1.out (by rw [HN.out]; omega))
  rw [HN.out] at HJ
  obtain ⟨P, E, hPE⟩ : ∃ (P : ByteArray) (E : Int), joinE xs = .returned (.tuple #[.string P, .int .i64 E]) := by
    unfold joinE
    split
    · exact ⟨_, _, rfl⟩
    · exact ⟨_, _, rfl⟩
  rw [hPE] at HJ
  have HPE := Lib.hid hPE; clear hPE
  go_wp2_with fail
  refine HJ.out.mono ?_
  rintro e w4 ⟨rfl, hb4⟩
  have HB4 := Lib.hid (HB3.out.on hb4)
  have HSM := Lib.hid (same_any (some ⟨g, 0, none⟩) A1 cap c1 xs xs w4 (HSx.out.below hb4) (HS1.out.below HB4.out) (by rw [HN.out]; omega))
  rw [HN.out] at HSM
  have HSP4 := Lib.hid ((hb4.cell (p := ⟨g, n, none⟩) hglt).trans HSP.out)
  clear hb4
  go_wp2_with fail
  refine HSM.out.mono ?_
  rintro e w5 ⟨rfl, hb5⟩
  have HB5 := Lib.hid (HB4.out.on hb5)
  have hcell : w5.cell? ⟨g, n, none⟩ = some (.string ⟨#[115, 112, 97, 114, 101]⟩) := (hb5.cell (p := ⟨g, n, none⟩) (World.block_lt_of_cell? _ _ HSP4.out)).trans HSP4.out
  have HR := Lib.hid (RJoin_any A1 c1 xs w5 (HS1.out.below HB5.out) HX1.out (by rw [HN.out]; omega))
  rw [HN.out, HPE.out] at HR
  clear hb5
  go_wp2_with fail
  refine HR.out.mono ?_
  rintro e w6 ⟨rfl, hb6⟩
  have HB6 := Lib.hid (HB5.out.on hb6)
  have HW6 := Lib.hid (HW.out.below HB6.out)
  clear hb6 hcell
  go_wp2_with fail
  refine (Split_own p _ hp' HW6.out).mono ?_
  rintro e w7 ⟨X, cx, E7, rfl, hX, hb7⟩
  have HW7 := Lib.hid (HW6.out.below hb7)
  generalize hm : (segsE p.data.toList).length = m at hX ⊢
  have HX := Lib.hid hX; have HM := Lib.hid hm; clear hX hm
  go_wp2_with fail
  refine (Split_own p _ hp' HW7.out).mono ?_
  rintro e w8 ⟨Y, cy, E8, rfl, hY, hb8⟩
  rw [HM.out] at hY ⊢
  have HY := Lib.hid hY
  have HX8 := Lib.hid (own_below HX.out hb8)
  have HB8 := Lib.hid ((HB6.out.on hb7).on hb8)
  have hsz : w6.heap.size ≤ w7.heap.size := hb7.size
  have hsz2 : w7.heap.size ≤ w8.heap.size := hb8.size
  have hsz3 : w.heap.size ≤ w6.heap.size := HB6.out.size
  have HXlt : Hid (∀ k, (Value.slice X m cx).ownBlock = some k → w6.heap.size ≤ k ∧ k < w7.heap.size) := Lib.hid (fun k hk => HX.out.lt k hk)
  have hm4 : m ≤ 4 := by
    rw [← HM.out]
    unfold segsE
    by_cases h : PM.okB p.data.toList = true
    · rw [if_pos h]; exact (segs_len h).1
    · rw [if_neg h]; simp
  clear hY hb7 hb8
  go_wp2_with fail
  go_loopw [75] (fun i wr => ∃ (k : Nat) (ys : List Value), k ≤ m ∧ i = .int .i64 k ∧ wr.ownsRow w6.heap.size 9 1 (.slice X m cx) m ys ∧ wr.ownsRow w7.heap.size 9 1 (.slice Y m cy) m ((segsE p.data.toList).map str) ∧ Below w.heap.size w wr ∧ w8.heap.size ≤ wr.heap.size) (fun i _ => m - (intOf i).toNat)
  case atStart => exact ⟨0, _, Nat.zero_le _, rfl, HX8.out, HY.out, HB8.out, Nat.le_refl _⟩
  case round =>
    obtain ⟨k, ys, hk, rfl, hX, hY, hbel, hgr⟩ := hrel
    by_cases hlt : k < m
    · obtain ⟨g1, rfl⟩ : ∃ g1, X = some ⟨g1, 0, none⟩ := by
        rcases hX.2 with ⟨_, h⟩ | ⟨g', cap', cur, h, _⟩
        · omega
        · cases h; exact ⟨_, rfl⟩
      have hlt1 := HXlt.out g1 rfl
      have hyl : ys.length = m := by have := hX.1; omega
      have hcell := hX.cellAt k (by omega)
      obtain ⟨u, hu⟩ : ∃ u, ys[k]? = some u := ⟨ys[k]'(by omega), List.getElem?_eq_getElem _⟩
      rw [hu] at hcell
      have HU := Lib.hid hu; clear hu
      have hfr := hX.frozenAt k
      have hst := (hX.stored k (.string ⟨#[120]⟩)).1
      have hY' := own_far hY (a := ⟨g1, k, none⟩) (fun e => by have h9 : w7.heap.size ≤ g1 := (hY.lt g1 e).1; omega) (.string ⟨#[120]⟩)
      have hbel' := hbel.setCell (p := ⟨g1, k, none⟩) (by show w.heap.size ≤ g1; omega) (.string ⟨#[120]⟩)
      have HST := Lib.hid hst; have HY' := Lib.hid hY'; have HBE := Lib.hid hbel'
      clear hst hY' hbel' hX hY hbel hyl
      go_wp2_with fail
      go_roundw
      case rel => exact ⟨k + 1, _, by omega, by go_num, HST.out, HY'.out, HBE.out, by simpa [World.setCell] using hgr⟩
      case measure => simp [intOf]; omega
    · have hkm : k = m := by omega
      subst hkm
      go_wp2_with fail
      go_loopw [10, 15] (fun v i wx => ∃ (j : Nat) (ys : List Value), j ≤ 8 ∧ i = .int .i64 j ∧ wx.ownsRow w6.heap.size 9 1 v (k + j) ys ∧ Hid (∀ b, v.ownBlock = some b → (Value.slice Y k cy).ownBlock ≠ some b) ∧ wx.ownsRow w7.heap.size 9 1 (.slice Y k cy) k ((segsE p.data.toList).map str) ∧ Below w.heap.size w wx ∧ w8.heap.size ≤ wx.heap.size) (fun _ i _ => 8 - (intOf i).toNat)
      case atStart => exact ⟨0, ys, by omega, rfl, hX, Lib.hid (fun b hb e => by have h1 := HXlt.out b hb; have h2 := (hY.lt b e).1; omega), hY, hbel, hgr⟩
      case round =>
        obtain ⟨j, ys', hj, rfl, hX', HD, hY', hbel', hgr'⟩ := hrel
        by_cases hlt2 : j < 8
        · obtain ⟨i0, hi, hz0, hz1, hz2⟩ := info_parts info_str
          have HX' := Lib.hid hX'; have HY' := Lib.hid hY'; have HBE := Lib.hid hbel'
          clear hX' hY' hbel' hX hY hbel
          go_wp2_with (at_builtin; refine wpList_append_own_at _ rfl (.tmp 86) (.tmp 87) 24 rfl w6.heap.size 9 i0 (.string ⟨#[]⟩) 1 16 Tryd.underlying24 hi hz0 hz1 hz2 rfl (by decide) _ (k + j) ys' rfl (HX'.out.alloc _) ⟨wr.heap.size, 0, none⟩ 1 1 [.string ⟨#[103, 114, 111, 119, 110]⟩] rfl rfl (cell_one_new _ _ _) one_str (by unfold maxLen; omega) (by omega) (by rw [size_alloc]; omega) ?_; intro v9 w9 hown9 hgrow9 _ hat9)
          have HX9 := Lib.hid hown9; have HG9 := Lib.hid hgrow9; have HA9 := Lib.hid hat9
          clear hown9 hgrow9 hat9
          go_roundw
          case rel =>
            refine ⟨j + 1, _, by omega, by go_num, HX9.out, Lib.hid ?_, ?_, ?_, ?_⟩
            · intro b hb e
              rcases HA9.out with h | h
              · rw [h] at hb
                exact HD.out b hb e
              · rw [h] at hb
                have h2 := (HY'.out.lt b e).2
                cases hb
                rw [size_alloc] at h2
                omega
            · refine (HY'.out.alloc _).kept HG9.out ?_
              rcases hv : (Value.slice Y k cy).ownBlock with _ | b
              · exact Or.inl rfl
              · refine Or.inr (fun e => ?_)
                exact HD.out b e.symm hv
            · exact (HBE.out.alloc (by omega) _).grown HG9.out (by rw [size_alloc]; omega) (fun b hb => by have := (HX'.out.lt b hb).1; omega)
            · have := HG9.out.size
              rw [size_alloc] at this
              omega
          case measure => simp [intOf]; omega
        · have hj8 : j = 8 := by omega
          subst hj8
          have HW9 := Lib.hid (HW.out.below hbel')
          have HBE := Lib.hid hbel'; have HY' := Lib.hid hY'
          clear hbel' hX' hX hY hY' hbel
          go_wp2_with fail
          refine (Split_own p _ hp' HW9.out).mono ?_
          rintro e wa ⟨Z, cz, E9, rfl, hZ, hba⟩
          have HYa := Lib.hid (own_below HY'.out hba)
          have HBa := Lib.hid (HBE.out.on hba)
          rw [HM.out] at hZ ⊢
          have HZ := Lib.hid hZ
          clear hZ hba
          go_wp2_with fail
          refine (RSplit_own p _ hp).mono ?_
          rintro e wb ⟨L, cl, E10, rfl, hL, hbb⟩
          have HYb := Lib.hid (own_strs (own_below HYa.out hbb) HM.out)
          have HZb := Lib.hid (own_strs (own_below HZ.out hbb) HM.out)
          have HL := Lib.hid hL
          have HBb := Lib.hid (HBa.out.on hbb)
          have HS1 := Lib.hid (same_any Y L cy cl _ _ wb HYb.out HL.out (by rw [HM.out]; omega))
          rw [HM.out] at HS1 ⊢
          clear hL hbb
          go_wp2_with fail
          refine HS1.out.mono ?_
          rintro e wc ⟨rfl, hbc⟩
          have HS2 := Lib.hid (same_any Z L cz cl _ _ wc (HZb.out.below hbc) (HL.out.below hbc) (by rw [HM.out]; omega))
          rw [HM.out] at HS2
          have HBc := Lib.hid (HBb.out.on hbc)
          clear hbc
          go_wp2_with (go_at_call 15; refine HS2.out.mono ?_; rintro e wd ⟨rfl, hbd⟩)
          go_ret
          exact ⟨ret_bool (by simp), HBc.out.on hbd⟩

theorem own : ownKnob Tryd.prog.godebug = none := by kernel_rfl
theorem laidOut : laidOutB Tryd.prog = true := by kernel_rfl
set_option maxRecDepth 100000 in
theorem lifted (os : Os) (started : os.Started) (H : Type) (enc : TypeId × Value → H) :
    ReturnsInHanded {} Tryd.checked os 10 .any (fun w args => (Rows.pathsOwnSpec.pre enc Tryd.prog Tryd.f10 [] false w args ∧ laidMetH Tryd.prog Rows.pathsOwnRow.laid w) ∧ sizedMet enc Tryd.prog Tryd.f10 (OpenSpec.ofChange Rows.pathsOwnSpec) false w args)
      (Rows.pathsOwnSpec.post enc Tryd.prog Tryd.f10 false true false false) := by
  refine LK.lifted_of_law (C := Tryd.checked) (laid := Rows.pathsOwnRow.laid) (tb := 4) own started (by kernel_rfl) Tryd.func10 laidOut rfl (by kernel_rfl) (by kernel_rfl) Tryd.underlying4
    (fun ds h => by
      match ds, h with
      | [_, _], _ => rfl)
    (ChangeSpec.witness_shaped (enc := enc) (C := Tryd.checked) (os := os) (X := fun w _ => laidMetH Tryd.prog Rows.pathsOwnRow.laid w) false (World.laidAll Tryd.prog os Rows.pathsOwnRow.laid) #[.string ⟨#[]⟩, .slice none 0 0] 8 (World.laidAll_os _ _ _)
      (World.shaped_of_ZipB (by kernel_rfl) (by kernel_rfl)) (by kernel_rfl) (by kernel_rfl) (by kernel_rfl)
      (by rw [MakeChecks.laidMetH_plain _ _ _ (by kernel_rfl)]; exact laidMet_laidAll _ (by kernel_rfl) (by kernel_rfl))) ?_
  intro W base args ds ps hval hA hwt hsh _
  rw [show Tryd.f10.params.toList = [9, 24] by kernel_rfl] at hA hwt
  have hval' : ∀ (j : Nat) t v, (#[9, 24] : Array TypeId)[j]? = some t → args[j]? = some v → Value.okWide Tryd.prog W .any base t v := by
    rw [← Tryd.params10]; exact hval
  clear hval
  obtain ⟨v0, v1, d0, d1, p0, p1, rfl, rfl, rfl, h0, h1⟩ := trodAll_two hA
  obtain ⟨s0, rfl, rfl, _, _⟩ := open_string Tryd.underlying9 (hval' 0 9 v0 rfl rfl) h0
  have k0 : s0.size ≤ 140737488351232 := sized_string hwt (j := 0) rfl rfl
  obtain ⟨A1, c1, xs1, rfl, hS1, hx1, k1, n1⟩ := open_texts (hval' 1 24 v1 rfl rfl) h1 hwt (j := 1) rfl rfl
  exact walk s0 A1 c1 xs1 W k0 hS1 hx1 k1 n1 (max_of hsh)

theorem over : Rows.pathsOwnRow.holds Tryd.pinned (OpenSpec.ofChange Rows.pathsOwnSpec) :=
  OpenClaim.holds_of_wide 10 Tryd.f10 rfl rfl rfl rfl rfl rfl rfl ⟨rfl, rfl, rfl, rfl, rfl⟩ rfl rfl rfl rfl rfl (by kernel_rfl) Tryd.func10 (by kernel_rfl)
    (of_decide_eq_true (by kernel_rfl)) (by unfold Func.isWrapper; first | (rw [if_pos (by decide +kernel)]; kernel_rfl) | (rw [if_neg (by decide +kernel)]; exact ⟨rfl, rfl⟩))
    (fun os started H enc _ => lifted os started H enc)

/-- The statement. -/
theorem proved : Rows.PathsOwnCardSaid :=
  Claim7.holds_tied_plain_at .later [] Rows.pathsOwnCard.laidKinds true Rows.pathsOwnCard.stood.harness false
    over (fun _ h => by cases h) (by kernel_rfl) (fun _ h => by cases h) pathsOwn_row_tie rfl ⟨rfl, rfl⟩ (by kernel_rfl) rfl
    (fun f fn hf hfn => by
      obtain rfl : f = 10 := Option.some.inj ((show Tryd.prog.funcNamed Rows.pathsOwnRow.func = some 10 by kernel_rfl).symm.trans hf) |>.symm
      obtain rfl : fn = Tryd.f10 := (Option.some.inj (Tryd.func10.symm.trans hfn)).symm
      exact ⟨by kernel_rfl, fun j t ht => by
        rw [Tryd.params10] at ht
        have hm : t ∈ ([9, 24] : List TypeId) := by simpa using Array.mem_of_getElem? ht
        have hall : (([9, 24] : List TypeId).all fun u => !Tryd.prog.wantsStandIn u) = true := by kernel_rfl
        exact (show Tryd.prog.wantsStandIn t = false by simpa using List.all_eq_true.1 hall t hm)⟩)
    (by kernel_rfl)

end Go.Proofs.YtabilfjaiopemaaDoor.lawPathsOwn
