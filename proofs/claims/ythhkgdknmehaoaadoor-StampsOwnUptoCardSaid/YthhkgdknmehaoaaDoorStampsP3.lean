/- The package's Parse: the stamp of a text. -/
import Derived.Test.YthhkgdknmehaoaaDoorStampsP2
import Derived.Test.YthhkgdknmehaoaaDoorStampsW7
namespace Go.Proofs.YthhkgdknmehaoaaDoor
open Go.RowKit
set_option linter.unusedVariables false
set_option maxRecDepth 100000
/-- The text's pieces, as the library lays them down. -/
structure Parts (w : World) (t : ByteArray) (ps : List ByteArray) (c : Nat) (w' : World) : Prop where
  are : ps.map (·.data.toList) = SM.pieces t.data.toList
  five : ps.length ≤ 5
  cap : ps.length ≤ c ∧ c ≤ 5
  small : ∀ p ∈ ps, p.size ≤ t.size
  cells : ∀ j p, ps[j]? = some p → w'.cell? ⟨w.heap.size, j, none⟩ = some (.string p)
  more : w.heap.size < w'.heap.size
  below : Below w.heap.size w w'
theorem split_any (t : ByteArray) (w : World) (hT : Tabs w) (ht : t.size < 4294967281) :
    Calls Tryd.prog 34 #[.string t, .string ⟨#[46]⟩, .int .i64 5] w fun e w' => ∃ ps c, e = .returned (.slice (some ⟨w.heap.size, 0, none⟩) ps.length c) ∧ Parts w t ps c w' := by
  obtain ⟨m, hm⟩ := hT.most
  have H := Tryd.strings_SplitN t ⟨#[46]⟩ 5 m w ht hm (Nat.le_refl 1) (by omega) (by omega)
  refine Calls.mono (show Calls Tryd.prog 34 #[.string t, .string ⟨#[46]⟩, .int .i64 5] w _ from H) ?_
  rintro e w' ⟨rfl, rfl⟩
  have hlen := Lib.splitB_length_le ⟨#[46]⟩ 0 (min 5 (t.size + 1) - 1) t
  have hare : (Lib.splitB ⟨#[46]⟩ 0 (min 5 (t.size + 1) - 1) t).map (·.data.toList) = SM.pieces t.data.toList := by
    rw [Lib.splitB_data]
    unfold SM.pieces
    rw [Array.length_toList]
    rfl
  generalize Lib.splitB ⟨#[46]⟩ 0 (min 5 (t.size + 1) - 1) t = ps at *
  refine ⟨ps, _, rfl, hare, by omega, ⟨by omega, by omega⟩, fun p hp => ?_, fun j p hj => ?_, ?_, (Below.refl _ w).alloc (Nat.le_refl _) _⟩
  · have h1 : p.data.toList ∈ SM.pieces t.data.toList := by
      rw [← hare]
      exact List.mem_map_of_mem (f := fun x : ByteArray => x.data.toList) hp
    have h2 := SM.piece_le h1
    rw [Array.length_toList, Array.length_toList] at h2
    exact h2
  · rw [World.cell?_alloc_new]
    unfold Lib.cellsOf
    have hlt := (List.getElem?_eq_some_iff.1 hj).1
    rw [List.getElem?_toArray, List.getElem?_append_left (by simpa using hlt), List.getElem?_map, hj]
    rfl
  · rw [World.size_alloc]
    omega
theorem atoi_ok {p : ByteArray} {v : Int} (h : Lib.atoiAll p.data.toList = .ok v) (hl : p.size ≤ 281474976710656) (w : World) :
    Calls Tryd.prog 35 #[.string p] w fun e w' => e = .returned (.tuple #[.int .i64 v, .nilIface]) ∧ Below w.heap.size w w' := by
  refine (Tryd.strconv_Atoi_ok p (by omega) v h w).mono ?_
  rintro e w' ⟨rfl, rfl | ⟨t, rfl⟩⟩
  · exact ⟨rfl, Below.refl _ _⟩
  · exact ⟨rfl, Lib.bytesWorld_below _ _ _⟩
theorem atoi_no {p : ByteArray} (h : ∀ v, Lib.atoiAll p.data.toList ≠ .ok v) (hl : p.size ≤ 281474976710656) (w : World) (hT : Tabs w) :
    Calls Tryd.prog 35 #[.string p] w fun e w' => ∃ (x : Int) (T : TypeId) (v : Value), e = .returned (.tuple #[.int .i64 x, .iface T v]) ∧ Below w.heap.size w w' := by
  obtain ⟨t1, p1, h1⟩ := hT.bad
  obtain ⟨t2, p2, h2⟩ := hT.big
  cases he : Lib.atoiAll p.data.toList with
  | ok v => exact absurd he (h v)
  | _ =>
    first
      | exact (Any.strconv_Atoi_range_var Tryd.laysC172 p hl he t2 p2 w h2).mono (fun e w' ⟨N, e1, _, _, hb⟩ => ⟨_, _, _, e1, hb⟩)
      | exact (Any.strconv_Atoi_syntax_var Tryd.laysC172 p hl he t1 p1 w h1).mono (fun e w' ⟨N, e1, _, _, hb⟩ => ⟨_, _, _, e1, hb⟩)
/-- The numbers read so far. -/
def ReadTo (ps : List ByteArray) (k : Nat) (xs : List Int) : Prop := (ps.take k).map (fun p => Lib.atoiAll p.data.toList) = xs.map Lib.NumEnd.ok
theorem ReadTo.zero (ps : List ByteArray) : ReadTo ps 0 [] := by unfold ReadTo; rw [List.take_zero]; rfl
theorem ReadTo.len {ps : List ByteArray} {k : Nat} {xs : List Int} (h : ReadTo ps k xs) (hk : k ≤ ps.length) : xs.length = k := by
  have e := congrArg List.length h
  rw [List.length_map, List.length_map, List.length_take] at e
  omega
theorem ReadTo.more {ps : List ByteArray} {k : Nat} {xs : List Int} {v : Int} (h : ReadTo ps k xs) (hk : k < ps.length) (hv : Lib.atoiAll ps[k].data.toList = .ok v) : ReadTo ps (k + 1) (xs ++ [v]) := by
  unfold ReadTo at *
  rw [List.take_add_one, List.getElem?_eq_getElem hk, Option.toList_some, List.map_append, List.map_append, h, List.map_singleton, List.map_singleton, hv]
theorem ReadTo.all {ps : List ByteArray} {k : Nat} {xs : List Int} {t : List UInt8} (h : ReadTo ps k xs) (hk : ¬ k < ps.length) (hp : ps.map (·.data.toList) = SM.pieces t) : (SM.pieces t).map Lib.atoiAll = xs.map Lib.NumEnd.ok := by
  unfold ReadTo at h
  rw [List.take_of_length_le (by omega)] at h
  rw [← hp, List.map_map, ← h]
  rfl
set_option maxHeartbeats 8000000 in
theorem Parse_any (t : ByteArray) (w : World) (hT : Tabs w) (ht : t.size ≤ 4294967280) :
    Calls Tryd.prog 26 #[.string t] w fun e w' => ∃ v, e = .returned (.tuple #[v, .int .i64 (SM.parse t.data.toList).2]) ∧ Grew w (SM.parse t.data.toList).1 v w' := by
  have KT := Lib.hid hT; clear hT
  by_cases h45 : t.toList = [45]
  · have HE := Lib.hid (show SM.parse t.data.toList = ([], 0) by rw [← Lib.toList_data, h45]; rfl)
    go_enter Tryd.func26, Tryd.ntmps26
    go_wp2_with fail
    go_ret2
    exact ⟨_, two_back rfl (by rw [HE.out]), by rw [HE.out]; exact Grew.nil w⟩
  · have H45 := Lib.hid (show t.data.toList ≠ [45] by rw [← Lib.toList_data]; exact h45)
    have hd45 : (t.toList == [45]) = false := by simpa using h45
    clear h45
    go_enter Tryd.func26, Tryd.ntmps26
    go_wp2_with fail
    refine (split_any t w KT.out (by omega)).mono ?_
    rintro e w1 ⟨ps, cp, rfl, hP⟩
    have HP := Lib.hid hP
    obtain ⟨hc1, hc2⟩ := hP.cap
    have h5 := hP.five
    clear hP
    go_wp2_with fail
    generalize hpl : ps.length = pl at *
    have HPL := Lib.hid hpl; clear hpl
    go_loopw [4, 14] (fun v i wx => ∃ (k : Nat) (xs : List Int), i = .int .i64 (k : Int) ∧ k ≤ pl ∧ Hid (ReadTo ps k xs) ∧ Grew w1 xs v wx) (fun _ i _ => pl - (intOf i).toNat)
    case atStart => exact ⟨0, [], rfl, by omega, Lib.hid (ReadTo.zero ps), Grew.nil w1⟩
    case round =>
      obtain ⟨k, xs, rfl, hk, HR, hG⟩ := hrel
      have hxl : xs.length = k := HR.out.len (by rw [HPL.out]; exact hk)
      have HG := Lib.hid hG; clear hG
      by_cases hlt : k < pl
      · have g1 : k < ps.length := by rw [HPL.out]; exact hlt
        have hp0 := HP.out.cells k ps[k] (List.getElem?_eq_getElem g1)
        have cp0 : wr.cell? ⟨w.heap.size, k, none⟩ = some (.string ps[k]) := (HG.out.2.cell (p := ⟨w.heap.size, k, none⟩) HP.out.more).trans hp0
        have hsz : ps[k].size ≤ 281474976710656 := by
          have := HP.out.small ps[k] (List.getElem_mem g1)
          omega
        clear hp0
        by_cases hok : ∃ v, Lib.atoiAll ps[k].data.toList = .ok v
        · obtain ⟨v, hv⟩ := hok
          have HS := Lib.hid (HR.out.more g1 hv)
          have HQ := Lib.hid (fun w => atoi_ok hv hsz w)
          clear hv hsz
          generalize ps[k] = p at cp0 HQ
          clear g1
          go_wp2_with fail
          refine (HQ.out _).mono ?_
          rintro e w2 ⟨rfl, hb⟩
          have HG1 := Lib.hid (HG.out.keep hb); clear hb
          go_wp2_with (at_builtin; refine app_one rfl (.tmp 25) (.tmp 27) rfl _ _ HG1.out rfl v rfl (by omega) ?_; intro v2 w3 hg2; have HG2 := Lib.hid hg2; clear hg2)
          go_roundw
          case rel => exact ⟨k + 1, xs ++ [v], rfl, by omega, HS, HG2.out⟩
          case measure => simp only [intOf]; omega
        · have hno : ∀ v, Lib.atoiAll ps[k].data.toList ≠ .ok v := fun v h => hok ⟨v, h⟩
          have hpk : (SM.pieces t.data.toList)[k]? = some ps[k].data.toList := by
            rw [← HP.out.are, List.getElem?_map, List.getElem?_eq_getElem g1]
            rfl
          have HE := Lib.hid (SM.parse_bad H45.out hpk hno)
          have HQ := Lib.hid (fun w hT => atoi_no hno hsz w hT)
          clear hpk hno hok hsz
          generalize ps[k] = p at cp0 HQ
          clear g1
          go_wp2_with fail
          refine (HQ.out _ (KT.out.below (HP.out.below.trans (HG.out.2.mono HP.out.below.size)))).mono ?_
          rintro e w2 ⟨x, T, v, rfl, hb⟩
          have HB := Lib.hid ((HP.out.below.trans (HG.out.2.mono HP.out.below.size)).trans (hb.mono (Nat.le_trans HP.out.below.size HG.out.2.size))); clear hb
          go_wp2_with fail
          go_ret2
          exact ⟨_, two_back rfl (by rw [HE.out]), by rw [HE.out]; exact grew_none HB.out⟩
      · obtain ⟨A, c, rfl, hoc, hcm⟩ := own_shape HG.out.1
        have HA := Lib.hid (HR.out.all (by rw [HPL.out]; exact hlt) HP.out.are)
        have HV := Lib.hid (Valid_any A c xs wr (IntsAt.own HG.out.1) hoc hcm)
        have HB := Lib.hid (HP.out.below.trans (HG.out.2.mono HP.out.below.size))
        cases hv : SM.valid xs with
        | false =>
          have HE := Lib.hid (show SM.parse t.data.toList = ([], 13) by rw [SM.parse_good H45.out HA.out, if_neg (fun h => by rw [hv] at h; cases h.1)])
          rw [hv] at HV
          clear hv hxl
          go_wp2_with fail
          refine HV.out.mono ?_
          rintro x w2 ⟨rfl, rfl⟩
          go_wp2_with fail
          go_ret2
          exact ⟨_, two_back rfl (by rw [HE.out]), by rw [HE.out]; exact grew_none HB.out⟩
        | true =>
          have hr := (SM.valid_iff.1 hv).2
          have HT := Lib.hid (Text_any A c xs wr (KT.out.below HB.out) (IntsAt.own HG.out.1) hoc hcm (by omega) (fun x hx => by have := hr x hx; omega))
          by_cases ht2 : SM.text xs = t.data.toList
          · have HE := Lib.hid (show SM.parse t.data.toList = (xs, 0) by rw [SM.parse_good H45.out HA.out, if_pos ⟨hv, ht2⟩])
            rw [hv] at HV
            have hcmp : ((txt (SM.text xs)).toList == t.toList) = true := by rw [txt_list, ht2, Lib.toList_data]; exact beq_self_eq_true _
            clear hv ht2 hr hxl
            generalize txt (SM.text xs) = t1 at *
            go_wp2_with fail
            refine HV.out.mono ?_
            rintro x w2 ⟨rfl, rfl⟩
            go_wp2_with fail
            refine HT.out.mono ?_
            rintro x w3 ⟨rfl, hb⟩
            have HG3 := Lib.hid (Grew.later HP.out.below (HG.out.keep hb)); clear hb
            go_wp2_with fail
            go_ret2
            exact ⟨_, two_back rfl (by rw [HE.out]), by rw [HE.out]; exact HG3.out⟩
          · have HE := Lib.hid (show SM.parse t.data.toList = ([], 13) by rw [SM.parse_good H45.out HA.out, if_neg (fun h => ht2 h.2)])
            rw [hv] at HV
            have hcmp : ((txt (SM.text xs)).toList == t.toList) = false := by
              rw [txt_list, Lib.toList_data]
              simpa using ht2
            clear hv ht2 hr hxl
            generalize txt (SM.text xs) = t1 at *
            go_wp2_with fail
            refine HV.out.mono ?_
            rintro x w2 ⟨rfl, rfl⟩
            go_wp2_with fail
            refine HT.out.mono ?_
            rintro x w3 ⟨rfl, hb⟩
            have HB3 := Lib.hid (below_on HB.out hb); clear hb
            go_wp2_with fail
            go_ret2
            exact ⟨_, two_back rfl (by rw [HE.out]), by rw [HE.out]; exact grew_none HB3.out⟩
end Go.Proofs.YthhkgdknmehaoaaDoor
