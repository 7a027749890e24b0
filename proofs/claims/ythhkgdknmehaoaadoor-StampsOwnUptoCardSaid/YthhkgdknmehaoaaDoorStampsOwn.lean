/- Lists that are handed in stay as they are, and lists that are answered share no memory; for any list and number. -/
import Derived.Deep.DeepCutAuto
import Derived.Test.YthhkgdknmehaoaaDoorRows
import Derived.Test.YthhkgdknmehaoaaDoorStampsW9
import Derived.Test.YthhkgdknmehaoaaDoorStampsMath2
import Derived.Test.YthhkgdknmehaoaaDoorLawLaid
import Derived.Test.YthhkgdknmehaoaaDoorBulk
import Derived.Test.YthhkgdknmehaoaaDoorCards
import Derived.Test.YthhkgdknmehaoaaDoorTie
import Derived.SevenTiedAt
import Derived.JoinedCond
import Derived.OpenShut
import Derived.ChangeMaps5
import Derived.Test.YthhkgdknmehaoaaDoorStampsW10
namespace Go.Proofs.YthhkgdknmehaoaaDoor.lawStampsOwn
open Go Go.RowKit Go.ChangeShapes Go.WideShapes Go.ChangeAt
open Go.ChangeMaps (open_string)
set_option linter.unusedVariables false
set_option linter.unusedSimpArgs false
set_option maxRecDepth 100000
theorem info_list : (Tryd.prog.info? 22).map (fun i => (i.zero, i.size, i.bytes)) = some (some (.slice none 0 0), 1, 24) := by kernel_rfl
theorem own_full {w : World} {base n m : Nat} {ys : List Value} {v : Value} (h : w.ownsRow base 3 1 v (n + (m + 1)) ys) : ∃ g cap, v = .slice (some ⟨g, 0, none⟩) (n + (m + 1)) cap ∧ n + (m + 1) ≤ cap ∧ cap ≤ 9223372036854775807 ∧ base ≤ g ∧ g < w.heap.size := by
  rcases h.2 with ⟨_, h⟩ | ⟨g, cap, cur, rfl, hb, hh, h1, h2, _⟩
  · omega
  · exact ⟨g, cap, rfl, h1, h2, hb, (Array.getElem?_eq_some_iff.1 hh).1⟩
theorem owns_ne {B : Nat} {vs : List Value} {f : Nat → List Int} {w : World} {b t sz m : Nat} {u : Value} {ys : List Value} (h : Owns B vs f w) (k : w.ownsRow b t sz u m ys) (hne : 3 ≠ t) : ∀ v ∈ vs, v.ownBlock = none ∨ v.ownBlock ≠ u.ownBlock := fun v hv => by
  obtain ⟨j, hj⟩ := List.getElem?_of_mem hv
  exact rows_ne (h j v hj) k hne
/-- One of the lists: its header's cell, its contents. -/
theorem nine {B ba cpa : Nat} {vs : List Value} {f : Nat → List Int} {w : World} (HV : w.ownsRow B 22 1 (.slice (some ⟨ba, 0, none⟩) 9 cpa) 9 vs) (HO : Owns B vs f w) (hl : vs.length = 9) {k : Nat} (hk : k < 9) :
    ∃ A N c, N ≤ c ∧ c ≤ 9223372036854775807 ∧ w.cell? ⟨ba, k, none⟩ = some (.slice A N c) ∧ N = (f k).length ∧ IntsAt w A (f k) := by
  have hv : vs[k]? = some (vs[k]'(by omega)) := List.getElem?_eq_getElem _
  have h := HO k _ hv
  obtain ⟨A, c, e, h1, h2⟩ := own_shape h
  rw [e] at h hv
  exact ⟨A, _, c, h1, h2, (HV.cellAt k (by omega)).trans hv, rfl, IntsAt.own h⟩
/-- What each of the nine lists holds at first. -/
def three (x y l : List Int) (j : Nat) : List Int := if j % 3 = 0 then x else if j % 3 = 1 then y else l
theorem three0 {x y l : List Int} {n k : Nat} (h : n = 3 * k) : three x y l n = x := by unfold three; rw [if_pos (by omega)]
theorem three1 {x y l : List Int} {n k : Nat} (h : n = 3 * k + 1) : three x y l n = y := by unfold three; rw [if_neg (by omega), if_pos (by omega)]
theorem three2 {x y l : List Int} {n k : Nat} (h : n = 3 * k + 2) : three x y l n = l := by unfold three; rw [if_neg (by omega), if_neg (by omega)]
/-- What the document asks of the list at place k, as the law lays it, and what 'same' says of it. -/
theorem wants {w : World} {X Y s : List Int} {C1 C2 As : Option Addr} {k1 k2 cs B bw cpw : Nat} (Hs : Lst w As s.length cs s) (HX : IntsAt w C1 X) (HY : IntsAt w C2 Y) (hk1 : X.length ≤ k1) (hk1' : k1 ≤ 9223372036854775807) (hk2 : Y.length ≤ k2) (hk2' : k2 ≤ 9223372036854775807)
    (HK : w.ownsRow B 22 1 (.slice (some ⟨bw, 0, none⟩) 3 cpw) 3 [.slice C1 X.length k1, .slice C2 Y.length k2, .slice As s.length cs]) (k : Nat) :
    ∃ A' N' c', w.cell? ⟨bw, k % 3, none⟩ = some (.slice A' N' c') ∧ ∀ A N c, N = (three X Y s k).length ∧ IntsAt w A (three X Y s k) → N ≤ c → c ≤ 9223372036854775807 → ∀ m,
      Calls Tryd.prog 21 #[.slice A N c, .slice A' N' c'] (w.drewN m) fun e w' => e = .returned (.bool true) ∧ ∃ j, w' = (w.drewN m).drewN j := by
  have key : ∀ (A' : Option Addr) (c' : Nat) (l : List Int), three X Y s k = l → IntsAt w A' l → l.length ≤ c' → c' ≤ 9223372036854775807 → ∀ A N c, N = (three X Y s k).length ∧ IntsAt w A (three X Y s k) → N ≤ c → c ≤ 9223372036854775807 → ∀ m,
      Calls Tryd.prog 21 #[.slice A N c, .slice A' l.length c'] (w.drewN m) fun e w' => e = .returned (.bool true) ∧ ∃ j, w' = (w.drewN m).drewN j := by
    rintro A' c' l e h1 h2 h3 A N c ⟨rfl, h4⟩ h5 h6 m
    rw [e] at h4 h5 ⊢
    have h := same_draws A A' c c' l l (w.drewN m) h4 h1 h5 h2 h6 h3
    rw [decide_eq_true rfl] at h
    exact h
  have h3 : k % 3 = 0 ∨ k % 3 = 1 ∨ k % 3 = 2 := by omega
  rcases h3 with h | h | h
  · exact ⟨_, _, _, by rw [h]; exact HK.cellAt 0 (by omega), key C1 k1 X (by unfold three; rw [if_pos h]) HX hk1 hk1'⟩
  · exact ⟨_, _, _, by rw [h]; exact HK.cellAt 1 (by omega), key C2 k2 Y (by unfold three; rw [if_neg (by omega), if_pos h]) HY hk2 hk2'⟩
  · exact ⟨_, _, _, by rw [h]; exact HK.cellAt 2 (by omega), key As cs s (by unfold three; rw [if_neg (by omega), if_neg (by omega)]) Hs.at_ Hs.le Hs.top⟩
theorem three_len {X Y s : List Int} {n c d : Int} (hX : SM.extend s n = (X, c)) (hY : SM.next s = (Y, d)) (hs : s.length ≤ 1048576) (j : Nat) : (three X Y s j).length ≤ 1048576 := by
  have h1 := (extend_ok s n).1
  have h2 := (next_fits s).1
  rw [hX] at h1
  rw [hY] at h2
  simp only at h1 h2
  unfold three
  split
  · omega
  · split <;> omega
/-- One of the lists: its header, where its cells lie. -/
theorem header {B ba cpa : Nat} {vs : List Value} {f : Nat → List Int} {w : World} (HV : w.ownsRow B 22 1 (.slice (some ⟨ba, 0, none⟩) 9 cpa) 9 vs) (HO : Owns B vs f w) (hl : vs.length = 9) {k : Nat} (hk : k < 9) :
    ∃ A N c, vs[k]? = some (.slice A N c) ∧ N = (f k).length ∧ N ≤ c ∧ c ≤ 9223372036854775807 ∧ w.cell? ⟨ba, k, none⟩ = some (.slice A N c) ∧ (0 < N → ∃ g, A = some ⟨g, 0, none⟩ ∧ B ≤ g) := by
  have hv : vs[k]? = some (vs[k]'(by omega)) := List.getElem?_eq_getElem _
  have h := HO k _ hv
  obtain ⟨A, c, e, h1, h2⟩ := own_shape h
  rw [e] at h hv
  refine ⟨A, _, c, hv, rfl, h1, h2, (HV.cellAt k (by omega)).trans hv, fun h0 => ?_⟩
  obtain ⟨g, cap, e2, hb, _⟩ := h.form (by omega)
  injection e2 with e2
  exact ⟨g, e2, hb⟩
theorem same_len {B : Nat} {vs : List Value} {f : Nat → List Int} {w : World} {k N c : Nat} {A : Option Addr} (h : Owns B vs f w) (hv : vs[k]? = some (.slice A N c)) : (f k).length = N := by
  rcases (h k _ hv).2 with ⟨e, h0⟩ | ⟨_, _, _, e, _⟩
  · injection e with _ e _
    omega
  · injection e with _ e _
    exact e.symm
theorem i64_at {l : List Int} {i : Nat} {x : Int} (h : l[i]? = some x) : (i64s l)[i]? = some (.int .i64 x) := by unfold i64s; rw [List.getElem?_map, h]; rfl
theorem set_at {l : List Int} {i t : Nat} {x : Int} (hi : i < l.length) (h : ∀ t, t < i → l[t]? = some x) (ht : t < i + 1) : (l.set i x)[t]? = some x := by
  rw [List.getElem?_set]
  split
  · first | rfl | rw [if_pos (by omega)]
  · exact h t (by omega)
theorem later_self (l : List Int) : SM.later l l = l := by unfold SM.later; split <;> rfl
set_option maxHeartbeats 16000000 in
theorem walk (As : Option Addr) (ns cs : Nat) (s : List Int) (n : Int) (w : World) (Hs : Lst w As ns cs s) (hn : -9223372036854775808 ≤ n ∧ n ≤ 9223372036854775807) (hs8 : s.length ≤ 1048576) (hT : Tabs w) :
    Calls Tryd.prog 10 #[.slice As ns cs, .int .i64 n] w (LK.True_ w) := by
  have hns := Hs.len
  subst hns
  have HT := Lib.hid hT; clear hT
  have Hs := Lib.hid Hs
  obtain ⟨X, c1, ex⟩ : ∃ X c, SM.extend s n = (X, c) := ⟨_, _, rfl⟩
  obtain ⟨Y, c2', ey⟩ : ∃ Y c, SM.next s = (Y, c) := ⟨_, _, rfl⟩
  have EX := Lib.hid ex; have EY := Lib.hid ey; clear ex ey
  obtain ⟨i0, hi, hz0, hz1, hz2⟩ := info_parts info_int
  obtain ⟨i1, hj, hy0, hy1, hy2⟩ := info_parts info_list
  have hcs := Hs.out.le
  have hct := Hs.out.top
  go_enter Tryd.func10, Tryd.ntmps10
  go_wp2_with fail
  refine (awake_any _ HT.out).mono ?_
  rintro e w1 ⟨rfl, hb⟩
  have HB1 := Lib.hid hb
  have Hs1 := Lib.hid (Hs.out.below hb)
  clear hb
  go_wp2_with fail
  refine (own_any As cs s w1 Hs1.out.at_ (by omega)).mono ?_
  rintro e w2 ⟨A2, n2, c2, rfl, hm2⟩
  obtain ⟨HN2, -, HO2, HF2, -, -⟩ := hm2
  have e2 := HN2.out; subst e2; clear HN2
  go_wp2_with (at_builtin; refine wpList_append_own_at _ rfl (.tmp 33) (.tmp 34) 22 rfl w1.heap.size 3 i0 (.int .i64 0) 1 8 Tryd.underlying22 hi hz0 hz1 hz2 rfl (by decide) (.slice A2 s.length c2) s.length (i64s s) rfl (HO2.out.alloc _) ⟨w2.heap.size, 0, none⟩ 2 2 (i64s [-91, -92]) rfl rfl (World.news_of_block (cs := (i64s [-91, -92]).toArray) (t := 3) (fr := (0, 0)) (heap_alloc_new w2 _)) one_i64 (by unfold maxLen; omega) (by omega) (by have := HF2.out.size; rw [World.size_alloc]; omega) ?_; intro v3 w3 hown3 hgrow3 _ _; rw [← i64s_append] at hown3; obtain ⟨g, cap, hv3, hcap, hcm, hg1, hg3⟩ := own_full hown3; subst hv3; have HO3 := Lib.hid hown3; have HG3 := Lib.hid hgrow3; clear hown3 hgrow3 hi hz0 hz1 hz2)
  have HB3 := Lib.hid ((HF2.out.alloc HF2.out.size (.cells (i64s [-91, -92]).toArray 3)).grown HG3.out (by have := HF2.out.size; rw [World.size_alloc]; omega) (fun k hk => (HO2.out.lt k hk).1))
  have hX3 : IntsAt w3 (some ⟨g, 0, none⟩) s := by
    have h := (IntsAt.own HO3.out).take s.length
    rwa [List.take_left] at h
  have Hin := Lib.hid (show Lst w3 (some ⟨g, 0, none⟩) s.length cap s from ⟨rfl, hX3, by omega, hcm, by omega, Hs.out.range⟩)
  clear HF2 HG3 HO2 hX3
  have hkey : (s.length + (1 + 1)) = s.length + 2 := rfl
  generalize hfull : s.length + (1 + 1) = nf at HO3 hcap hkey
  clear hkey
  go_loopw [7, 9] (fun va i wx => ∃ (k : Nat) (vs : List Value), i = .int .i64 (k : Int) ∧ k ≤ 3 ∧ Hid (vs.length = 3 * k) ∧ Hid (wx.ownsRow w3.heap.size 22 1 va (3 * k) vs) ∧ Hid (Owns w3.heap.size vs (three X Y s) wx) ∧ Hid (Apart vs) ∧ Hid (Below w3.heap.size w3 wx)) (fun _ i _ => 3 - (intOf i).toNat)
  case atStart => exact ⟨0, [], rfl, by omega, Lib.hid rfl, Lib.hid (World.ownsRow_nil _ _ _ _), Lib.hid (Owns.nil _ _ _), Lib.hid Apart.nil, Lib.hid (Below.refl _ _)⟩
  case round =>
    obtain ⟨k, vs, rfl, hk, HL, HV, HO, HA, HB⟩ := hrel
    have Hir := Lib.hid (Hin.out.below HB.out)
    by_cases hlt : k < 3
    · go_wp2_with fail
      refine (Extend_own n hn Hir.out).mono ?_
      rintro e wa ⟨v1, rfl, hG⟩
      rw [EX.out] at hG ⊢
      have HGa := Lib.hid hG; clear hG
      go_wp2_with fail
      refine (Next_own (Hir.out.below HGa.out.2)).mono ?_
      rintro e wb ⟨v2, rfl, hG⟩
      rw [EY.out] at hG ⊢
      have HGb := Lib.hid hG; clear hG
      go_wp2_with fail
      refine (Later_own ((Hir.out.below HGa.out.2).below HGb.out.2) ((Hir.out.below HGa.out.2).below HGb.out.2)).mono ?_
      rintro e wc ⟨v3, rfl, hG⟩
      rw [later_self] at hG
      have HGc := Lib.hid hG; clear hG
      have hsa := HB.out.size
      have hsb := HGa.out.2.size
      have hsc := HGb.out.2.size
      have hsd := HGc.out.2.size
      have HO1 := Lib.hid ((HO.out.below HGa.out.2).snoc (row_from HGa.out.1 hsa) (three0 HL.out))
      have HO2 := Lib.hid ((HO1.out.below HGb.out.2).snoc (row_from HGb.out.1 (by omega)) (three1 (by rw [List.length_append, HL.out]; rfl)))
      have HO4 := Lib.hid ((HO2.out.below HGc.out.2).snoc (row_from HGc.out.1 (by omega)) (three2 (by rw [List.length_append, List.length_append, HL.out]; rfl)))
      have HA1 := Lib.hid (HA.out.snoc (N := wr.heap.size) (fun u hu j hj => (HO.out.lt hu hj).2) (fun j hj => (HGa.out.1.lt j hj).1))
      have HA2 := Lib.hid (HA1.out.snoc (N := wa.heap.size) (fun u hu j hj => (HO1.out.lt hu hj).2) (fun j hj => (HGb.out.1.lt j hj).1))
      have HA4 := Lib.hid (HA2.out.snoc (N := wb.heap.size) (fun u hu j hj => (HO2.out.lt hu hj).2) (fun j hj => (HGc.out.1.lt j hj).1))
      have HVc := Lib.hid ((Mod.of_below HGc.out.2 []).own ((Mod.of_below HGb.out.2 []).own ((Mod.of_below HGa.out.2 []).own HV.out (by simp)) (by simp)) (by simp))
      have HBc := Lib.hid (HB.out.trans ((HGa.out.2.mono hsa).trans ((HGb.out.2.mono (by omega)).trans (HGc.out.2.mono (by omega)))))
      clear HO HO1 HO2 HA HA1 HA2 HV HB
      obtain ⟨B1, d1, rfl, _, _⟩ := own_shape HGa.out.1
      obtain ⟨B2, d2, rfl, _, _⟩ := own_shape HGb.out.1
      obtain ⟨B3, d3, rfl, _, _⟩ := own_shape HGc.out.1
      go_wp2_with (at_builtin; refine wpList_append_own_at _ rfl (.tmp 55) (.tmp 61) 43 rfl w3.heap.size 22 i1 (.slice none 0 0) 1 24 Tryd.underlying43 hj hy0 hy1 hy2 rfl (by decide) u7 (3 * k) vs rfl (HVc.out.alloc _) ⟨wc.heap.size, 0, none⟩ 3 3 [.slice B1 X.length d1, .slice B2 Y.length d2, .slice B3 s.length d3] rfl rfl (World.news_of_block (cs := #[.slice B1 X.length d1, .slice B2 Y.length d2, .slice B3 s.length d3]) (t := 22) (fr := (0, 0)) (heap_alloc_new wc _)) (by intro u hu; simp only [List.mem_cons, List.not_mem_nil, or_false] at hu; rcases hu with rfl | rfl | rfl <;> rfl) (by unfold maxLen; omega) (by omega) (by rw [World.size_alloc]; omega) ?_; intro v4 w4 hown hgrow _ _)
      have hO5 := HO4.out.below ((Below.refl _ wc).alloc (Nat.le_refl _) (Obj.cells #[.slice B1 X.length d1, .slice B2 Y.length d2, .slice B3 s.length d3] 22))
      have HO5 := Lib.hid (hO5.kept hgrow (owns_ne hO5 (HVc.out.alloc (Obj.cells #[.slice B1 X.length d1, .slice B2 Y.length d2, .slice B3 s.length d3] 22)) (by decide)))
      have HB5 := Lib.hid ((HBc.out.alloc HBc.out.size (Obj.cells #[.slice B1 X.length d1, .slice B2 Y.length d2, .slice B3 s.length d3] 22)).grown hgrow (by rw [World.size_alloc]; omega) (fun k hk => (HVc.out.lt k hk).1))
      have HV5 := Lib.hid hown
      clear hown hgrow hO5 HO4 HBc HVc HGa HGb HGc
      rw [List.append_assoc, List.append_assoc] at HO5 HA4
      go_wp2_with fail
      go_roundw
      case rel => exact ⟨k + 1, _, rfl, by omega, Lib.hid (by rw [List.length_append, HL.out]; rfl), HV5, HO5, HA4, HB5⟩
      case measure => simp only [intOf]; omega
    · have hk3 : k = 3 := by omega
      subst hk3
      have HL9 := Lib.hid (show vs.length = 9 from HL.out)
      have hV9 : wr.ownsRow w3.heap.size 22 1 _ 9 vs := HV.out
      obtain ⟨ba, cpa, hva, hba, hbl⟩ := hV9.form (by omega)
      subst hva
      have HV9 := Lib.hid hV9
      clear hV9 HV HL
      have hsr := HB.out.size
      have hs3 := HB3.out.size
      have hs1 := HB1.out.size
      have HW := Lib.hid ((HB1.out.trans (HB3.out.mono hs1)).trans (HB.out.mono (by omega)))
      have Hsr := Lib.hid (Hs.out.below HW.out)
      go_wp2_with fail
      refine (RefExtend_any As cs s n _ Hsr.out.at_ hcs hct hn).mono ?_
      rintro e wd ⟨vx, rfl, hG⟩
      rw [EX.out] at hG ⊢
      have HGd := Lib.hid hG; clear hG
      go_wp2_with fail
      refine (RefNext_any As cs s _ (Hsr.out.at_.below HGd.out.2) hcs hct).mono ?_
      rintro e we ⟨vy, rfl, hG⟩
      rw [EY.out] at hG ⊢
      have HGe := Lib.hid hG; clear hG
      have hsd := HGd.out.2.size
      have hse := HGe.out.2.size
      obtain ⟨C1, k1, rfl, hk1, hk1'⟩ := own_shape HGd.out.1
      obtain ⟨C2, k2, rfl, hk2, hk2'⟩ := own_shape HGe.out.1
      have hC1 : ∀ ad, C1 = some ad → w3.heap.size ≤ ad.block := fun ad e => by subst e; exact Nat.le_trans hsr (HGd.out.1.lt _ rfl).1
      have hC2 : ∀ ad, C2 = some ad → w3.heap.size ≤ ad.block := fun ad e => by subst e; exact Nat.le_trans (Nat.le_trans hsr hsd) (HGe.out.1.lt _ rfl).1
      have HC1 := Lib.hid hC1
      have HC2 := Lib.hid hC2
      clear hC1 hC2
      have HB6 := Lib.hid (HB.out.trans ((HGd.out.2.mono hsr).trans (HGe.out.2.mono (by omega))))
      have HW6 := Lib.hid (HW.out.trans ((HGd.out.2.mono HW.out.size).trans (HGe.out.2.mono (by have := HW.out.size; omega))))
      have HO6 := Lib.hid ((HO.out.below HGd.out.2).below HGe.out.2)
      have HV6 := Lib.hid ((Mod.of_below HGe.out.2 []).own ((Mod.of_below HGd.out.2 []).own HV9.out (by simp)) (by simp))
      have HX6 := Lib.hid ((IntsAt.own HGd.out.1).below HGe.out.2)
      have HY6 := Lib.hid (IntsAt.own HGe.out.1)
      clear HO HV9 HB HW HGd HGe Hsr Hir
      go_wp2_with (at_builtin; refine wpList_append_own_at _ rfl (.tmp 74) (.tmp 78) 43 rfl w3.heap.size 22 i1 (.slice none 0 0) 1 24 Tryd.underlying43 hj hy0 hy1 hy2 rfl (by decide) (.slice none 0 0) 0 [] rfl (World.ownsRow_nil _ _ _ _) ⟨we.heap.size, 0, none⟩ 3 3 [.slice C1 X.length k1, .slice C2 Y.length k2, .slice As s.length cs] rfl rfl (World.news_of_block (cs := #[.slice C1 X.length k1, .slice C2 Y.length k2, .slice As s.length cs]) (t := 22) (fr := (0, 0)) (heap_alloc_new we _)) (by intro u hu; simp only [List.mem_cons, List.not_mem_nil, or_false] at hu; rcases hu with rfl | rfl | rfl <;> rfl) (by unfold maxLen; omega) (by omega) (by rw [World.size_alloc]; omega) ?_; intro v4 w4 hown hgrow _ _)
      have hb7 : Below we.heap.size we w4 := ((Below.refl _ we).alloc (Nat.le_refl _) (Obj.cells #[.slice C1 X.length k1, .slice C2 Y.length k2, .slice As s.length cs] 22)).grown hgrow (by rw [World.size_alloc]; omega) (fun k hk => by cases hk)
      have hw7 : w4.ownsRow w3.heap.size 22 1 v4 3 [.slice C1 X.length k1, .slice C2 Y.length k2, .slice As s.length cs] := hown
      obtain ⟨bw, cpw, hvw, hbw, hbl2⟩ := hw7.form (by omega)
      subst hvw
      have HB7 := Lib.hid (HB6.out.trans (hb7.mono (by omega)))
      have HW7 := Lib.hid (HW6.out.trans (hb7.mono HW6.out.size))
      have HO7 := Lib.hid (HO6.out.below hb7)
      have HV7 := Lib.hid ((Mod.of_below hb7 []).own HV6.out (by simp))
      have HX7 := Lib.hid (HX6.out.below hb7)
      have HY7 := Lib.hid (HY6.out.below hb7)
      have HK7 := Lib.hid hw7
      clear hown hgrow hw7 HB6 HW6 HO6 HV6 HX6 HY6 hj hy0 hy1 hy2
      go_wp2_with fail
      refine (Text_in (HT.out.below HW7.out) hs8 (Hin.out.below HB7.out)).mono ?_
      rintro e w8 ⟨rfl, hb8⟩
      have hs7 := HB7.out.size
      have HB8 := Lib.hid (HB7.out.trans (hb8.mono hs7)); have Hb8 := Lib.hid hb8; clear hb8
      go_wp2_with fail
      refine (Compare_in (Hin.out.below HB8.out) (Hin.out.below HB8.out)).mono ?_
      rintro e w9 ⟨rfl, hb9⟩
      have hs8' := Hb8.out.size
      have HB9 := Lib.hid (HB8.out.trans (hb9.mono HB8.out.size)); have Hb9 := Lib.hid (below_on Hb8.out hb9); clear hb9 HB8 Hb8
      have HW9 := Lib.hid (HW7.out.trans (Hb9.out.mono HW7.out.size))
      go_wp2_with fail
      refine (same_c (Hin.out.below HB9.out) (Hs.out.below HW9.out)).mono ?_
      rintro e w10 ⟨rfl, hb10⟩
      have Hb := Lib.hid (below_on Hb9.out hb10)
      have HBx := Lib.hid (HB7.out.trans (Hb.out.mono hs7))
      have HW := Lib.hid (HW7.out.trans (Hb.out.mono HW7.out.size))
      have HO := Lib.hid (HO7.out.below Hb.out)
      have HV := Lib.hid ((Mod.of_below Hb.out []).own HV7.out (by simp))
      have HX := Lib.hid (HX7.out.below Hb.out)
      have HY := Lib.hid (HY7.out.below Hb.out)
      have HK := Lib.hid ((Mod.of_below Hb.out []).own HK7.out (by simp))
      have hF : w10.ownsRow w1.heap.size 3 1 (.slice (some ⟨g, 0, none⟩) nf cap) nf (i64s (s ++ [-91, -92])) := (Mod.of_below HBx.out []).own HO3.out (by simp)
      have c91 : w10.cell? ⟨g, s.length, none⟩ = some (.int .i64 (-91)) := (hF.cellAt s.length (by omega)).trans (by simp [i64s, i64])
      have c92 : w10.cell? ⟨g, s.length + 1, none⟩ = some (.int .i64 (-92)) := (hF.cellAt (s.length + 1) (by omega)).trans (by simp [i64s, i64, List.getElem?_append_right])
      have HF := Lib.hid hF
      have hbx := HBx.out.size
      have hbg : ba < w10.heap.size := (HV.out.lt ba rfl).2
      clear hb10 hF HB7 HW7 HO7 HV7 HX7 HY7 HK7 HB9 Hb9 HW9 HBx Hb hs8'
      have HWT := Lib.hid (wants (Hs.out.below HW.out) HX.out HY.out hk1 hk1' hk2 hk2' HK.out)
      have hbg2 : bw < w10.heap.size := (HK.out.lt bw rfl).2
      go_wp2_with fail
      clear c91 c92
      go_loopw [108] (fun i wx => ∃ k m : Nat, i = .int .i64 (k : Int) ∧ k ≤ 9 ∧ Hid (wx = w10.drewN m)) (fun i _ => 9 - (intOf i).toNat)
      case atStart => exact ⟨0, 0, rfl, by omega, Lib.hid rfl⟩
      case round =>
        obtain ⟨k, m, rfl, hk9, HWm⟩ := hrel
        by_cases hlt9 : k < 9
        · obtain ⟨A, N, c, hNc, hc9, ca0, hq⟩ := nine HV.out HO.out HL9.out hlt9
          obtain ⟨A', N', c', cw0, hq'⟩ := HWT.out k
          have HQ := Lib.hid (show ∀ j, Calls Tryd.prog 21 #[.slice A N c, .slice A' N' c'] (wr.drewN j) fun e w' => e = .returned (.bool true) ∧ ∃ m, w' = (wr.drewN j).drewN m from fun j => by rw [HWm.out, World.drewN_drewN]; exact hq' A N c hq hNc hc9 (m + j))
          have ca : wr.cell? ⟨ba, k, none⟩ = some (.slice A N c) := by rw [HWm.out]; exact ca0
          have cw : wr.cell? ⟨bw, k % 3, none⟩ = some (.slice A' N' c') := by rw [HWm.out]; exact cw0
          have hr3 : (k : Int).tmod 3 = ((k % 3 : Nat) : Int) := by rw [Int.tmod_eq_emod_of_nonneg (by omega)]; rfl
          have hk3' : k % 3 < 3 := by omega
          clear ca0 cw0 hq hq'
          go_wp2_with fail
          go_quiet ((go_at_call 21; exact Calls.quiet_of (HQ.out _)))
          go_wp2_with fail
          go_roundw
          case rel => exact ⟨k + 1, m + nq, rfl, by omega, Lib.hid (by rw [HWm.out, World.drewN_drewN])⟩
          case measure => simp only [intOf]; omega
        · have HO := Lib.hid (show Owns w3.heap.size vs (three X Y s) wr by rw [HWm.out]; exact HO.out)
          have HV := Lib.hid (show wr.ownsRow w3.heap.size 22 1 (.slice (some ⟨ba, 0, none⟩) 9 cpa) 9 vs by rw [HWm.out]; exact HV.out)
          have HK := Lib.hid (show wr.ownsRow w3.heap.size 22 1 (.slice (some ⟨bw, 0, none⟩) 3 cpw) 3 [.slice C1 X.length k1, .slice C2 Y.length k2, .slice As s.length cs] by rw [HWm.out]; exact HK.out)
          have HF := Lib.hid (show wr.ownsRow w1.heap.size 3 1 (.slice (some ⟨g, 0, none⟩) nf cap) nf (i64s (s ++ [-91, -92])) by rw [HWm.out]; exact HF.out)
          have HX := Lib.hid (show IntsAt wr C1 X by rw [HWm.out]; exact HX.out)
          have HY := Lib.hid (show IntsAt wr C2 Y by rw [HWm.out]; exact HY.out)
          have HW := Lib.hid (show Below w.heap.size w wr by rw [HWm.out]; exact below_drewN HW.out m)
          have hbx : w3.heap.size ≤ wr.heap.size := by rw [HWm.out]; exact hbx
          have hbg : ba < wr.heap.size := by rw [HWm.out]; exact hbg
          have hbg2 : bw < wr.heap.size := by rw [HWm.out]; exact hbg2
          have hgr : g < wr.heap.size := by omega
          clear HWT
          rename World => w5
          go_wp2_with fail
          go_loopw [125] (fun i wx => ∃ (k : Nat) (ys : List Value), i = .int .i64 (k : Int) ∧ k ≤ nf ∧ Hid (wx.ownsRow w1.heap.size 3 1 (.slice (some ⟨g, 0, none⟩) nf cap) nf ys) ∧ Hid (Mod [g] w5 wx)) (fun i _ => nf - (intOf i).toNat)
          case atStart => exact ⟨0, _, rfl, by omega, HF, Lib.hid (Mod.refl _ _)⟩
          case round =>
            obtain ⟨k, ys, rfl, hk, HO7, HM7⟩ := hrel
            by_cases hltf : k < nf
            · have hyl : ys.length = nf := by have := HO7.out.1; omega
              have hcell := HO7.out.cellAt k (by omega)
              obtain ⟨u, hu⟩ : ∃ u, ys[k]? = some u := ⟨ys[k]'(by omega), List.getElem?_eq_getElem _⟩
              rw [hu] at hcell
              have hfr := HO7.out.frozenAt k
              have HST := Lib.hid (HO7.out.stored k (.int .i64 7)).1
              have HM1 := Lib.hid (HM7.out.store (p := ⟨g, k, none⟩) (.inl (by simp)) (.int .i64 7))
              clear hu
              go_wp2_with fail
              go_roundw
              case rel => exact ⟨k + 1, _, rfl, by omega, HST, HM1⟩
              case measure => simp only [intOf]; omega
            · have HO := Lib.hid (HO.out.mod HM7.out (fun v hv k hk => by have := (HO.out.lt hv hk).1; simp only [List.mem_singleton]; omega))
              have HV := Lib.hid (HM7.out.own HV.out (fun k hk => by cases hk; simp only [List.mem_singleton]; omega))
              have HK := Lib.hid (HM7.out.own HK.out (fun k hk => by cases hk; simp only [List.mem_singleton]; omega))
              have HX := Lib.hid (HX.out.mod HM7.out (fun ad e => by have := HC1.out ad e; simp only [List.mem_singleton]; omega))
              have HY := Lib.hid (HY.out.mod HM7.out (fun ad e => by have := HC2.out ad e; simp only [List.mem_singleton]; omega))
              have HW := Lib.hid (HW.out.trans (HM7.out.below HW.out.size (by simp only [List.mem_singleton]; omega)))
              have hs5 := HM7.out.size
              have hbx : w3.heap.size ≤ wr.heap.size := by omega
              have hbg : ba < wr.heap.size := by omega
              have hbg2 : bw < wr.heap.size := by omega
              clear HM7 HO7 HF HC1 HC2
              rename World => w6
              have HWT := Lib.hid (wants (Hs.out.below HW.out) HX.out HY.out hk1 hk1' hk2 hk2' HK.out)
              go_wp2_with fail
              go_loopw [134] (fun i wx => ∃ k m : Nat, i = .int .i64 (k : Int) ∧ k ≤ 9 ∧ Hid (wx = w6.drewN m)) (fun i _ => 9 - (intOf i).toNat)
              case atStart => exact ⟨0, 0, rfl, by omega, Lib.hid rfl⟩
              case round =>
                obtain ⟨k, m, rfl, hk9, HWm⟩ := hrel
                by_cases hlt9 : k < 9
                · obtain ⟨A, N, c, hNc, hc9, ca0, hq⟩ := nine HV.out HO.out HL9.out hlt9
                  obtain ⟨A', N', c', cw0, hq'⟩ := HWT.out k
                  have HQ := Lib.hid (show ∀ j, Calls Tryd.prog 21 #[.slice A N c, .slice A' N' c'] (wr.drewN j) fun e w' => e = .returned (.bool true) ∧ ∃ m, w' = (wr.drewN j).drewN m from fun j => by rw [HWm.out, World.drewN_drewN]; exact hq' A N c hq hNc hc9 (m + j))
                  have ca : wr.cell? ⟨ba, k, none⟩ = some (.slice A N c) := by rw [HWm.out]; exact ca0
                  have cw : wr.cell? ⟨bw, k % 3, none⟩ = some (.slice A' N' c') := by rw [HWm.out]; exact cw0
                  have hr3 : (k : Int).tmod 3 = ((k % 3 : Nat) : Int) := by rw [Int.tmod_eq_emod_of_nonneg (by omega)]; rfl
                  have hk3' : k % 3 < 3 := by omega
                  clear ca0 cw0 hq hq'
                  go_wp2_with fail
                  go_quiet ((go_at_call 21; exact Calls.quiet_of (HQ.out _)))
                  go_wp2_with fail
                  go_roundw
                  case rel => exact ⟨k + 1, m + nq, rfl, by omega, Lib.hid (by rw [HWm.out, World.drewN_drewN])⟩
                  case measure => simp only [intOf]; omega
                · have HO := Lib.hid (show Owns w3.heap.size vs (three X Y s) wr by rw [HWm.out]; exact HO.out)
                  have HV := Lib.hid (show wr.ownsRow w3.heap.size 22 1 (.slice (some ⟨ba, 0, none⟩) 9 cpa) 9 vs by rw [HWm.out]; exact HV.out)
                  have HW := Lib.hid (show Below w.heap.size w wr by rw [HWm.out]; exact below_drewN HW.out m)
                  have hbx : w3.heap.size ≤ wr.heap.size := by rw [HWm.out]; exact hbx
                  clear HWT HK HX HY
                  rename World => w7
                  have HS := Lib.hid (show ∀ j, (three X Y s j).length ≤ 1048576 from three_len EX.out EY.out hs8)
                  go_wp2_with fail
                  go_loopw [151] (fun i wx => ∃ (k : Nat) (f : Nat → List Int), i = .int .i64 (k : Int) ∧ k ≤ 9 ∧ Hid (Owns w3.heap.size vs f wx) ∧ Hid (∀ j, (f j).length ≤ 1048576) ∧ Hid (∀ j, j < k → ∀ i, i < (f j).length → (f j)[i]? = some (-(j : Int) - 1)) ∧ Hid (wx.ownsRow w3.heap.size 22 1 (.slice (some ⟨ba, 0, none⟩) 9 cpa) 9 vs) ∧ Hid (Below w.heap.size w wx)) (fun i _ => 9 - (intOf i).toNat)
                  case atStart => exact ⟨0, _, rfl, by omega, HO, HS, Lib.hid (fun j hj => by omega), HV, HW⟩
                  case round =>
                    clear HO HS HV HW
                    obtain ⟨k, f, rfl, hk9, HO, HS, HP, HV, HW⟩ := hrel
                    by_cases hlt9 : k < 9
                    · obtain ⟨A, N, c, hv, hN, hNc, hc9, ca, hA⟩ := header HV.out HO.out HL9.out hlt9
                      have HVK := Lib.hid hv
                      have hN8 : N ≤ 1048576 := by rw [hN]; exact HS.out k
                      clear hv hN
                      go_wp2_with fail
                      clear ca
                      go_loopw [158] (fun i wx => ∃ (t : Nat) (f : Nat → List Int), i = .int .i64 (t : Int) ∧ t ≤ N ∧ Hid (Owns w3.heap.size vs f wx) ∧ Hid (∀ j, (f j).length ≤ 1048576) ∧ Hid (∀ j, j < k → ∀ i, i < (f j).length → (f j)[i]? = some (-(j : Int) - 1)) ∧ Hid (∀ i, i < t → (f k)[i]? = some (-(k : Int) - 1)) ∧ Hid (wx.ownsRow w3.heap.size 22 1 (.slice (some ⟨ba, 0, none⟩) 9 cpa) 9 vs) ∧ Hid (Below w.heap.size w wx)) (fun i _ => N - (intOf i).toNat)
                      case atStart => exact ⟨0, f, rfl, by omega, HO, HS, HP, Lib.hid (fun i hi => by omega), HV, HW⟩
                      case round =>
                        clear HO HS HP HV HW
                        obtain ⟨t, f, rfl, ht, HO, HS, HP, HT, HV, HW⟩ := hrel
                        have HFL := Lib.hid (same_len HO.out HVK.out)
                        by_cases hltt : t < N
                        · obtain ⟨gk, rfl, hgk⟩ := hA (by omega)
                          have hrow := HO.out k _ HVK.out
                          rw [HFL.out] at hrow
                          obtain ⟨u, hu⟩ : ∃ u, (i64s (f k))[t]? = some u := ⟨(i64s (f k))[t]'(by rw [i64s_len, HFL.out]; omega), List.getElem?_eq_getElem _⟩
                          have hcell : wr.cell? ⟨gk, t, none⟩ = some u := (hrow.cellAt t (by omega)).trans hu
                          have hfr : wr.frozen? ⟨gk, t, none⟩ = false := hrow.frozenAt t
                          have HO1 := Lib.hid (HO.out.store (i := t) (-(k : Int) - 1) HA.out HVK.out)
                          have HV1 := Lib.hid (own_far (q := ⟨gk, t, none⟩) HV.out (fun e => (rows_ne HV.out hrow (by decide)).elim (fun h => by cases h) (fun h => h e)) (.int .i64 (-(k : Int) - 1)))
                          have HW1 := Lib.hid (HW.out.setCell (p := ⟨gk, t, none⟩) (show w.heap.size ≤ gk by omega) (.int .i64 (-(k : Int) - 1)))
                          have HS1 := Lib.hid (show ∀ j, (upd f k ((f k).set t (-(k : Int) - 1)) j).length ≤ 1048576 from fun j => by
                            by_cases h : j = k
                            · subst h; rw [upd_same, List.length_set]; exact HS.out j
                            · rw [upd_other h]; exact HS.out j)
                          have HP1 := Lib.hid (show ∀ j, j < k → ∀ i, i < (upd f k ((f k).set t (-(k : Int) - 1)) j).length → (upd f k ((f k).set t (-(k : Int) - 1)) j)[i]? = some (-(j : Int) - 1) from fun j hj i hi => by
                            rw [upd_other (by omega)] at hi ⊢
                            exact HP.out j hj i hi)
                          have HT1 := Lib.hid (show ∀ i, i < t + 1 → (upd f k ((f k).set t (-(k : Int) - 1)) k)[i]? = some (-(k : Int) - 1) from fun i hi => by
                            rw [upd_same]
                            exact set_at (by rw [HFL.out]; omega) HT.out hi)
                          clear hu hrow
                          go_wp2_with fail
                          go_roundw
                          case rel => exact ⟨t + 1, _, rfl, by omega, HO1, HS1, HP1, HT1, HV1, HW1⟩
                          case measure => simp only [intOf]; omega
                        · have HP1 := Lib.hid (show ∀ j, j < k + 1 → ∀ i, i < (f j).length → (f j)[i]? = some (-(j : Int) - 1) from fun j hj i hi => by
                            by_cases h : j = k
                            · subst h; exact HT.out i (by rw [HFL.out] at hi; omega)
                            · exact HP.out j (by omega) i hi)
                          go_wp2_with fail
                          go_roundw
                          case rel => exact ⟨k + 1, f, rfl, by omega, HO, HS, HP1, HV, HW⟩
                          case measure => simp only [intOf]; omega
                    · have hk9' : k = 9 := by omega
                      have HP := Lib.hid (show ∀ j, j < 9 → ∀ i, i < (f j).length → (f j)[i]? = some (-(j : Int) - 1) from fun j hj => HP.out j (by omega))
                      clear hk9'
                      have hbx := (HV.out.lt ba rfl).1
                      have hbx2 := (HV.out.lt ba rfl).2
                      rename World => w8'
                      go_wp2_with fail
                      go_loopw [171] (fun i wx => ∃ k : Nat, i = .int .i64 (k : Int) ∧ k ≤ 9 ∧ Hid (Owns w3.heap.size vs f wx) ∧ Hid (wx.ownsRow w3.heap.size 22 1 (.slice (some ⟨ba, 0, none⟩) 9 cpa) 9 vs) ∧ Hid (Below w.heap.size w wx) ∧ w3.heap.size ≤ wx.heap.size) (fun i _ => 9 - (intOf i).toNat)
                      case atStart => exact ⟨0, rfl, by omega, HO, HV, HW, by omega⟩
                      case round =>
                        clear HO HV HW
                        obtain ⟨k, rfl, hk9, HO, HV, HW, hbx⟩ := hrel
                        by_cases hlt9 : k < 9
                        · obtain ⟨A, N, c, hv, hN, hNc, hc9, ca, hA⟩ := header HV.out HO.out HL9.out hlt9
                          have HVK := Lib.hid hv
                          have hN8 : N ≤ 1048576 := by rw [hN]; exact HS.out k
                          have HZ0 := Lib.hid (show wr.ownsRow w3.heap.size 3 1 (.slice A N c) (i64s (f k)).length (i64s (f k)) by rw [i64s_len]; exact HO.out k _ hv)
                          have HG0 := Lib.hid (show ∀ j u, vs[j]? = some u → u.ownBlock = (Value.slice A N c).ownBlock → (f j).length ≤ (i64s (f k)).length from fun j u hu he => by
                            rw [i64s_len]
                            rcases HA.out j k u _ hu hv he with h | h
                            · rw [h]; exact Nat.le_refl _
                            · have := own_none (HO.out j u hu) h; omega)
                          have hz0 : (i64s (f k)).length ≤ N + 0 := by rw [i64s_len]; omega
                          have HZN := Lib.hid hz0
                          clear hv hN hz0 hA
                          have hd9 : decide ((k : Int) < 9) = true := decide_eq_true (by omega)
                          go_wp2_with fail
                          clear ca
                          go_loopw [25, 26] (fun vl i wx => ∃ (t : Nat) (zs : List Value), i = .int .i64 (t : Int) ∧ t ≤ 9 ∧ Hid (wx.ownsRow w3.heap.size 3 1 vl zs.length zs) ∧ Hid (zs.length ≤ N + t) ∧ Hid (∀ j u, vs[j]? = some u → u.ownBlock = vl.ownBlock → (f j).length ≤ zs.length) ∧ Hid (Owns w3.heap.size vs f wx) ∧ Hid (wx.ownsRow w3.heap.size 22 1 (.slice (some ⟨ba, 0, none⟩) 9 cpa) 9 vs) ∧ Hid (Below w.heap.size w wx) ∧ w3.heap.size ≤ wx.heap.size) (fun _ i _ => 9 - (intOf i).toNat)
                          case atStart => exact ⟨0, _, rfl, by omega, HZ0, HZN, HG0, HO, HV, HW, hbx⟩
                          case round =>
                            clear HZ0 HZN HG0 HO HV HW hbx
                            obtain ⟨t, zs, rfl, ht, HZ, HZN, HG, HO, HV, HW, hbx⟩ := hrel
                            by_cases hltt : t < 9
                            · go_wp2_with (at_builtin; refine app_kept rfl (.tmp 179) (.tmp 180) rfl w3.heap.size u25 zs.length zs HZ.out rfl 99 rfl (by have := HZN.out; omega) hbx ?_; intro v5 w9' h1 h2 h3 h4)
                              have HO1 := Lib.hid (show Owns w3.heap.size vs f w9' from fun j u hu => h4 _ u _ _ (HO.out j u hu) (fun e => HG.out j u hu e))
                              have HG1 := Lib.hid (show ∀ j u, vs[j]? = some u → u.ownBlock = v5.ownBlock → (f j).length ≤ (zs ++ [Value.int .i64 99]).length from fun j u hu he => by
                                rw [List.length_append, List.length_singleton]
                                rcases h3 with h | h
                                · rw [h] at he
                                  have := HG.out j u hu he
                                  omega
                                · rw [h] at he
                                  have := ((HO.out j u hu).lt _ he).2
                                  omega)
                              have HV1 := Lib.hid ((HV.out.alloc (.cells #[.int .i64 99] 3)).kept h2 (rows_ne (HV.out.alloc (.cells #[.int .i64 99] 3)) (HZ.out.alloc (.cells #[.int .i64 99] 3)) (by decide)))
                              have HW1 := Lib.hid ((HW.out.alloc HW.out.size (.cells #[.int .i64 99] 3)).grown h2 (by have := HW.out.size; rw [World.size_alloc]; omega) (fun k hk => by have := (HZ.out.lt k hk).1; omega))
                              have hbx1 : w3.heap.size ≤ w9'.heap.size := by have := h2.size; rw [World.size_alloc] at this; omega
                              have HZ1 := Lib.hid (show w9'.ownsRow w3.heap.size 3 1 v5 (zs ++ [Value.int .i64 99]).length (zs ++ [Value.int .i64 99]) by rw [List.length_append]; exact h1)
                              have HZN1 := Lib.hid (show (zs ++ [Value.int .i64 99]).length ≤ N + (t + 1) by have := HZN.out; rw [List.length_append, List.length_singleton]; omega)
                              clear h1 h2 h3 h4 HO HG HV HW HZ HZN
                              go_wp2_with fail
                              go_roundw
                              case rel => exact ⟨t + 1, _, rfl, by omega, HZ1, HZN1, HG1, HO1, HV1, HW1, hbx1⟩
                              case measure => simp only [intOf]; omega
                            · go_wp2_with fail
                              go_roundw
                              case rel => exact ⟨k + 1, rfl, by omega, HO, HV, HW, hbx⟩
                              case measure => simp only [intOf]; omega
                        · clear HA
                          rename World => w11
                          go_wp2_with fail
                          go_loopw [185] (fun i wx => ∃ k : Nat, i = .int .i64 (k : Int) ∧ k ≤ 9 ∧ Hid (wx = w11)) (fun i _ => 9 - (intOf i).toNat)
                          case atStart => exact ⟨0, rfl, by omega, Lib.hid rfl⟩
                          case round =>
                            obtain ⟨k, rfl, hk9, HWm⟩ := hrel
                            have hwm := HWm.out
                            clear HWm
                            subst hwm
                            by_cases hlt9 : k < 9
                            · obtain ⟨A, N, c, hv, hN, hNc, hc9, ca, hA⟩ := header HV.out HO.out HL9.out hlt9
                              have HVK := Lib.hid hv
                              have hN8 : N ≤ 1048576 := by rw [hN]; exact HS.out k
                              have hrow := HO.out k _ hv
                              rw [← hN] at hrow
                              have HR := Lib.hid hrow
                              have HNK := Lib.hid hN
                              clear hv hN hrow
                              go_wp2_with fail
                              clear ca
                              go_loopw [192] (fun i wx => ∃ t : Nat, i = .int .i64 (t : Int) ∧ t ≤ N ∧ Hid (wx = wr)) (fun i _ => N - (intOf i).toNat)
                              case atStart => exact ⟨0, rfl, by omega, Lib.hid rfl⟩
                              case round =>
                                obtain ⟨t, rfl, ht, HWm⟩ := hrel
                                have hwm := HWm.out
                                clear HWm
                                subst hwm
                                by_cases hltt : t < N
                                · obtain ⟨gk, rfl, hgk⟩ := hA (by omega)
                                  have hcell := (HR.out.cellAt t (by omega)).trans (i64_at (HP.out k hlt9 t (by rw [← HNK.out]; exact hltt)))
                                  go_wp2_with fail
                                  exact ⟨⟨t + 1, rfl, by omega, Lib.hid (by first | trivial | rfl)⟩, by simp only [intOf]; omega⟩
                                · go_wp2_with fail
                                  go_roundw
                                  case rel => exact ⟨k + 1, rfl, by omega, Lib.hid (by first | trivial | rfl)⟩
                                  case measure => simp only [intOf]; omega
                            · go_wp2_with fail
                              go_ret
                              exact ⟨rfl, HW.out⟩

theorem own : ownKnob Tryd.prog.godebug = none := by kernel_rfl
theorem laidOut : laidOutB Tryd.prog = true := by kernel_rfl
theorem lifted (os : Os) (started : os.Started) (H : Type) (enc : TypeId × Value → H) (F : Stop.Interp) :
    ReturnsInHanded {} Tryd.checked os 10 .any ((Rows.OpenSpec.upto Rows.stampsOwnSpec).preRow enc Tryd.prog Tryd.f10 Rows.stampsOwnUptoRow.domain false Rows.stampsOwnUptoRow.laid) (((Rows.OpenSpec.upto Rows.stampsOwnSpec).at F).post enc Tryd.prog Tryd.f10 false true false false) := by
  refine LK.lifted_row (C := Tryd.checked) (s := (Rows.OpenSpec.upto Rows.stampsOwnSpec)) (F := F) (s0 := Rows.stampsOwnSpec) (tb := 4) (laid := Rows.stampsOwnUptoRow.laid) rfl own started (by kernel_rfl) Tryd.func10 laidOut rfl rfl rfl rfl (by kernel_rfl) (by kernel_rfl) Tryd.underlying4
    (fun ds h => by
      match ds, h with
      | [_, _], _ => rfl)
    (World.laidAll Tryd.prog os Rows.stampsOwnUptoRow.laid) #[.slice none 0 0, .int .i64 0] 8 (x := ([.nil, .lit (.int .i64 0)], [], [])) (World.laidAll_os _ _ _) (World.shaped_of_ZipB (by kernel_rfl) (by kernel_rfl)) (by kernel_rfl) (by kernel_rfl) (fun k hk => by cases hk; kernel_rfl) (by kernel_rfl)
    (by rw [MakeChecks.laidMetH_plain _ _ _ (by kernel_rfl)]; exact laidMet_laidAll _ (by kernel_rfl) (by kernel_rfl)) ?_
  intro W base args ds ps hval hA hwt hk hsh hlaid
  rw [show Tryd.f10.params.toList = [22, 3] by kernel_rfl] at hA hwt
  have hval' : ∀ (j : Nat) t v, (#[22, 3] : Array TypeId)[j]? = some t → args[j]? = some v → Value.okWide Tryd.prog W .any base t v := by
    rw [← Tryd.params10]; exact hval
  clear hval
  obtain ⟨v0, v1, d0, d1, p0, p1, rfl, rfl, rfl, h0, h1⟩ := trodAll_two hA
  have hbulk : Rows.uptoBulkAll [d0, d1] ≤ 1048576 := of_decide_eq_true (hk Rows.uptoSmall rfl)
  simp only [Rows.uptoBulkAll] at hbulk
  obtain ⟨A0, c0, l0, rfl, hI0, hc0, hm0, hr0⟩ := open_nums (hval' 0 22 v0 rfl rfl) h0 hwt (j := 0) rfl rfl
  have hb0 := bulk_nums h0
  obtain ⟨n1, rfl, rfl, rfl, hn1⟩ := open_int Tryd.underlying3 (hval' 1 3 v1 rfl rfl) h1
  have hr1 : -9223372036854775808 ≤ n1 ∧ n1 ≤ 9223372036854775807 := by simpa [Lit.wf, IntKind.min, IntKind.max, IntKind.signed, IntKind.bits] using hn1
  exact walk A0 l0.length c0 l0 n1 W ⟨rfl, hI0, hc0, by omega, by omega, hr0⟩ hr1 (by omega) (tabs_of hsh hlaid)

theorem over : Rows.stampsOwnUptoRow.holds Tryd.pinned (Rows.OpenSpec.upto Rows.stampsOwnSpec) :=
  OpenClaim.holds_of_cond 10 Tryd.f10 rfl rfl rfl rfl rfl rfl rfl ⟨rfl, rfl, rfl, rfl, rfl⟩ rfl rfl rfl rfl rfl (by kernel_rfl) Tryd.func10 (by kernel_rfl)
    (of_decide_eq_true (by kernel_rfl)) (by unfold Func.isWrapper; first | (rw [if_pos (by decide +kernel)]; kernel_rfl) | (rw [if_neg (by decide +kernel)]; exact ⟨rfl, rfl⟩))
    (fun os started H enc _ F => by rw [OpenClaim.pre_eq_preRow]; exact lifted os started H enc F)

/-- The statement. -/
theorem proved : Rows.StampsOwnUptoCardSaid :=
  Claim7.holds_tied_plain_at .later [] Rows.stampsOwnUptoCard.laidKinds true Rows.stampsOwnUptoCard.stood.harness Rows.stampsOwnUptoCard.stood.looks
    over (fun _ h => by cases h) (by kernel_rfl) (fun _ h => by cases h) stampsOwnUpto_row_tie rfl ⟨rfl, rfl⟩ (by kernel_rfl) rfl
    (fun f fn hf hfn => by
      obtain rfl : f = 10 := Option.some.inj ((show Tryd.prog.funcNamed Rows.stampsOwnUptoRow.func = some 10 by kernel_rfl).symm.trans hf) |>.symm
      obtain rfl : fn = Tryd.f10 := (Option.some.inj (Tryd.func10.symm.trans hfn)).symm
      exact ⟨by kernel_rfl, fun j t ht => by
        rw [Tryd.params10] at ht
        have hm : t ∈ ([22, 3] : List TypeId) := by simpa using Array.mem_of_getElem? ht
        have hall : (([22, 3] : List TypeId).all fun u => !Tryd.prog.wantsStandIn u) = true := by kernel_rfl
        exact (show Tryd.prog.wantsStandIn t = false by simpa using List.all_eq_true.1 hall t hm)⟩)
    (by kernel_rfl)

end Go.Proofs.YthhkgdknmehaoaaDoor.lawStampsOwn
