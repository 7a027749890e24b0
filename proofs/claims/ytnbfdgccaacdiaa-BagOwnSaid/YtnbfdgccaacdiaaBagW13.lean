/- The document's calls of layer 7: a packet is taken. -/
import Derived.Test.YtnbfdgccaacdiaaBagW12
namespace Go.Proofs.Ytnbfdgccaacdiaa
open Go.RowKit
open By (BytesAt u8s own_shape)
set_option linter.unusedVariables false
set_option linter.unusedSimpArgs false
set_option maxRecDepth 100000
section
variable {S S' : Nat → Prop} {w : World} {B C : Option Addr} {ps : List Pk} {b : Bg} {n : Nat}
/-- What stands when a bag is boxed, and a bag and a packet for the answer are laid. -/
structure Tre (w w0 : World) (u z y : Array Value) : Prop where
  below : Below w.heap.size w w0
  size : w0.heap.size = w.heap.size + 3
  one : Whole w0 w.heap.size 28 u
  two : Whole w0 (w.heap.size + 1) 28 z
  tre : Whole w0 (w.heap.size + 1 + 1) 31 y
theorem Tre.new (w : World) (u z y : Array Value) : Tre w (((w.alloc (.cells u 28)).alloc (.cells z 28)).alloc (.cells y 31)) u z y :=
  ⟨(((Below.refl _ w).alloc (Nat.le_refl _) _).alloc (by simp) _).alloc (by simp; omega) _, by simp, ((Whole.new w _ u).alloc _).alloc _,
    by have h := (Whole.new (w.alloc (.cells u 28)) 28 z).alloc (.cells y 31); simpa using h,
    by have h := Whole.new ((w.alloc (.cells u 28)).alloc (.cells z 28)) 31 y; simpa using h⟩
set_option maxHeartbeats 8000000 in
theorem RefTake_no (n c : Nat) (s q : Int) {k : Int} (hk : k < 0 ∨ (n : Int) ≤ k) (w : World) :
    Calls Try.prog 10 #[.agg (bag3 B n c s q), .int .i64 k] w fun e w' => e = .returned (.tuple #[.agg (bag3 B n c s q), .agg zero3, .bool false]) ∧ Below w.heap.size w w' := by
  have HT := Lib.hid (Tre.new w (bag3 B n c s q) bagZ zero3)
  unfold bagZ zero3 at HT
  go_enter Try.func10, Try.ntmps10
  go_upto_region 1 with (fail)
  generalize ((w.alloc (.cells (bag3 B n c s q) 28)).alloc _).alloc _ = w0 at HT ⊢
  have b0 : w0.cell? ⟨w.heap.size, 0, none⟩ = some (.slice B n c) := HT.out.one.cell 0
  have b1 : w0.cell? ⟨w.heap.size, 1, none⟩ = some (.int .i64 s) := HT.out.one.cell 1
  have b2 : w0.cell? ⟨w.heap.size, 2, none⟩ = some (.int .i64 q) := HT.out.one.cell 2
  go_wp2_with fail
  clear b0 b1 b2
  refine (RefLook_no n c s q hk w0).mono ?_
  rintro e w1 ⟨rfl, hb⟩
  unfold zero3
  have hA := hb.trans ((Below.refl _ w1).alloc hb.size (.cells #[Value.int .i64 0, Value.int .i64 0, Value.slice none 0 0] 31))
  have HX2 := Lib.hid (below_on HT.out.below hA)
  have HO2 := (Mod.of_below hA []).whole HT.out.one (by simp)
  have HZ2 := (Mod.of_below hA []).whole HT.out.two (by simp)
  have HY2 := (Mod.of_below hA []).whole HT.out.tre (by simp)
  have HQ2 := Whole.new w1 31 #[Value.int .i64 0, Value.int .i64 0, Value.slice none 0 0]
  go_upto_region 2 with (fail)
  generalize w1.alloc (.cells #[Value.int .i64 0, Value.int .i64 0, Value.slice none 0 0] 31) = w2 at HX2 HO2 HZ2 HY2 HQ2 ⊢
  have p0 : w2.drew.cell? ⟨w1.heap.size, 0, none⟩ = some (.int .i64 0) := HQ2.cell 0
  have p1 : w2.drew.cell? ⟨w1.heap.size, 1, none⟩ = some (.int .i64 0) := HQ2.cell 1
  have p2 : w2.drew.cell? ⟨w1.heap.size, 2, none⟩ = some (.slice none 0 0) := HQ2.cell 2
  have pp0 : w2.cell? ⟨w1.heap.size, 0, none⟩ = some (.int .i64 0) := HQ2.cell 0
  have pp1 : w2.cell? ⟨w1.heap.size, 1, none⟩ = some (.int .i64 0) := HQ2.cell 1
  have pp2 : w2.cell? ⟨w1.heap.size, 2, none⟩ = some (.slice none 0 0) := HQ2.cell 2
  have b0 : w2.drew.cell? ⟨w.heap.size, 0, none⟩ = some (.slice B n c) := HO2.cell 0
  have b1 : w2.drew.cell? ⟨w.heap.size, 1, none⟩ = some (.int .i64 s) := HO2.cell 1
  have b2 : w2.drew.cell? ⟨w.heap.size, 2, none⟩ = some (.int .i64 q) := HO2.cell 2
  have bb0 : w2.cell? ⟨w.heap.size, 0, none⟩ = some (.slice B n c) := HO2.cell 0
  have bb1 : w2.cell? ⟨w.heap.size, 1, none⟩ = some (.int .i64 s) := HO2.cell 1
  have bb2 : w2.cell? ⟨w.heap.size, 2, none⟩ = some (.int .i64 q) := HO2.cell 2
  have z0 : w2.drew.cell? ⟨w.heap.size + 1, 0, none⟩ = some (.slice none 0 0) := HZ2.cell 0
  have z1 : w2.drew.cell? ⟨w.heap.size + 1, 1, none⟩ = some (.int .i64 0) := HZ2.cell 1
  have z2 : w2.drew.cell? ⟨w.heap.size + 1, 2, none⟩ = some (.int .i64 0) := HZ2.cell 2
  have g0 : w2.frozen? ⟨w.heap.size + 1, 0, none⟩ = false := HZ2.frozen 0
  have g1 : w2.frozen? ⟨w.heap.size + 1, 1, none⟩ = false := HZ2.frozen 1
  have g2 : w2.frozen? ⟨w.heap.size + 1, 2, none⟩ = false := HZ2.frozen 2
  have y0 : w2.drew.cell? ⟨w.heap.size + 1 + 1, 0, none⟩ = some (.int .i64 0) := HY2.cell 0
  have y1 : w2.drew.cell? ⟨w.heap.size + 1 + 1, 1, none⟩ = some (.int .i64 0) := HY2.cell 1
  have y2 : w2.drew.cell? ⟨w.heap.size + 1 + 1, 2, none⟩ = some (.slice none 0 0) := HY2.cell 2
  have e0 : w2.frozen? ⟨w.heap.size + 1 + 1, 0, none⟩ = false := HY2.frozen 0
  have e1 : w2.frozen? ⟨w.heap.size + 1 + 1, 1, none⟩ = false := HY2.frozen 1
  have e2 : w2.frozen? ⟨w.heap.size + 1 + 1, 2, none⟩ = false := HY2.frozen 2
  have zz0 : w2.cell? ⟨w.heap.size + 1, 0, none⟩ = some (.slice none 0 0) := HZ2.cell 0
  have zz1 : w2.cell? ⟨w.heap.size + 1, 1, none⟩ = some (.int .i64 0) := HZ2.cell 1
  have zz2 : w2.cell? ⟨w.heap.size + 1, 2, none⟩ = some (.int .i64 0) := HZ2.cell 2
  have yy0 : w2.cell? ⟨w.heap.size + 1 + 1, 0, none⟩ = some (.int .i64 0) := HY2.cell 0
  have yy1 : w2.cell? ⟨w.heap.size + 1 + 1, 1, none⟩ = some (.int .i64 0) := HY2.cell 1
  have yy2 : w2.cell? ⟨w.heap.size + 1 + 1, 2, none⟩ = some (.slice none 0 0) := HY2.cell 2
  have hs1 : w.heap.size + 3 ≤ w1.heap.size := by have h1 := HT.out.size; have h2 := hb.size; omega
  have n1 : ¬ w1.heap.size = w.heap.size + 1 := by omega
  have n2 : ¬ w.heap.size + 1 = w1.heap.size := by omega
  have n3 : ¬ w1.heap.size = w.heap.size + 1 + 1 := by omega
  have n4 : ¬ w.heap.size + 1 + 1 = w1.heap.size := by omega
  clear HO2 HZ2 HY2 HQ2 hA hb hs1
  go_wp2_with fail
  go_region
  all_goals
    go_wp2_with fail
    refine bodyPost_ret (v := .tuple #[.agg (bag3 B n c s q), .agg zero3, .bool false]) (by simp [results, Try.results10, go_sem, z0, z1, z2, y0, y1, y2, zz0, zz1, zz2, yy0, yy1, yy2, bag3, zero3]) rfl ?_
    refine ⟨rfl, ?_⟩
    repeat' (first | with_reducible refine Below.drew ?_ | with_reducible refine Below.setCell ?_ ?_ _)
    all_goals first | exact HX2.out | (show w.heap.size ≤ w.heap.size + 1; omega) | (show w.heap.size ≤ w.heap.size + 1 + 1; omega)
theorem er_eq {ps : List Pk} {k : Nat} (h : k < ps.length) : (ps.take (k + 1)).eraseIdx k = (ps.take k).eraseIdx k := by
  have h1 : (ps.take k).length = k := by rw [List.length_take]; omega
  rw [List.take_add_one, List.getElem?_eq_getElem h, List.eraseIdx_append_of_length_le (by omega), h1, Nat.sub_self]
  simp [List.eraseIdx_of_length_le (show (ps.take k).length ≤ k by omega)]
theorem er_ne {ps : List Pk} {j k : Nat} {p : Pk} (h : ps[j]? = some p) (hne : j ≠ k) : (ps.take (j + 1)).eraseIdx k = (ps.take j).eraseIdx k ++ [p] := by
  have hj := (List.getElem?_eq_some_iff.1 h).1
  have h1 : (ps.take j).length = j := by rw [List.length_take]; omega
  rw [List.take_add_one, h]
  by_cases hlt : k < j
  · rw [List.eraseIdx_append_of_lt_length (by omega)]
    rfl
  · rw [List.eraseIdx_append_of_length_le (by omega), h1, List.eraseIdx_of_length_le (show (ps.take j).length ≤ k by omega), List.eraseIdx_of_length_le (by simp; omega)]
    rfl
set_option maxHeartbeats 8000000 in
theorem RefTake_yes (h : PksAt S w B ps) (c : Nat) (hc : ps.length ≤ c) (h48 : ps.length ≤ 48) (s q : Int) {k : Nat} {p : Pk} (hk : ps[k]? = some p) (hS : ∀ x, w.heap.size ≤ x → S x) :
    Calls Try.prog 10 #[.agg (bag3 B ps.length c s q), .int .i64 (k : Int)] w fun e w' => ∃ B' c' A1 c1, e = .returned (.tuple #[.agg (bag3 B' (ps.eraseIdx k).length c' s q), .agg (three p A1 c1), .bool true]) ∧ Hid ((ps.eraseIdx k).length ≤ c' ∧ c' ≤ 9223372036854775807) ∧ Hid (PksAt S w' B' (ps.eraseIdx k)) ∧ Below w.heap.size w w' := by
  have HT := Lib.hid (Tre.new w (bag3 B ps.length c s q) bagZ zero3)
  have H := Lib.hid ((h.mono (S' := fun b => S b ∧ (b < w.heap.size ∨ w.heap.size + 3 ≤ b)) (fun x hx hs => ⟨hs, .inl hx⟩)).below HT.out.below)
  have HK := Lib.hid hk
  have HSS := Lib.hid hS
  clear h hk hS
  unfold bagZ zero3 at HT H
  go_enter Try.func10, Try.ntmps10
  go_upto_region 1 with (fail)
  generalize ((w.alloc (.cells (bag3 B ps.length c s q) 28)).alloc _).alloc _ = w0 at HT H ⊢
  have b0 : w0.cell? ⟨w.heap.size, 0, none⟩ = some (.slice B ps.length c) := HT.out.one.cell 0
  have b1 : w0.cell? ⟨w.heap.size, 1, none⟩ = some (.int .i64 s) := HT.out.one.cell 1
  have b2 : w0.cell? ⟨w.heap.size, 2, none⟩ = some (.int .i64 q) := HT.out.one.cell 2
  go_wp2_with fail
  clear b0 b1 b2
  refine (RefLook_yes H.out c s q HK.out).mono ?_
  rintro e w1 ⟨A1, c1, rfl, hd, hb⟩
  unfold three
  have hA := hb.trans ((Below.refl _ w1).alloc hb.size (.cells #[.int .i64 p.frm, .int .i64 p.dst, .slice A1 p.d.length c1] 31))
  have HX2 := Lib.hid (below_on HT.out.below hA)
  have HO := Lib.hid ((Mod.of_below hA []).whole HT.out.one (by simp))
  have HZ := Lib.hid ((Mod.of_below hA []).whole HT.out.two (by simp))
  have HY := Lib.hid ((Mod.of_below hA []).whole HT.out.tre (by simp))
  have HQ := Lib.hid (Whole.new w1 31 #[.int .i64 p.frm, .int .i64 p.dst, .slice A1 p.d.length c1])
  have H2 := Lib.hid (H.out.below hA)
  have HSZ := Lib.hid (show w.heap.size + 3 ≤ (w1.alloc (.cells #[.int .i64 p.frm, .int .i64 p.dst, .slice A1 p.d.length c1] 31)).heap.size by have h1 := HT.out.size; have h2 := hA.size; omega)
  have HW1 := Lib.hid (show w.heap.size + 3 ≤ w1.heap.size by have h1 := HT.out.size; have h2 := hb.size; omega)
  go_upto_region 2 with (fail)
  generalize w1.alloc (.cells #[.int .i64 p.frm, .int .i64 p.dst, .slice A1 p.d.length c1] 31) = w2 at HX2 HO HZ HY HQ H2 HSZ ⊢
  clear hA hb hd HT H
  go_wp2_with fail
  go_loopw [9, 10] (fun v i wx => ∃ j : Nat, i = .int .i64 (j : Int) ∧ j ≤ ps.length ∧ Hid (GrewP (fun b => S b ∧ (b < w.heap.size ∨ w.heap.size + 3 ≤ b)) w2 ((ps.take j).eraseIdx k) v wx)) (fun _ i _ => ps.length - (intOf i).toNat)
  case atStart => exact ⟨0, rfl, by omega, Lib.hid (by rw [List.take_zero]; exact GrewP.nil _ w2)⟩
  case round =>
    obtain ⟨j, rfl, hj, HG⟩ := hrel
    have hbg := HG.out.below
    have b0 : wr.cell? ⟨w.heap.size, 0, none⟩ = some (.slice B ps.length c) := ((Mod.of_below hbg []).whole HO.out (by simp)).cell 0
    by_cases hlt : j < ps.length
    · by_cases he : j = k
      · subst he
        have HER := Lib.hid (er_eq hlt)
        clear hbg
        go_wp2_with fail
        go_roundw
        case rel => exact ⟨j + 1, rfl, hlt, by rw [HER.out]; exact HG⟩
        case measure => simp only [intOf]; omega
      · have HPK := Lib.hid (List.getElem?_eq_getElem hlt)
        generalize ps[j] = r at HPK
        have HER := Lib.hid (er_ne HPK.out he)
        have hne : ((j : Int) != (k : Int)) = true := by simp; omega
        have hne2 : ¬ (j : Int) = (k : Int) := by omega
        clear he
        obtain ⟨b', o', A', c', e1, a0, a1, a2, hd⟩ := ((H2.out.mono (S' := fun b => (S b ∧ (b < w.heap.size ∨ w.heap.size + 3 ≤ b)) ∧ b < w2.heap.size) (fun x hx hs => ⟨hs, hx⟩)).below hbg).get HPK.out
        subst e1
        have HD := Lib.hid hd
        clear hd hbg
        go_wp2_with (at_builtin; refine app_pk rfl (.tmp 31) (.tmp 37) rfl _ _ HG.out rfl r A' c' HD.out rfl (by have := List.length_eraseIdx_le (l := ps.take j) (i := k); rw [List.length_take] at this; omega) ?_; intro v2 w5 hg2; rw [← HER.out] at hg2; have HG5 := Lib.hid hg2; clear hg2)
        go_roundw
        case rel => exact ⟨j + 1, rfl, hlt, HG5⟩
        case measure => simp only [intOf]; omega
    · obtain rfl : j = ps.length := by omega
      have HG1 := HG
      rw [List.take_length] at HG1
      have hm := Mod.of_below hbg []
      have HO3 := hm.whole HO.out (by simp)
      have HZ3 := Lib.hid (hm.whole HZ.out (by simp))
      have HY3 := Lib.hid (hm.whole HY.out (by simp))
      have HQ3 := Lib.hid (hm.whole HQ.out (by simp))
      have HX3 := Lib.hid (below_on HX2.out hbg)
      obtain ⟨B', c', ev, hl1, hl2⟩ := HG1.out.shape
      subst ev
      have HP3 := Lib.hid (HG1.out.at (fun x hx => ⟨HSS.out x (Nat.le_trans HX2.out.size hx), .inr (by have := HSZ.out; omega)⟩))
      have HL := Lib.hid (And.intro hl1 hl2)
      have f0 := HO3.frozen 0
      have b1 : wr.cell? ⟨w.heap.size, 1, none⟩ = some (.int .i64 s) := HO3.cell 1
      have HOC := Lib.hid (HO3.store 0 (.slice B' (ps.eraseIdx k).length c'))
      have HM3 := Lib.hid ((Mod.refl [w.heap.size] wr).store (p := ⟨w.heap.size, 0, none⟩) (.inl (by simp)) (.slice B' (ps.eraseIdx k).length c'))
      clear hbg hm HO3 hl1 hl2
      go_upto_region 11 with (fail)
      have HZ2 := HM3.out.whole HZ3.out (by simp)
      have HY2 := HM3.out.whole HY3.out (by simp; omega)
      have HQ2 := HM3.out.whole HQ3.out (by have := HW1.out; simp; omega)
      have HO2 := HOC.out
      have HX4 := Lib.hid (HX3.out.setCell (p := ⟨w.heap.size, 0, none⟩) (Nat.le_refl _) (.slice B' (ps.eraseIdx k).length c'))
      have HP4 := Lib.hid (HP3.out.mod HM3.out (by intro x hx hs; have h2 := hs.2; rw [List.mem_singleton.1 hx] at h2; omega))
      clear b0 b1 f0
      generalize wr.setCell ⟨w.heap.size, 0, none⟩ (.slice B' (ps.eraseIdx k).length c') = w4 at HZ2 HY2 HQ2 HO2 HX4 HP4 ⊢
      have hs1 := HW1.out
      have n1 : ¬ w1.heap.size = w.heap.size + 1 := by omega
      have n2 : ¬ w.heap.size + 1 = w1.heap.size := by omega
      have n3 : ¬ w1.heap.size = w.heap.size + 1 + 1 := by omega
      have n4 : ¬ w.heap.size + 1 + 1 = w1.heap.size := by omega
      have b0 : w4.drew.cell? ⟨w.heap.size, 0, none⟩ = some (.slice B' (ps.eraseIdx k).length c') := HO2.cell 0
      have b1 : w4.drew.cell? ⟨w.heap.size, 1, none⟩ = some (.int .i64 s) := HO2.cell 1
      have b2 : w4.drew.cell? ⟨w.heap.size, 2, none⟩ = some (.int .i64 q) := HO2.cell 2
      have bb0 : w4.cell? ⟨w.heap.size, 0, none⟩ = some (.slice B' (ps.eraseIdx k).length c') := HO2.cell 0
      have bb1 : w4.cell? ⟨w.heap.size, 1, none⟩ = some (.int .i64 s) := HO2.cell 1
      have bb2 : w4.cell? ⟨w.heap.size, 2, none⟩ = some (.int .i64 q) := HO2.cell 2
      have z0 : w4.drew.cell? ⟨w.heap.size + 1, 0, none⟩ = some (.slice none 0 0) := HZ2.cell 0
      have z1 : w4.drew.cell? ⟨w.heap.size + 1, 1, none⟩ = some (.int .i64 0) := HZ2.cell 1
      have z2 : w4.drew.cell? ⟨w.heap.size + 1, 2, none⟩ = some (.int .i64 0) := HZ2.cell 2
      have g0 : w4.frozen? ⟨w.heap.size + 1, 0, none⟩ = false := HZ2.frozen 0
      have g1 : w4.frozen? ⟨w.heap.size + 1, 1, none⟩ = false := HZ2.frozen 1
      have g2 : w4.frozen? ⟨w.heap.size + 1, 2, none⟩ = false := HZ2.frozen 2
      have y0 : w4.drew.cell? ⟨w.heap.size + 1 + 1, 0, none⟩ = some (.int .i64 0) := HY2.cell 0
      have y1 : w4.drew.cell? ⟨w.heap.size + 1 + 1, 1, none⟩ = some (.int .i64 0) := HY2.cell 1
      have y2 : w4.drew.cell? ⟨w.heap.size + 1 + 1, 2, none⟩ = some (.slice none 0 0) := HY2.cell 2
      have e0 : w4.frozen? ⟨w.heap.size + 1 + 1, 0, none⟩ = false := HY2.frozen 0
      have e1 : w4.frozen? ⟨w.heap.size + 1 + 1, 1, none⟩ = false := HY2.frozen 1
      have e2 : w4.frozen? ⟨w.heap.size + 1 + 1, 2, none⟩ = false := HY2.frozen 2
      have zz0 : w4.cell? ⟨w.heap.size + 1, 0, none⟩ = some (.slice none 0 0) := HZ2.cell 0
      have zz1 : w4.cell? ⟨w.heap.size + 1, 1, none⟩ = some (.int .i64 0) := HZ2.cell 1
      have zz2 : w4.cell? ⟨w.heap.size + 1, 2, none⟩ = some (.int .i64 0) := HZ2.cell 2
      have yy0 : w4.cell? ⟨w.heap.size + 1 + 1, 0, none⟩ = some (.int .i64 0) := HY2.cell 0
      have yy1 : w4.cell? ⟨w.heap.size + 1 + 1, 1, none⟩ = some (.int .i64 0) := HY2.cell 1
      have yy2 : w4.cell? ⟨w.heap.size + 1 + 1, 2, none⟩ = some (.slice none 0 0) := HY2.cell 2
      have p0 : w4.drew.cell? ⟨w1.heap.size, 0, none⟩ = some (.int .i64 p.frm) := HQ2.cell 0
      have pp0 : w4.cell? ⟨w1.heap.size, 0, none⟩ = some (.int .i64 p.frm) := HQ2.cell 0
      have p1 : w4.drew.cell? ⟨w1.heap.size, 1, none⟩ = some (.int .i64 p.dst) := HQ2.cell 1
      have pp1 : w4.cell? ⟨w1.heap.size, 1, none⟩ = some (.int .i64 p.dst) := HQ2.cell 1
      have p2 : w4.drew.cell? ⟨w1.heap.size, 2, none⟩ = some (.slice A1 p.d.length c1) := HQ2.cell 2
      have pp2 : w4.cell? ⟨w1.heap.size, 2, none⟩ = some (.slice A1 p.d.length c1) := HQ2.cell 2
      clear HO2 HZ2 HY2 HQ2 hs1
      go_wp2_with fail
      go_region
      all_goals
        go_wp2_with fail
        refine bodyPost_ret (v := .tuple #[.agg (bag3 B' (ps.eraseIdx k).length c' s q), .agg (three p A1 c1), .bool true]) (by simp [results, Try.results10, go_sem, z0, z1, z2, y0, y1, y2, zz0, zz1, zz2, yy0, yy1, yy2, bag3, three]) rfl ?_
        refine ⟨B', c', A1, c1, rfl, HL, Lib.hid (PksAt.mono (PksAt.mod (F := [w.heap.size + 1, w.heap.size + 1 + 1]) HP4.out ?_ ?_) (fun b _ hb => hb.1)), ?_⟩
        · repeat' (first | with_reducible refine Mod.drew ?_ | with_reducible refine Mod.store ?_ ?_ _)
          all_goals first | exact Mod.refl _ _ | exact .inl (by simp)
        · intro x hx hs
          have h2 := hs.2
          have h3 : x = w.heap.size + 1 ∨ x = w.heap.size + 1 + 1 := by simpa using hx
          omega
        · repeat' (first | with_reducible refine Below.drew ?_ | with_reducible refine Below.setCell ?_ ?_ _)
          all_goals first | exact HX4.out | (show w.heap.size ≤ w.heap.size + 1; omega) | (show w.heap.size ≤ w.heap.size + 1 + 1; omega)
theorem Sound.erase {b : Bg} {n : Nat} (h : Sound b n) (k : Nat) : Sound ⟨b.ps.eraseIdx k, b.s, b.q⟩ n :=
  ⟨Nat.le_trans (List.length_eraseIdx_le _ _) h.le, fun p hp => h.short p (List.mem_of_mem_eraseIdx hp), h.s0, h.s1, h.q0, h.q1⟩
theorem Sound.twice {b : Bg} {n k : Nat} {p : Pk} (h : Sound b n) (hk : b.ps[k]? = some p) (h48 : b.ps.length < 48) : Sound ⟨b.ps ++ [p], b.s, b.q⟩ n :=
  ⟨by show (b.ps ++ [p]).length ≤ 48; rw [List.length_append, List.length_singleton]; omega, fun r hr => by
    rcases List.mem_append.1 hr with hr | hr
    · exact h.short r hr
    · rw [List.mem_singleton.1 hr]; exact h.short p (List.mem_of_getElem? hk), h.s0, h.s1, h.q0, h.q1⟩
theorem RefSend_any (h : PksAt S w B b.ps) (hs : Sound b n) (hn : n ≤ 4611686018427387904) (c : Nat) (hc : b.ps.length ≤ c ∧ c ≤ 9223372036854775807) (p : Pk) (A : Option Addr) (d : Nat) (hD : Data S w A p.d) (hS : ∀ x, w.heap.size ≤ x → S x) :
    Calls Try.prog 17 #[.agg (bag3 B b.ps.length c b.s b.q), .agg (three p A d)] w fun e w' => ∃ B' c', e = .returned (.tuple #[.agg (bag3 B' (sent b p).ps.length c' (sent b p).s (sent b p).q), .int .i64 (sentErr b p)]) ∧ Hid ((sent b p).ps.length ≤ c' ∧ c' ≤ 9223372036854775807) ∧ Hid (PksAt S w' B' (sent b p).ps) ∧ Below w.heap.size w w' := by
  have h1 := hs.s0
  have h2 := hs.s1
  have h3 := hs.q0
  have h4 := hs.q1
  have hws : IntKind.i64.wrap (b.s + 1) = b.s + 1 := IntWalk.i64_in _ (by omega)
  have hwq : IntKind.i64.wrap (b.q + 1) = b.q + 1 := IntWalk.i64_in _ (by omega)
  unfold sent sentErr
  by_cases c1 : 200 < p.d.length
  · rw [if_pos c1, if_pos c1]
    exact (RefSend_space b.ps.length c b.s b.q p A d c1 hwq w).mono fun e w' k => ⟨B, c, k.1, Lib.hid hc, Lib.hid (h.below k.2), k.2⟩
  · rw [if_neg c1, if_neg c1]
    by_cases c2 : b.ps.length = 48
    · rw [if_pos c2, if_pos c2]
      exact (RefSend_full b.ps.length c b.s b.q p A d (by omega) c2 hwq w).mono fun e w' k => ⟨B, c, k.1, Lib.hid hc, Lib.hid (h.below k.2), k.2⟩
    · rw [if_neg c2, if_neg c2]
      refine (RefSend_ok h c hc.1 b.s b.q p A d (by omega) (by have := hs.le; omega) hD hS hws).mono ?_
      rintro e w' ⟨B', c', rfl, k1, k2, k3⟩
      have e : (b.ps ++ [p]).length = b.ps.length + 1 := by simp
      exact ⟨B', c', by rw [e], Lib.hid (by rw [e]; exact k1.out), k2, k3⟩
end
end Go.Proofs.Ytnbfdgccaacdiaa
