/- Valid and Encode answer what the document says, and no message is longer than a packet; for every message. -/
import Derived.Test.YtboflkadabagfaaRows
import Derived.Test.YtboflkadabagfaaWireR12
import Derived.Test.YtboflkadabagfaaLaw
import Derived.JoinedCond
import Derived.OpenShut
namespace Go.Proofs.Ytboflkadabagfaa.lawWireEncodes
open Go Go.RowKit Go.ChangeShapes Go.WideShapes Go.ChangeAt
set_option linter.unusedVariables false
set_option linter.unusedSimpArgs false
set_option maxRecDepth 100000 in
set_option maxHeartbeats 8000000 in
theorem walk (A : Option Addr) (c : Nat) (m : WM.Msg) (w : World) (hC : Came w A c m) :
    Calls Try.prog 3 #[.agg (cellsM m (.slice A m.stamp.length c))] w (LK.True_ w) := by
  have HX := Lib.hid ((Below.refl _ w).alloc (Nat.le_refl _) (.cells (cellsM m (.slice A m.stamp.length c)) 28))
  have HK := Lib.hid (Whole.new w 28 (cellsM m (.slice A m.stamp.length c)))
  have HC := Lib.hid (hC.below HX.out)
  clear hC
  go_enter Try.func3, Try.ntmps3
  go_upto_region 1 with (fail)
  generalize w.alloc (.cells (cellsM m (.slice A m.stamp.length c)) 28) = w0 at HC HK HX ⊢
  go_wp2_with fail
  refine (awake_any _).mono ?_
  rintro e w1 ⟨rfl, hb⟩
  have HX1 := Lib.hid (below_on HX.out hb)
  have HC1 := Lib.hid (HC.out.below hb)
  have HK1 := Lib.hid (blk_below HK.out hb)
  have HLD1 := Lib.hid (msg_range HK1.out)
  clear hb HX HC HK
  go_wp2_with (refine wpList_load_mid rfl 28 (.tmp 1) rfl w.heap.size 0 rfl (cellsM m (.slice A m.stamp.length c)).toList _ HLD1.out Try.underlying28 rfl (by kernel_rfl) ?_)
  clear HLD1
  refine (own_of A c m w1 HC1.out).mono ?_
  rintro e w2 ⟨A2, c2, rfl, hf, hb⟩
  have HF2 := Lib.hid hf.out
  have HX2 := Lib.hid (below_on HX1.out hb)
  have HC2 := Lib.hid (HC1.out.below hb)
  have HK2 := Lib.hid (blk_below HK1.out hb)
  clear hf hb HX1 HC1 HK1
  go_wp2_with fail
  refine (wEnc_any A2 c2 m w2 HF2.out).mono ?_
  rintro e w5 ⟨A5, c5, rfl, hb5, hb⟩
  have HX5 := Lib.hid (below_on HX2.out hb)
  have HC5 := Lib.hid (HC2.out.below hb)
  have HK5 := Lib.hid (blk_below HK2.out hb)
  have HLD5 := Lib.hid (msg_range HK5.out)
  clear hb HX2 HC2 HK2 HF2
  go_wp2_with (refine wpList_load_mid rfl 28 (.tmp 1) rfl w.heap.size 0 rfl (cellsM m (.slice A m.stamp.length c)).toList _ HLD5.out Try.underlying28 rfl (by kernel_rfl) ?_)
  clear HLD5
  refine (rEnc_any A c m w5 HC5.out.six).mono ?_
  rintro e w6 ⟨A6, c6, rfl, hb6, hb⟩
  have HX6 := Lib.hid (below_on HX5.out hb)
  have HC6 := Lib.hid (HC5.out.below hb)
  have HK6 := Lib.hid (blk_below HK5.out hb)
  have HB5 := Lib.hid (hb5.out.below hb)
  have HB6 := Lib.hid hb6.out
  clear hb hb5 hb6 HX5 HC5 HK5
  go_upto_region 5 with (fail)
  have hKeep : ∀ (us : Nat → Value) (wa wb : World), Below wa.heap.size wa wb → ∀ j, known [fun us y => us 0 = .slice A5 (encE m).length c5, fun us y => us 1 = .string ⟨(encE m).toArray⟩, fun us y => us 2 = .slice A6 (encE m).length c6, fun us y => us 3 = .string ⟨(encE m).toArray⟩, fun us y => us 4 = .bool true, fun us y => us 5 = .bool true, fun us y => us 6 = .int .i64 (encC m), fun us y => us 7 = .int .i64 (encC m), fun us y => us 8 = .bool true, fun us y => us 9 = .bool true, fun us y => us 10 = .bool true, fun us y => us 11 = .agg (cellsM m (.slice A m.stamp.length c)), fun us y => ∃ A7 c7, us 12 = .agg (cellsM m (.slice A7 m.stamp.length c7)) ∧ Fit y A7 c7 m, fun us y => us 13 = .bool (WM.valid m), fun us y => us 14 = .agg (cellsM m (.slice A m.stamp.length c)), fun us y => us 15 = .bool (WM.valid m), fun us y => us 16 = .bool true, fun us y => us 17 = .bool true, fun us y => us 18 = .bool true, fun us y => us 19 = .slice A5 (encE m).length c5, fun us y => us 20 = .int .i64 ((encE m).length : Int), fun us y => us 21 = .bool true, fun us y => us 22 = .bool true, fun us y => us 23 = .bool true] j us wa → known [fun us y => us 0 = .slice A5 (encE m).length c5, fun us y => us 1 = .string ⟨(encE m).toArray⟩, fun us y => us 2 = .slice A6 (encE m).length c6, fun us y => us 3 = .string ⟨(encE m).toArray⟩, fun us y => us 4 = .bool true, fun us y => us 5 = .bool true, fun us y => us 6 = .int .i64 (encC m), fun us y => us 7 = .int .i64 (encC m), fun us y => us 8 = .bool true, fun us y => us 9 = .bool true, fun us y => us 10 = .bool true, fun us y => us 11 = .agg (cellsM m (.slice A m.stamp.length c)), fun us y => ∃ A7 c7, us 12 = .agg (cellsM m (.slice A7 m.stamp.length c7)) ∧ Fit y A7 c7 m, fun us y => us 13 = .bool (WM.valid m), fun us y => us 14 = .agg (cellsM m (.slice A m.stamp.length c)), fun us y => us 15 = .bool (WM.valid m), fun us y => us 16 = .bool true, fun us y => us 17 = .bool true, fun us y => us 18 = .bool true, fun us y => us 19 = .slice A5 (encE m).length c5, fun us y => us 20 = .int .i64 ((encE m).length : Int), fun us y => us 21 = .bool true, fun us y => us 22 = .bool true, fun us y => us 23 = .bool true] j us wb := by
    intro us wa wb hb j h
    match j, h with
    | 0, h => exact h
    | 1, h => exact h
    | 2, h => exact h
    | 3, h => exact h
    | 4, h => exact h
    | 5, h => exact h
    | 6, h => exact h
    | 7, h => exact h
    | 8, h => exact h
    | 9, h => exact h
    | 10, h => exact h
    | 11, h => exact h
    | 12, h => (obtain ⟨A7, c7, e12, f12⟩ : ∃ A7 c7, us 12 = .agg (cellsM m (.slice A7 m.stamp.length c7)) ∧ Fit wa A7 c7 m := h; exact (show ∃ A7 c7, us 12 = .agg (cellsM m (.slice A7 m.stamp.length c7)) ∧ Fit wb A7 c7 m from ⟨A7, c7, e12, f12.below hb⟩))
    | 13, h => exact h
    | 14, h => exact h
    | 15, h => exact h
    | 16, h => exact h
    | 17, h => exact h
    | 18, h => exact h
    | 19, h => exact h
    | 20, h => exact h
    | 21, h => exact h
    | 22, h => exact h
    | 23, h => exact h
    | q + 24, h => exact trivial
  have HKEEP := Lib.hid hKeep
  clear hKeep
  refine region_eany [some 20, some 21, some 22, some 23, some 24, some 25, some 26, some 27, some 28, some 29, some 30, some 31, some 32, some 33, some 34, some 35, some 36, some 37, some 38, some 39, some 40, some 41, some 42, some 2] (known [fun us y => us 0 = .slice A5 (encE m).length c5, fun us y => us 1 = .string ⟨(encE m).toArray⟩, fun us y => us 2 = .slice A6 (encE m).length c6, fun us y => us 3 = .string ⟨(encE m).toArray⟩, fun us y => us 4 = .bool true, fun us y => us 5 = .bool true, fun us y => us 6 = .int .i64 (encC m), fun us y => us 7 = .int .i64 (encC m), fun us y => us 8 = .bool true, fun us y => us 9 = .bool true, fun us y => us 10 = .bool true, fun us y => us 11 = .agg (cellsM m (.slice A m.stamp.length c)), fun us y => ∃ A7 c7, us 12 = .agg (cellsM m (.slice A7 m.stamp.length c7)) ∧ Fit y A7 c7 m, fun us y => us 13 = .bool (WM.valid m), fun us y => us 14 = .agg (cellsM m (.slice A m.stamp.length c)), fun us y => us 15 = .bool (WM.valid m), fun us y => us 16 = .bool true, fun us y => us 17 = .bool true, fun us y => us 18 = .bool true, fun us y => us 19 = .slice A5 (encE m).length c5, fun us y => us 20 = .int .i64 ((encE m).length : Int), fun us y => us 21 = .bool true, fun us y => us 22 = .bool true, fun us y => us 23 = .bool true]) (fun y => Below w6.heap.size w6 y) (fun y => True) [] [[], [0], [], [2], [0, 1, 2, 3], [0, 1, 2, 3, 4], [0, 1, 2, 3, 4, 5], [0, 1, 2, 3, 4, 5], [0, 1, 2, 3, 4, 5, 6, 7], [0, 1, 2, 3, 4, 5, 6, 7, 8], [0, 1, 2, 3, 4, 5, 6, 7, 8, 9], [0, 1, 2, 3, 4, 5, 6, 7, 8, 9, 10], [0, 1, 2, 3, 4, 5, 6, 7, 8, 9, 10, 11], [0, 1, 2, 3, 4, 5, 6, 7, 8, 9, 10, 11, 12], [0, 1, 2, 3, 4, 5, 6, 7, 8, 9, 10], [0, 1, 2, 3, 4, 5, 6, 7, 8, 9, 10, 11, 12, 13, 14], [0, 1, 2, 3, 4, 5, 6, 7, 8, 9, 10, 11, 12, 13, 14, 15], [0, 1, 2, 3, 4, 5, 6, 7, 8, 9, 10, 11, 12, 13, 14, 15, 16], [0, 1, 2, 3, 4, 5, 6, 7, 8, 9, 10, 11, 12, 13, 14, 15, 16, 17], [0, 1, 2, 3, 4, 5, 6, 7, 8, 9, 10, 11, 12, 13, 14, 15, 16, 17, 18], [0, 1, 2, 3, 4, 5, 6, 7, 8, 9, 10, 11, 12, 13, 14, 15, 16, 17, 18, 19], [0, 1, 2, 3, 4, 5, 6, 7, 8, 9, 10, 11, 12, 13, 14, 15, 16, 17, 18, 19, 20], [0, 1, 2, 3, 4, 5, 6, 7, 8, 9, 10, 11, 12, 13, 14, 15, 16, 17, 18, 19, 20, 21], [0, 1, 2, 3, 4, 5, 6, 7, 8, 9, 10, 11, 12, 13, 14, 15, 16, 17, 18, 19, 20, 21, 22]] (by
    intro j us us' y h hF
    match j, h, hF with
    | 0, h, hF => (have hF : us 0 = .slice A5 (encE m).length c5 := hF; rw [h 0 (.inl rfl)] at hF; exact hF)
    | 1, h, hF => (have hF : us 1 = .string ⟨(encE m).toArray⟩ := hF; rw [h 1 (.inl rfl)] at hF; exact hF)
    | 2, h, hF => (have hF : us 2 = .slice A6 (encE m).length c6 := hF; rw [h 2 (.inl rfl)] at hF; exact hF)
    | 3, h, hF => (have hF : us 3 = .string ⟨(encE m).toArray⟩ := hF; rw [h 3 (.inl rfl)] at hF; exact hF)
    | 4, h, hF => (have hF : us 4 = .bool true := hF; rw [h 4 (.inl rfl)] at hF; exact hF)
    | 5, h, hF => (have hF : us 5 = .bool true := hF; rw [h 5 (.inl rfl)] at hF; exact hF)
    | 6, h, hF => (have hF : us 6 = .int .i64 (encC m) := hF; rw [h 6 (.inl rfl)] at hF; exact hF)
    | 7, h, hF => (have hF : us 7 = .int .i64 (encC m) := hF; rw [h 7 (.inl rfl)] at hF; exact hF)
    | 8, h, hF => (have hF : us 8 = .bool true := hF; rw [h 8 (.inl rfl)] at hF; exact hF)
    | 9, h, hF => (have hF : us 9 = .bool true := hF; rw [h 9 (.inl rfl)] at hF; exact hF)
    | 10, h, hF => (have hF : us 10 = .bool true := hF; rw [h 10 (.inl rfl)] at hF; exact hF)
    | 11, h, hF => (have hF : us 11 = .agg (cellsM m (.slice A m.stamp.length c)) := hF; rw [h 11 (.inl rfl)] at hF; exact hF)
    | 12, h, hF => (have hF : ∃ A7 c7, us 12 = .agg (cellsM m (.slice A7 m.stamp.length c7)) ∧ Fit y A7 c7 m := hF; rw [h 12 (.inl rfl)] at hF; exact hF)
    | 13, h, hF => (have hF : us 13 = .bool (WM.valid m) := hF; rw [h 13 (.inl rfl)] at hF; exact hF)
    | 14, h, hF => (have hF : us 14 = .agg (cellsM m (.slice A m.stamp.length c)) := hF; rw [h 14 (.inl rfl)] at hF; exact hF)
    | 15, h, hF => (have hF : us 15 = .bool (WM.valid m) := hF; rw [h 15 (.inl rfl)] at hF; exact hF)
    | 16, h, hF => (have hF : us 16 = .bool true := hF; rw [h 16 (.inl rfl)] at hF; exact hF)
    | 17, h, hF => (have hF : us 17 = .bool true := hF; rw [h 17 (.inl rfl)] at hF; exact hF)
    | 18, h, hF => (have hF : us 18 = .bool true := hF; rw [h 18 (.inl rfl)] at hF; exact hF)
    | 19, h, hF => (have hF : us 19 = .slice A5 (encE m).length c5 := hF; rw [h 19 (.inl rfl)] at hF; exact hF)
    | 20, h, hF => (have hF : us 20 = .int .i64 ((encE m).length : Int) := hF; rw [h 20 (.inl rfl)] at hF; exact hF)
    | 21, h, hF => (have hF : us 21 = .bool true := hF; rw [h 21 (.inl rfl)] at hF; exact hF)
    | 22, h, hF => (have hF : us 22 = .bool true := hF; rw [h 22 (.inl rfl)] at hF; exact hF)
    | 23, h, hF => (have hF : us 23 = .bool true := hF; rw [h 23 (.inl rfl)] at hF; exact hF)
    | q + 24, h, hF => exact trivial) (by kernel_rfl) rfl (by kernel_rfl) (by kernel_rfl) (by kernel_rfl) (by exact (Below.refl _ _).drew) (trivial) (Z := fun vs => cq _ vs [(2, 23), (42, 22), (41, 21), (40, 20), (39, 19), (38, 18), (37, 17), (36, 16), (35, 15), (34, 14), (33, 13), (32, 12), (31, 11), (30, 10), (29, 9), (28, 8), (27, 7), (26, 6), (25, 5), (24, 4), (23, 3), (22, 2), (21, 1), (20, 0)]) (fun _ => rfl) ?_ ?_
  · skip
    refine EAll.snoc (i := 23) ?_ rfl rfl trivial ?_
    rotate_left
    · intro vs B y hI hJ hL hA K E hK
      have hB := hI
      clear hJ
      have e22 : vs 22 = .bool true := hA 22 (by decide)
      clear hA
      have t42 := (hL.at_ 22 (by decide) 42 rfl).trans (congrArg some e22)
      clear hL e22
      refine Box.mk ?_
      go_simp
      exact hK.out _ _ hB (show (updv vs 23 _) 23 = .bool true from rfl) (fun _ _ _ h => h) (fun _ h => h)
    refine EAll.snoc (i := 22) ?_ rfl rfl trivial ?_
    rotate_left
    · intro vs B y hI hJ hL hA K E hK
      have hB := hI
      clear hJ
      have e18 : vs 18 = .bool true := hA 18 (by decide)
      have e21 : vs 21 = .bool true := hA 21 (by decide)
      clear hA
      have t38 := (hL.at_ 18 (by decide) 38 rfl).trans (congrArg some e18)
      have t41 := (hL.at_ 21 (by decide) 41 rfl).trans (congrArg some e21)
      clear hL e18 e21
      refine Box.mk ?_
      go_simp
      exact hK.out _ _ hB (show (updv vs 22 _) 22 = .bool true from rfl) (fun _ _ _ h => h) (fun _ h => h)
    refine EAll.snoc (i := 21) ?_ rfl rfl (fun vs y hF h => absurd (show vs 18 = .bool true from hF 18 (by decide)) h) ?_
    rotate_left
    · intro vs B y hI hJ hL hA hg K E hK
      have hB := hI
      clear hJ hg
      have e20 : vs 20 = .int .i64 ((encE m).length : Int) := hA 20 (by decide)
      clear hA
      have t40 := (hL.at_ 20 (by decide) 40 rfl).trans (congrArg some e20)
      clear hL e20
      refine Box.mk ?_
      have hd : decide (((encE m).length : Int) ≤ 200) = true := by simp; have := encE_len m; omega
      have hd2 : (encE m).length ≤ 200 := by have := encE_len m; omega
      go_simp
      exact hK.out _ _ hB (show (updv vs 21 _) 21 = .bool true from rfl) (fun _ _ _ h => h) (fun _ h => h)
    refine EAll.snoc (i := 20) ?_ rfl rfl (fun vs y hF h => absurd (show vs 18 = .bool true from hF 18 (by decide)) h) ?_
    rotate_left
    · intro vs B y hI hJ hL hA hg K E hK
      have hB := hI
      clear hJ hg
      have e19 : vs 19 = .slice A5 (encE m).length c5 := hA 19 (by decide)
      clear hA
      have t39 := (hL.at_ 19 (by decide) 39 rfl).trans (congrArg some e19)
      clear hL e19
      refine Box.mk ?_
      go_simp
      exact hK.out _ _ hB (show (updv vs 20 _) 20 = .int .i64 ((encE m).length : Int) from rfl) (fun _ _ _ h => h) (fun _ h => h)
    refine EAll.snoc (i := 19) ?_ rfl rfl (fun vs y hF h => absurd (show vs 18 = .bool true from hF 18 (by decide)) h) ?_
    rotate_left
    · intro vs B y hI hJ hL hA hg K E hK
      have hB := hI
      clear hJ hg
      clear hA
      have t3 : B.tmps[3]? = some (.slice A5 (encE m).length c5) := (hL.out 3 rfl).trans rfl
      clear hL
      refine Box.mk ?_
      go_simp
      exact hK.out _ _ hB (show (updv vs 19 _) 19 = .slice A5 (encE m).length c5 from rfl) (fun _ _ _ h => h) (fun _ h => h)
    refine EAll.snoc (i := 18) ?_ rfl rfl trivial ?_
    rotate_left
    · intro vs B y hI hJ hL hA K E hK
      have hB := hI
      clear hJ
      have e17 : vs 17 = .bool true := hA 17 (by decide)
      clear hA
      have t37 := (hL.at_ 17 (by decide) 37 rfl).trans (congrArg some e17)
      clear hL e17
      refine Box.mk ?_
      go_simp
      exact hK.out _ _ hB (show (updv vs 18 _) 18 = .bool true from rfl) (fun _ _ _ h => h) (fun _ h => h)
    refine EAll.snoc (i := 17) ?_ rfl rfl trivial ?_
    rotate_left
    · intro vs B y hI hJ hL hA K E hK
      have hB := hI
      clear hJ
      have e10 : vs 10 = .bool true := hA 10 (by decide)
      have e16 : vs 16 = .bool true := hA 16 (by decide)
      clear hA
      have t30 := (hL.at_ 10 (by decide) 30 rfl).trans (congrArg some e10)
      have t36 := (hL.at_ 16 (by decide) 36 rfl).trans (congrArg some e16)
      clear hL e10 e16
      refine Box.mk ?_
      go_simp
      exact hK.out _ _ hB (show (updv vs 17 _) 17 = .bool true from rfl) (fun _ _ _ h => h) (fun _ h => h)
    refine EAll.snoc (i := 16) ?_ rfl rfl (fun vs y hF h => absurd (show vs 10 = .bool true from hF 10 (by decide)) h) ?_
    rotate_left
    · intro vs B y hI hJ hL hA hg K E hK
      have hB := hI
      clear hJ hg
      have e13 : vs 13 = .bool (WM.valid m) := hA 13 (by decide)
      have e15 : vs 15 = .bool (WM.valid m) := hA 15 (by decide)
      clear hA
      have t33 := (hL.at_ 13 (by decide) 33 rfl).trans (congrArg some e13)
      have t35 := (hL.at_ 15 (by decide) 35 rfl).trans (congrArg some e15)
      clear hL e13 e15
      refine Box.mk ?_
      go_simp
      exact hK.out _ _ hB (show (updv vs 16 _) 16 = .bool true from rfl) (fun _ _ _ h => h) (fun _ h => h)
    refine EAll.snoc (i := 15) ?_ rfl rfl (fun vs y hF h => absurd (show vs 10 = .bool true from hF 10 (by decide)) h) ?_
    rotate_left
    · intro vs B y hI hJ hL hA hg K E hK
      have hB := hI
      clear hJ hg
      have e14 : vs 14 = .agg (cellsM m (.slice A m.stamp.length c)) := hA 14 (by decide)
      clear hA
      have t34 := (hL.at_ 14 (by decide) 34 rfl).trans (congrArg some e14)
      clear hL e14
      refine Box.mk ?_
      go_simp
      with_reducible refine (r6_Valid A c m y ((HC6.out.six).below hB)).mono ?_
      rintro e w5 ⟨rfl, hb⟩
      go_simp
      exact hK.out _ _ (below_on hB hb) (show (updv vs 15 _) 15 = .bool (WM.valid m) from rfl) (fun j _ _ h => HKEEP.out vs y w5 hb j h) (fun _ h => h)
    refine EAll.snoc (i := 14) ?_ rfl rfl (fun vs y hF h => absurd (show vs 10 = .bool true from hF 10 (by decide)) h) ?_
    rotate_left
    · intro vs B y hI hJ hL hA hg K E hK
      have hB := hI
      clear hJ hg
      clear hA
      have t1 : B.tmps[1]? = some (.pointer (some ⟨w.heap.size, 0, none⟩)) := (hL.out 1 rfl).trans rfl
      clear hL
      refine Box.mk ?_
      refine wp_load_mid 28 (.tmp 1) rfl (w.heap.size) 0 (by simp [Act.eval, t1]) (cellsM m (.slice A m.stamp.length c)).toList _ (msg_range (show MsgBlk y (w.heap.size) m (.slice A m.stamp.length c) from (Mod.of_below hB []).whole HK6.out (by simp))) Try.underlying28 rfl (by kernel_rfl) ?_
      exact hK.out _ _ hB (show (updv vs 14 _) 14 = .agg (cellsM m (.slice A m.stamp.length c)) from rfl) (fun _ _ _ h => h) (fun _ h => h)
    refine EAll.snoc (i := 13) ?_ rfl rfl (fun vs y hF h => absurd (show vs 10 = .bool true from hF 10 (by decide)) h) ?_
    rotate_left
    · intro vs B y hI hJ hL hA hg K E hK
      have hB := hI
      clear hJ hg
      have hF12 : ∃ A7 c7, vs 12 = .agg (cellsM m (.slice A7 m.stamp.length c7)) ∧ Fit y A7 c7 m := hA 12 (by decide)
      obtain ⟨A7, c7, e12, f12⟩ := hF12
      clear hA
      have t32 := (hL.at_ 12 (by decide) 32 rfl).trans (congrArg some e12)
      clear hL e12
      refine Box.mk ?_
      go_simp
      with_reducible refine (WValid_any _ _ m y f12).mono ?_
      rintro e w5 ⟨rfl, hb⟩
      go_simp
      exact hK.out _ _ (below_on hB hb) (show (updv vs 13 _) 13 = .bool (WM.valid m) from rfl) (fun j _ _ h => HKEEP.out vs y w5 hb j h) (fun _ h => h)
    refine EAll.snoc (i := 12) ?_ rfl rfl (fun vs y hF h => absurd (show vs 10 = .bool true from hF 10 (by decide)) h) ?_
    rotate_left
    · intro vs B y hI hJ hL hA hg K E hK
      have hB := hI
      clear hJ hg
      have e11 : vs 11 = .agg (cellsM m (.slice A m.stamp.length c)) := hA 11 (by decide)
      clear hA
      have t31 := (hL.at_ 11 (by decide) 31 rfl).trans (congrArg some e11)
      clear hL e11
      refine Box.mk ?_
      go_simp
      with_reducible refine (own_of A c m y (HC6.out.below hB)).mono ?_
      rintro e w5 ⟨A9, c9, rfl, hf, hb⟩
      have hf := hf.out
      go_simp
      exact hK.out _ _ (below_on hB hb) (show ∃ A7 c7, (updv vs 12 _) 12 = .agg (cellsM m (.slice A7 m.stamp.length c7)) ∧ Fit w5 A7 c7 m from ⟨A9, c9, rfl, hf⟩) (fun j _ _ h => HKEEP.out vs y w5 hb j h) (fun _ h => h)
    refine EAll.snoc (i := 11) ?_ rfl rfl (fun vs y hF h => absurd (show vs 10 = .bool true from hF 10 (by decide)) h) ?_
    rotate_left
    · intro vs B y hI hJ hL hA hg K E hK
      have hB := hI
      clear hJ hg
      clear hA
      have t1 : B.tmps[1]? = some (.pointer (some ⟨w.heap.size, 0, none⟩)) := (hL.out 1 rfl).trans rfl
      clear hL
      refine Box.mk ?_
      refine wp_load_mid 28 (.tmp 1) rfl (w.heap.size) 0 (by simp [Act.eval, t1]) (cellsM m (.slice A m.stamp.length c)).toList _ (msg_range (show MsgBlk y (w.heap.size) m (.slice A m.stamp.length c) from (Mod.of_below hB []).whole HK6.out (by simp))) Try.underlying28 rfl (by kernel_rfl) ?_
      exact hK.out _ _ hB (show (updv vs 11 _) 11 = .agg (cellsM m (.slice A m.stamp.length c)) from rfl) (fun _ _ _ h => h) (fun _ h => h)
    refine EAll.snoc (i := 10) ?_ rfl rfl trivial ?_
    rotate_left
    · intro vs B y hI hJ hL hA K E hK
      have hB := hI
      clear hJ
      have e9 : vs 9 = .bool true := hA 9 (by decide)
      clear hA
      have t29 := (hL.at_ 9 (by decide) 29 rfl).trans (congrArg some e9)
      clear hL e9
      refine Box.mk ?_
      go_simp
      exact hK.out _ _ hB (show (updv vs 10 _) 10 = .bool true from rfl) (fun _ _ _ h => h) (fun _ h => h)
    refine EAll.snoc (i := 9) ?_ rfl rfl trivial ?_
    rotate_left
    · intro vs B y hI hJ hL hA K E hK
      have hB := hI
      clear hJ
      have e5 : vs 5 = .bool true := hA 5 (by decide)
      have e8 : vs 8 = .bool true := hA 8 (by decide)
      clear hA
      have t25 := (hL.at_ 5 (by decide) 25 rfl).trans (congrArg some e5)
      have t28 := (hL.at_ 8 (by decide) 28 rfl).trans (congrArg some e8)
      clear hL e5 e8
      refine Box.mk ?_
      go_simp
      exact hK.out _ _ hB (show (updv vs 9 _) 9 = .bool true from rfl) (fun _ _ _ h => h) (fun _ h => h)
    refine EAll.snoc (i := 8) ?_ rfl rfl (fun vs y hF h => absurd (show vs 5 = .bool true from hF 5 (by decide)) h) ?_
    rotate_left
    · intro vs B y hI hJ hL hA hg K E hK
      have hB := hI
      clear hJ hg
      have e6 : vs 6 = .int .i64 (encC m) := hA 6 (by decide)
      have e7 : vs 7 = .int .i64 (encC m) := hA 7 (by decide)
      clear hA
      have t26 := (hL.at_ 6 (by decide) 26 rfl).trans (congrArg some e6)
      have t27 := (hL.at_ 7 (by decide) 27 rfl).trans (congrArg some e7)
      clear hL e6 e7
      refine Box.mk ?_
      go_simp
      exact hK.out _ _ hB (show (updv vs 8 _) 8 = .bool true from rfl) (fun _ _ _ h => h) (fun _ h => h)
    refine EAll.snoc (i := 7) ?_ rfl rfl (fun vs y hF h => absurd (show vs 5 = .bool true from hF 5 (by decide)) h) ?_
    rotate_left
    · intro vs B y hI hJ hL hA hg K E hK
      have hB := hI
      clear hJ hg
      clear hA
      have t6 : B.tmps[6]? = some (.int .i64 (encC m)) := (hL.out 6 rfl).trans rfl
      clear hL
      refine Box.mk ?_
      go_simp
      exact hK.out _ _ hB (show (updv vs 7 _) 7 = .int .i64 (encC m) from rfl) (fun _ _ _ h => h) (fun _ h => h)
    refine EAll.snoc (i := 6) ?_ rfl rfl (fun vs y hF h => absurd (show vs 5 = .bool true from hF 5 (by decide)) h) ?_
    rotate_left
    · intro vs B y hI hJ hL hA hg K E hK
      have hB := hI
      clear hJ hg
      clear hA
      have t4 : B.tmps[4]? = some (.int .i64 (encC m)) := (hL.out 4 rfl).trans rfl
      clear hL
      refine Box.mk ?_
      go_simp
      exact hK.out _ _ hB (show (updv vs 6 _) 6 = .int .i64 (encC m) from rfl) (fun _ _ _ h => h) (fun _ h => h)
    refine EAll.snoc (i := 5) ?_ rfl rfl trivial ?_
    rotate_left
    · intro vs B y hI hJ hL hA K E hK
      have hB := hI
      clear hJ
      have e4 : vs 4 = .bool true := hA 4 (by decide)
      clear hA
      have t24 := (hL.at_ 4 (by decide) 24 rfl).trans (congrArg some e4)
      clear hL e4
      refine Box.mk ?_
      go_simp
      exact hK.out _ _ hB (show (updv vs 5 _) 5 = .bool true from rfl) (fun _ _ _ h => h) (fun _ h => h)
    refine EAll.snoc (i := 4) ?_ rfl rfl trivial ?_
    rotate_left
    · intro vs B y hI hJ hL hA K E hK
      have hB := hI
      clear hJ
      have e1 : vs 1 = .string ⟨(encE m).toArray⟩ := hA 1 (by decide)
      have e3 : vs 3 = .string ⟨(encE m).toArray⟩ := hA 3 (by decide)
      clear hA
      have t21 := (hL.at_ 1 (by decide) 21 rfl).trans (congrArg some e1)
      have t23 := (hL.at_ 3 (by decide) 23 rfl).trans (congrArg some e3)
      clear hL e1 e3
      refine Box.mk ?_
      go_simp
      exact hK.out _ _ hB (show (updv vs 4 _) 4 = .bool true from rfl) (fun _ _ _ h => h) (fun _ h => h)
    refine EAll.snoc (i := 3) ?_ rfl rfl trivial ?_
    rotate_left
    · intro vs B y hI hJ hL hA K E hK
      have hB := hI
      clear hJ
      have e2 : vs 2 = .slice A6 (encE m).length c6 := hA 2 (by decide)
      clear hA
      have t22 := (hL.at_ 2 (by decide) 22 rfl).trans (congrArg some e2)
      clear hL e2
      refine Box.mk ?_
      have hcv := By.str_of (c := c6) (HB6.out.below hB)
      go_simp
      exact hK.out _ _ hB (show (updv vs 3 _) 3 = .string ⟨(encE m).toArray⟩ from rfl) (fun _ _ _ h => h) (fun _ h => h)
    refine EAll.snoc (i := 2) ?_ rfl rfl trivial ?_
    rotate_left
    · intro vs B y hI hJ hL hA K E hK
      have hB := hI
      clear hJ
      clear hA
      have t5 : B.tmps[5]? = some (.slice A6 (encE m).length c6) := (hL.out 5 rfl).trans rfl
      clear hL
      refine Box.mk ?_
      go_simp
      exact hK.out _ _ hB (show (updv vs 2 _) 2 = .slice A6 (encE m).length c6 from rfl) (fun _ _ _ h => h) (fun _ h => h)
    refine EAll.snoc (i := 1) ?_ rfl rfl trivial ?_
    rotate_left
    · intro vs B y hI hJ hL hA K E hK
      have hB := hI
      clear hJ
      have e0 : vs 0 = .slice A5 (encE m).length c5 := hA 0 (by decide)
      clear hA
      have t20 := (hL.at_ 0 (by decide) 20 rfl).trans (congrArg some e0)
      clear hL e0
      refine Box.mk ?_
      have hcv := By.str_of (c := c5) (HB5.out.below hB)
      go_simp
      exact hK.out _ _ hB (show (updv vs 1 _) 1 = .string ⟨(encE m).toArray⟩ from rfl) (fun _ _ _ h => h) (fun _ h => h)
    refine EAll.snoc (i := 0) ?_ rfl rfl trivial ?_
    rotate_left
    · intro vs B y hI hJ hL hA K E hK
      have hB := hI
      clear hJ
      clear hA
      have t3 : B.tmps[3]? = some (.slice A5 (encE m).length c5) := (hL.out 3 rfl).trans rfl
      clear hL
      refine Box.mk ?_
      go_simp
      exact hK.out _ _ hB (show (updv vs 0 _) 0 = .slice A5 (encE m).length c5 from rfl) (fun _ _ _ h => h) (fun _ h => h)
    exact EAll.nil
  · intro vs y hI hall
    have hB := hI
    have e23 : vs 23 = .bool true := hall 23 (by decide)
    clear hall HKEEP
    refine Box.mk ?_
    simp only [e23, ch, cq, allPut, puts, Act.put, List.setIfInBounds_toArray, List.set_cons_zero, List.set_cons_succ]
    have HXZ := Lib.hid (below_on HX6.out hB)
    clear e23 hB
    go_wp2_with fail
    go_ret
    exact ⟨rfl, HXZ.out⟩

theorem own : ownKnob Try.prog.godebug = none := by kernel_rfl
theorem laidOut : laidOutB Try.prog = true := by kernel_rfl
set_option maxRecDepth 100000 in
theorem lifted (os : Os) (started : os.Started) (H : Type) (enc : TypeId × Value → H) :
    ReturnsInHanded {} Try.checked os 3 .any (Rows.wireEncodesSpec.pre6 enc Try.prog Try.f3 [] false) (Rows.wireEncodesSpec.post enc Try.prog Try.f3 false true false false) := by
  refine LK.lifted_bare (C := Try.checked) (tb := 4) own started (by kernel_rfl) Try.func3 laidOut rfl (by kernel_rfl) (by kernel_rfl) Try.underlying4
    (fun ds h => by
      match ds, h with
      | [_], _ => rfl)
    (ChangeSpec.witness6 (enc := enc) (C := Try.checked) false ⟨#[], #[.agg #[.int .i64 0, .int .i64 0, .int .i64 0, .int .i64 0, .int .i64 0, .int .i64 0, .int .i64 0, .string ⟨#[]⟩, .int .i64 0, .int .i64 0, .int .i64 0, .bool false, .int .i64 0, .slice none 0 0, .int .i64 0, .int .i64 0]], []⟩ 8 (by kernel_rfl) (by kernel_rfl) (by kernel_rfl) (by kernel_rfl)) ?_
  intro W base args ds ps hval hA hwt _
  rw [show Try.f3.params.toList = [28] by kernel_rfl] at hA hwt
  have hval' : ∀ (j : Nat) t v, (#[28] : Array TypeId)[j]? = some t → args[j]? = some v → Value.okWide Try.prog W .any base t v := by
    rw [← Try.params3]; exact hval
  clear hval
  obtain ⟨v0, d0, rfl, rfl, h0⟩ := trodAll_one hA
  obtain ⟨A0, c0, m0, rfl, hC0⟩ := open_msg (hval' 0 28 v0 rfl rfl) h0 hwt (j := 0) rfl rfl
  exact walk A0 c0 m0 W hC0

/-- The statement. -/
theorem proved : Rows.WireEncodesSaid :=
  OpenClaim.holds_of_wide 3 Try.f3 rfl rfl rfl rfl rfl rfl rfl ⟨rfl, rfl, rfl, rfl, rfl⟩ rfl rfl rfl rfl rfl (by kernel_rfl) Try.func3 (by kernel_rfl)
    (of_decide_eq_true (by kernel_rfl)) (by unfold Func.isWrapper; first | (rw [if_pos (by decide +kernel)]; kernel_rfl) | (rw [if_neg (by decide +kernel)]; exact ⟨rfl, rfl⟩))
    (fun os started H enc _ => lifted os started H enc)

end Go.Proofs.Ytboflkadabagfaa.lawWireEncodes
