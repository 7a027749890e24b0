/- Same tells whether two messages are one, and unlike messages have unlike bytes; for every two messages. -/
import Derived.Test.YtboflkadabagfaaRows
import Derived.Test.YtboflkadabagfaaWireR12
import Derived.Test.YtboflkadabagfaaLaw
import Derived.JoinedCond
import Derived.OpenShut
namespace Go.Proofs.Ytboflkadabagfaa.lawWireSame
open Go Go.RowKit Go.ChangeShapes Go.WideShapes Go.ChangeAt
set_option linter.unusedVariables false
set_option linter.unusedSimpArgs false
theorem encC_no {m : WM.Msg} (h : WM.valid m = false) : encC m = 22 := if_neg (by rw [h]; decide)
theorem encC_yes {m : WM.Msg} (h : WM.valid m = true) : encC m = 0 := if_pos h
theorem encE_inj {a b : WM.Msg} (ha : WM.valid a = true) (hb : WM.valid b = true) : decide ((⟨(encE a).toArray⟩ : ByteArray) = ⟨(encE b).toArray⟩) = decide (a = b) := by
  have e1 : encE a = enc a := if_pos ha
  have e2 : encE b = enc b := if_pos hb
  rw [e1, e2]
  refine decide_eq_decide.2 ⟨fun h => ?_, fun h => by rw [h]⟩
  injection h with h
  exact enc_inj ha hb (by simpa using h)
set_option maxRecDepth 100000 in
set_option maxHeartbeats 8000000 in
theorem walk (A : Option Addr) (c : Nat) (a : WM.Msg) (AB : Option Addr) (d : Nat) (b : WM.Msg) (w : World) (hCA : Came w A c a) (hCB : Came w AB d b) :
    Calls Try.prog 5 #[.agg (cellsM a (.slice A a.stamp.length c)), .agg (cellsM b (.slice AB b.stamp.length d))] w (LK.True_ w) := by
  have HX := Lib.hid (((Below.refl _ w).alloc (Nat.le_refl _) (.cells (cellsM a (.slice A a.stamp.length c)) 28)).alloc (by simp) (.cells (cellsM b (.slice AB b.stamp.length d)) 28))
  have HKA := Lib.hid ((Whole.new w 28 (cellsM a (.slice A a.stamp.length c))).alloc (.cells (cellsM b (.slice AB b.stamp.length d)) 28))
  have HKB := Lib.hid (show Whole ((w.alloc (.cells (cellsM a (.slice A a.stamp.length c)) 28)).alloc (.cells (cellsM b (.slice AB b.stamp.length d)) 28)) (w.heap.size + 1) 28 (cellsM b (.slice AB b.stamp.length d)) from by have h := Whole.new (w.alloc (.cells (cellsM a (.slice A a.stamp.length c)) 28)) 28 (cellsM b (.slice AB b.stamp.length d)); have e : (w.alloc (.cells (cellsM a (.slice A a.stamp.length c)) 28)).heap.size = w.heap.size + 1 := (by simp); rw [e] at h; exact h)
  have HCA := Lib.hid (hCA.below HX.out)
  have HCB := Lib.hid (hCB.below HX.out)
  obtain ⟨sm, hsm⟩ : ∃ s, s = decide (a = b) := ⟨_, rfl⟩
  have HSM := Lib.hid hsm.symm
  clear hCA hCB hsm
  go_enter Try.func5, Try.ntmps5
  go_upto_region 1 with (fail)
  generalize (w.alloc (.cells (cellsM a (.slice A a.stamp.length c)) 28)).alloc (.cells (cellsM b (.slice AB b.stamp.length d)) 28) = w0 at HX HKA HKB HCA HCB ⊢
  go_wp2_with fail
  refine (awake_any _).mono ?_
  rintro e w1 ⟨rfl, hb⟩
  have HX1 := Lib.hid (below_on HX.out hb)
  have HCA1 := Lib.hid (HCA.out.below hb)
  have HCB1 := Lib.hid (HCB.out.below hb)
  have HKA1 := Lib.hid (blk_below HKA.out hb)
  have HKB1 := Lib.hid (blk_below HKB.out hb)
  clear hb HX HCA HCB HKA HKB
  go_upto_region 3 with (fail)
  have hKeep : ∀ (us : Nat → Value) (wa wb : World), Below wa.heap.size wa wb → ∀ j, known [fun us y => us 0 = .agg (cellsM a (.slice A a.stamp.length c)), fun us y => ∃ A7 c7, us 1 = .agg (cellsM a (.slice A7 a.stamp.length c7)) ∧ Fit y A7 c7 a, fun us y => us 2 = .agg (cellsM b (.slice AB b.stamp.length d)), fun us y => ∃ A8 c8, us 3 = .agg (cellsM b (.slice A8 b.stamp.length c8)) ∧ Fit y A8 c8 b, fun us y => us 4 = .bool sm, fun us y => us 5 = .bool sm] j us wa → known [fun us y => us 0 = .agg (cellsM a (.slice A a.stamp.length c)), fun us y => ∃ A7 c7, us 1 = .agg (cellsM a (.slice A7 a.stamp.length c7)) ∧ Fit y A7 c7 a, fun us y => us 2 = .agg (cellsM b (.slice AB b.stamp.length d)), fun us y => ∃ A8 c8, us 3 = .agg (cellsM b (.slice A8 b.stamp.length c8)) ∧ Fit y A8 c8 b, fun us y => us 4 = .bool sm, fun us y => us 5 = .bool sm] j us wb := by
    intro us wa wb hb j h
    match j, h with
    | 0, h => exact h
    | 1, h => (obtain ⟨A7, c7, e1, f1⟩ : ∃ A7 c7, us 1 = .agg (cellsM a (.slice A7 a.stamp.length c7)) ∧ Fit wa A7 c7 a := h; exact (show ∃ A7 c7, us 1 = .agg (cellsM a (.slice A7 a.stamp.length c7)) ∧ Fit wb A7 c7 a from ⟨A7, c7, e1, f1.below hb⟩))
    | 2, h => exact h
    | 3, h => (obtain ⟨A8, c8, e3, f3⟩ : ∃ A8 c8, us 3 = .agg (cellsM b (.slice A8 b.stamp.length c8)) ∧ Fit wa A8 c8 b := h; exact (show ∃ A8 c8, us 3 = .agg (cellsM b (.slice A8 b.stamp.length c8)) ∧ Fit wb A8 c8 b from ⟨A8, c8, e3, f3.below hb⟩))
    | 4, h => exact h
    | 5, h => exact h
    | q + 6, h => exact trivial
  have HKEEP := Lib.hid hKeep
  clear hKeep
  refine region_eany [some 12, some 13, some 14, some 15, some 16, some 5] (known [fun us y => us 0 = .agg (cellsM a (.slice A a.stamp.length c)), fun us y => ∃ A7 c7, us 1 = .agg (cellsM a (.slice A7 a.stamp.length c7)) ∧ Fit y A7 c7 a, fun us y => us 2 = .agg (cellsM b (.slice AB b.stamp.length d)), fun us y => ∃ A8 c8, us 3 = .agg (cellsM b (.slice A8 b.stamp.length c8)) ∧ Fit y A8 c8 b, fun us y => us 4 = .bool sm, fun us y => us 5 = .bool sm]) (fun y => Below w1.heap.size w1 y) (fun y => True) [] [[], [0], [], [0, 1, 2], [0, 1, 2, 3], [0, 1, 2, 3, 4]] (by
    intro j us us' y h hF
    match j, h, hF with
    | 0, h, hF => (have hF : us 0 = .agg (cellsM a (.slice A a.stamp.length c)) := hF; rw [h 0 (.inl rfl)] at hF; exact hF)
    | 1, h, hF => (have hF : ∃ A7 c7, us 1 = .agg (cellsM a (.slice A7 a.stamp.length c7)) ∧ Fit y A7 c7 a := hF; rw [h 1 (.inl rfl)] at hF; exact hF)
    | 2, h, hF => (have hF : us 2 = .agg (cellsM b (.slice AB b.stamp.length d)) := hF; rw [h 2 (.inl rfl)] at hF; exact hF)
    | 3, h, hF => (have hF : ∃ A8 c8, us 3 = .agg (cellsM b (.slice A8 b.stamp.length c8)) ∧ Fit y A8 c8 b := hF; rw [h 3 (.inl rfl)] at hF; exact hF)
    | 4, h, hF => (have hF : us 4 = .bool sm := hF; rw [h 4 (.inl rfl)] at hF; exact hF)
    | 5, h, hF => (have hF : us 5 = .bool sm := hF; rw [h 5 (.inl rfl)] at hF; exact hF)
    | q + 6, h, hF => exact trivial) (by kernel_rfl) rfl (by kernel_rfl) (by kernel_rfl) (by kernel_rfl) (by exact (Below.refl _ _).drew) (trivial) (Z := fun vs => cq _ vs [(5, 5), (16, 4), (15, 3), (14, 2), (13, 1), (12, 0)]) (fun _ => rfl) ?_ ?_
  · skip
    refine EAll.snoc (i := 5) ?_ rfl rfl trivial ?_
    rotate_left
    · intro vs B y hI hJ hL hA K E hK
      have hB := hI
      clear hJ
      have e4 : vs 4 = .bool sm := hA 4 (by decide)
      clear hA
      have t16 := (hL.at_ 4 (by decide) 16 rfl).trans (congrArg some e4)
      clear hL e4
      refine Box.mk ?_
      go_simp
      exact hK.out _ _ hB (show (updv vs 5 _) 5 = .bool sm from rfl) (fun _ _ _ h => h) (fun _ h => h)
    refine EAll.snoc (i := 4) ?_ rfl rfl trivial ?_
    rotate_left
    · intro vs B y hI hJ hL hA K E hK
      have hB := hI
      clear hJ
      have hF1 : ∃ A7 c7, vs 1 = .agg (cellsM a (.slice A7 a.stamp.length c7)) ∧ Fit y A7 c7 a := hA 1 (by decide)
      obtain ⟨A7, c7, e1, f1⟩ := hF1
      have hF3 : ∃ A8 c8, vs 3 = .agg (cellsM b (.slice A8 b.stamp.length c8)) ∧ Fit y A8 c8 b := hA 3 (by decide)
      obtain ⟨A8, c8, e3, f3⟩ := hF3
      clear hA
      have t13 := (hL.at_ 1 (by decide) 13 rfl).trans (congrArg some e1)
      have t15 := (hL.at_ 3 (by decide) 15 rfl).trans (congrArg some e3)
      clear hL e1 e3
      refine Box.mk ?_
      go_simp
      with_reducible refine (Same_any _ _ _ _ a b y f1.ints f3.ints f1.le f3.le f1.cap f3.cap).mono ?_
      rintro e w5 ⟨rfl, hb⟩
      rw [HSM.out]
      go_simp
      exact hK.out _ _ (below_on hB hb) (show (updv vs 4 _) 4 = .bool sm from rfl) (fun j _ _ h => HKEEP.out vs y w5 hb j h) (fun _ h => h)
    refine EAll.snoc (i := 3) ?_ rfl rfl trivial ?_
    rotate_left
    · intro vs B y hI hJ hL hA K E hK
      have hB := hI
      clear hJ
      have e2 : vs 2 = .agg (cellsM b (.slice AB b.stamp.length d)) := hA 2 (by decide)
      clear hA
      have t14 := (hL.at_ 2 (by decide) 14 rfl).trans (congrArg some e2)
      clear hL e2
      refine Box.mk ?_
      go_simp
      with_reducible refine (own_of AB d b y (HCB1.out.below hB)).mono ?_
      rintro e w5 ⟨A9, c9, rfl, hf, hb⟩
      have hf := hf.out
      go_simp
      exact hK.out _ _ (below_on hB hb) (show ∃ A8 c8, (updv vs 3 _) 3 = .agg (cellsM b (.slice A8 b.stamp.length c8)) ∧ Fit w5 A8 c8 b from ⟨A9, c9, rfl, hf⟩) (fun j _ _ h => HKEEP.out vs y w5 hb j h) (fun _ h => h)
    refine EAll.snoc (i := 2) ?_ rfl rfl trivial ?_
    rotate_left
    · intro vs B y hI hJ hL hA K E hK
      have hB := hI
      clear hJ
      clear hA
      have t3 : B.tmps[3]? = some (.pointer (some ⟨w.heap.size + 1, 0, none⟩)) := (hL.out 3 rfl).trans rfl
      clear hL
      refine Box.mk ?_
      refine wp_load_mid 28 (.tmp 3) rfl (w.heap.size + 1) 0 (by simp [Act.eval, t3]) (cellsM b (.slice AB b.stamp.length d)).toList _ (msg_range (show MsgBlk y (w.heap.size + 1) b (.slice AB b.stamp.length d) from (Mod.of_below hB []).whole HKB1.out (by simp))) Try.underlying28 rfl (by kernel_rfl) ?_
      exact hK.out _ _ hB (show (updv vs 2 _) 2 = .agg (cellsM b (.slice AB b.stamp.length d)) from rfl) (fun _ _ _ h => h) (fun _ h => h)
    refine EAll.snoc (i := 1) ?_ rfl rfl trivial ?_
    rotate_left
    · intro vs B y hI hJ hL hA K E hK
      have hB := hI
      clear hJ
      have e0 : vs 0 = .agg (cellsM a (.slice A a.stamp.length c)) := hA 0 (by decide)
      clear hA
      have t12 := (hL.at_ 0 (by decide) 12 rfl).trans (congrArg some e0)
      clear hL e0
      refine Box.mk ?_
      go_simp
      with_reducible refine (own_of A c a y (HCA1.out.below hB)).mono ?_
      rintro e w5 ⟨A9, c9, rfl, hf, hb⟩
      have hf := hf.out
      go_simp
      exact hK.out _ _ (below_on hB hb) (show ∃ A7 c7, (updv vs 1 _) 1 = .agg (cellsM a (.slice A7 a.stamp.length c7)) ∧ Fit w5 A7 c7 a from ⟨A9, c9, rfl, hf⟩) (fun j _ _ h => HKEEP.out vs y w5 hb j h) (fun _ h => h)
    refine EAll.snoc (i := 0) ?_ rfl rfl trivial ?_
    rotate_left
    · intro vs B y hI hJ hL hA K E hK
      have hB := hI
      clear hJ
      clear hA
      have t2 : B.tmps[2]? = some (.pointer (some ⟨w.heap.size, 0, none⟩)) := (hL.out 2 rfl).trans rfl
      clear hL
      refine Box.mk ?_
      refine wp_load_mid 28 (.tmp 2) rfl (w.heap.size) 0 (by simp [Act.eval, t2]) (cellsM a (.slice A a.stamp.length c)).toList _ (msg_range (show MsgBlk y (w.heap.size) a (.slice A a.stamp.length c) from (Mod.of_below hB []).whole HKA1.out (by simp))) Try.underlying28 rfl (by kernel_rfl) ?_
      exact hK.out _ _ hB (show (updv vs 0 _) 0 = .agg (cellsM a (.slice A a.stamp.length c)) from rfl) (fun _ _ _ h => h) (fun _ h => h)
    exact EAll.nil
  · intro vs y hI hall
    have hB := hI
    have e5 : vs 5 = .bool sm := hall 5 (by decide)
    clear hall HKEEP
    refine Box.mk ?_
    simp only [e5, ch, cq, allPut, puts, Act.put, List.setIfInBounds_toArray, List.set_cons_zero, List.set_cons_succ]
    have HX2 := Lib.hid (below_on HX1.out hB)
    have HCA2 := Lib.hid (HCA1.out.below hB)
    have HCB2 := Lib.hid (HCB1.out.below hB)
    have HKA2 := Lib.hid (blk_below HKA1.out hB)
    have HKB2 := Lib.hid (blk_below HKB1.out hB)
    clear e5 hB HX1 HCA1 HCB1 HKA1 HKB1
    have HLD := Lib.hid (msg_range HKA2.out)
    go_wp2_with (refine wpList_load_mid rfl 28 (.tmp 2) rfl w.heap.size 0 rfl (cellsM a (.slice A a.stamp.length c)).toList _ HLD.out Try.underlying28 rfl (by kernel_rfl) ?_)
    clear HLD
    refine (own_of A c a _ HCA2.out).mono ?_
    rintro e z1 ⟨D1, k1, rfl, hf, hb⟩
    have HF1 := Lib.hid hf.out
    have HX3x := Lib.hid (below_on HX2.out hb)
    have HCA3x := Lib.hid (HCA2.out.below hb)
    have HCB3x := Lib.hid (HCB2.out.below hb)
    have HKA3x := Lib.hid (blk_below HKA2.out hb)
    have HKB3x := Lib.hid (blk_below HKB2.out hb)
    clear hf hb HX2 HCA2 HCB2 HKA2 HKB2
    go_wp2_with fail
    refine (wEnc_any D1 k1 a _ HF1.out).mono ?_
    rintro e y1 ⟨P1, p1, rfl, hy, hb⟩
    have HX3 := Lib.hid (below_on HX3x.out hb)
    have HCA3 := Lib.hid (HCA3x.out.below hb)
    have HCB3 := Lib.hid (HCB3x.out.below hb)
    have HKA3 := Lib.hid (blk_below HKA3x.out hb)
    have HKB3 := Lib.hid (blk_below HKB3x.out hb)
    have HYa := Lib.hid hy.out
    clear hy hb HX3x HCA3x HCB3x HKA3x HKB3x HF1
    have HLD := Lib.hid (msg_range HKB3.out)
    go_wp2_with (refine wpList_load_mid rfl 28 (.tmp 3) rfl (w.heap.size + 1) 0 rfl (cellsM b (.slice AB b.stamp.length d)).toList _ HLD.out Try.underlying28 rfl (by kernel_rfl) ?_)
    clear HLD
    refine (own_of AB d b _ HCB3.out).mono ?_
    rintro e z2 ⟨D2, k2, rfl, hf, hb⟩
    have HF2 := Lib.hid hf.out
    have HX4x := Lib.hid (below_on HX3.out hb)
    have HCA4x := Lib.hid (HCA3.out.below hb)
    have HCB4x := Lib.hid (HCB3.out.below hb)
    have HKA4x := Lib.hid (blk_below HKA3.out hb)
    have HKB4x := Lib.hid (blk_below HKB3.out hb)
    have HYa2 := Lib.hid (HYa.out.below hb)
    clear HYa
    clear hf hb HX3 HCA3 HCB3 HKA3 HKB3
    go_wp2_with fail
    refine (wEnc_any D2 k2 b _ HF2.out).mono ?_
    rintro e y2 ⟨P2, p2, rfl, hy, hb⟩
    have HX4 := Lib.hid (below_on HX4x.out hb)
    have HCA4 := Lib.hid (HCA4x.out.below hb)
    have HCB4 := Lib.hid (HCB4x.out.below hb)
    have HKA4 := Lib.hid (blk_below HKA4x.out hb)
    have HKB4 := Lib.hid (blk_below HKB4x.out hb)
    have HY1 := Lib.hid (HYa2.out.below hb)
    have HY2 := Lib.hid hy.out
    clear HYa2
    clear hy hb HX4x HCA4x HCB4x HKA4x HKB4x HF2
    have HSW := Lib.hid (show decide (b = a) = sm by rw [← HSM.out]; exact decide_eq_decide.2 eq_comm)
    go_upto_region 6 with (fail)
    cases va : WM.valid a with
    | false =>
      have eA := encC_no va
      rw [eA]
      clear eA va
      have hKeep : ∀ (us : Nat → Value) (wa wb : World), Below wa.heap.size wa wb → ∀ j, known [fun us y => us 0 = .bool sm, fun us y => us 1 = .agg (cellsM a (.slice A a.stamp.length c)), fun us y => us 2 = .agg (cellsM b (.slice AB b.stamp.length d)), fun us y => us 3 = .bool sm, fun us y => us 4 = .bool true, fun us y => us 5 = .bool true, fun us y => us 6 = .agg (cellsM a (.slice A a.stamp.length c)), fun us y => ∃ A7 c7, us 7 = .agg (cellsM a (.slice A7 a.stamp.length c7)) ∧ Fit y A7 c7 a, fun us y => us 8 = .agg (cellsM a (.slice A a.stamp.length c)), fun us y => ∃ A8 c8, us 9 = .agg (cellsM a (.slice A8 a.stamp.length c8)) ∧ Fit y A8 c8 a, fun us y => us 10 = .bool true, fun us y => us 11 = .bool true, fun us y => us 12 = .bool true, fun us y => us 13 = .bool sm, fun us y => us 14 = .agg (cellsM b (.slice AB b.stamp.length d)), fun us y => ∃ A7 c7, us 15 = .agg (cellsM b (.slice A7 b.stamp.length c7)) ∧ Fit y A7 c7 b, fun us y => us 16 = .agg (cellsM a (.slice A a.stamp.length c)), fun us y => ∃ A8 c8, us 17 = .agg (cellsM a (.slice A8 a.stamp.length c8)) ∧ Fit y A8 c8 a, fun us y => us 18 = .bool sm, fun us y => us 19 = .bool true, fun us y => us 20 = .bool true, fun us y => us 21 = .bool true, fun us y => us 22 = .int .i64 22, fun us y => us 23 = .bool true, fun us y => us 24 = .bool true, fun us y => us 25 = undef, fun us y => us 26 = undef, fun us y => us 27 = .bool true, fun us y => us 28 = .bool true, fun us y => us 29 = undef, fun us y => us 30 = undef, fun us y => us 31 = undef, fun us y => us 32 = undef, fun us y => us 33 = undef, fun us y => us 34 = undef, fun us y => us 35 = undef, fun us y => us 36 = .bool true, fun us y => us 37 = .bool true, fun us y => us 38 = .bool true] j us wa → known [fun us y => us 0 = .bool sm, fun us y => us 1 = .agg (cellsM a (.slice A a.stamp.length c)), fun us y => us 2 = .agg (cellsM b (.slice AB b.stamp.length d)), fun us y => us 3 = .bool sm, fun us y => us 4 = .bool true, fun us y => us 5 = .bool true, fun us y => us 6 = .agg (cellsM a (.slice A a.stamp.length c)), fun us y => ∃ A7 c7, us 7 = .agg (cellsM a (.slice A7 a.stamp.length c7)) ∧ Fit y A7 c7 a, fun us y => us 8 = .agg (cellsM a (.slice A a.stamp.length c)), fun us y => ∃ A8 c8, us 9 = .agg (cellsM a (.slice A8 a.stamp.length c8)) ∧ Fit y A8 c8 a, fun us y => us 10 = .bool true, fun us y => us 11 = .bool true, fun us y => us 12 = .bool true, fun us y => us 13 = .bool sm, fun us y => us 14 = .agg (cellsM b (.slice AB b.stamp.length d)), fun us y => ∃ A7 c7, us 15 = .agg (cellsM b (.slice A7 b.stamp.length c7)) ∧ Fit y A7 c7 b, fun us y => us 16 = .agg (cellsM a (.slice A a.stamp.length c)), fun us y => ∃ A8 c8, us 17 = .agg (cellsM a (.slice A8 a.stamp.length c8)) ∧ Fit y A8 c8 a, fun us y => us 18 = .bool sm, fun us y => us 19 = .bool true, fun us y => us 20 = .bool true, fun us y => us 21 = .bool true, fun us y => us 22 = .int .i64 22, fun us y => us 23 = .bool true, fun us y => us 24 = .bool true, fun us y => us 25 = undef, fun us y => us 26 = undef, fun us y => us 27 = .bool true, fun us y => us 28 = .bool true, fun us y => us 29 = undef, fun us y => us 30 = undef, fun us y => us 31 = undef, fun us y => us 32 = undef, fun us y => us 33 = undef, fun us y => us 34 = undef, fun us y => us 35 = undef, fun us y => us 36 = .bool true, fun us y => us 37 = .bool true, fun us y => us 38 = .bool true] j us wb := by
        intro us wa wb hb j h
        match j, h with
        | 0, h => exact h
        | 1, h => exact h
        | 2, h => exact h
        | 3, h => exact h
        | 4, h => exact h
        | 5, h => exact h
        | 6, h => exact h
        | 7, h => (obtain ⟨A7, c7, e7, f7⟩ : ∃ A7 c7, us 7 = .agg (cellsM a (.slice A7 a.stamp.length c7)) ∧ Fit wa A7 c7 a := h; exact (show ∃ A7 c7, us 7 = .agg (cellsM a (.slice A7 a.stamp.length c7)) ∧ Fit wb A7 c7 a from ⟨A7, c7, e7, f7.below hb⟩))
        | 8, h => exact h
        | 9, h => (obtain ⟨A8, c8, e9, f9⟩ : ∃ A8 c8, us 9 = .agg (cellsM a (.slice A8 a.stamp.length c8)) ∧ Fit wa A8 c8 a := h; exact (show ∃ A8 c8, us 9 = .agg (cellsM a (.slice A8 a.stamp.length c8)) ∧ Fit wb A8 c8 a from ⟨A8, c8, e9, f9.below hb⟩))
        | 10, h => exact h
        | 11, h => exact h
        | 12, h => exact h
        | 13, h => exact h
        | 14, h => exact h
        | 15, h => (obtain ⟨A7, c7, e15, f15⟩ : ∃ A7 c7, us 15 = .agg (cellsM b (.slice A7 b.stamp.length c7)) ∧ Fit wa A7 c7 b := h; exact (show ∃ A7 c7, us 15 = .agg (cellsM b (.slice A7 b.stamp.length c7)) ∧ Fit wb A7 c7 b from ⟨A7, c7, e15, f15.below hb⟩))
        | 16, h => exact h
        | 17, h => (obtain ⟨A8, c8, e17, f17⟩ : ∃ A8 c8, us 17 = .agg (cellsM a (.slice A8 a.stamp.length c8)) ∧ Fit wa A8 c8 a := h; exact (show ∃ A8 c8, us 17 = .agg (cellsM a (.slice A8 a.stamp.length c8)) ∧ Fit wb A8 c8 a from ⟨A8, c8, e17, f17.below hb⟩))
        | 18, h => exact h
        | 19, h => exact h
        | 20, h => exact h
        | 21, h => exact h
        | 22, h => exact h
        | 23, h => exact h
        | 24, h => exact h
        | 25, h => exact h
        | 26, h => exact h
        | 27, h => exact h
        | 28, h => exact h
        | 29, h => exact h
        | 30, h => exact h
        | 31, h => exact h
        | 32, h => exact h
        | 33, h => exact h
        | 34, h => exact h
        | 35, h => exact h
        | 36, h => exact h
        | 37, h => exact h
        | 38, h => exact h
        | q + 39, h => exact trivial
      have HKEEP := Lib.hid hKeep
      clear hKeep
      refine region_eany [some 29, some 30, some 31, some 32, some 33, some 34, some 35, some 36, some 37, some 38, some 39, some 40, some 41, some 42, some 43, some 44, some 45, some 46, some 47, some 48, some 49, some 50, some 51, some 52, some 53, some 54, some 55, some 56, some 57, some 58, some 59, some 60, some 61, some 62, some 63, some 64, some 65, some 66, some 4] (known [fun us y => us 0 = .bool sm, fun us y => us 1 = .agg (cellsM a (.slice A a.stamp.length c)), fun us y => us 2 = .agg (cellsM b (.slice AB b.stamp.length d)), fun us y => us 3 = .bool sm, fun us y => us 4 = .bool true, fun us y => us 5 = .bool true, fun us y => us 6 = .agg (cellsM a (.slice A a.stamp.length c)), fun us y => ∃ A7 c7, us 7 = .agg (cellsM a (.slice A7 a.stamp.length c7)) ∧ Fit y A7 c7 a, fun us y => us 8 = .agg (cellsM a (.slice A a.stamp.length c)), fun us y => ∃ A8 c8, us 9 = .agg (cellsM a (.slice A8 a.stamp.length c8)) ∧ Fit y A8 c8 a, fun us y => us 10 = .bool true, fun us y => us 11 = .bool true, fun us y => us 12 = .bool true, fun us y => us 13 = .bool sm, fun us y => us 14 = .agg (cellsM b (.slice AB b.stamp.length d)), fun us y => ∃ A7 c7, us 15 = .agg (cellsM b (.slice A7 b.stamp.length c7)) ∧ Fit y A7 c7 b, fun us y => us 16 = .agg (cellsM a (.slice A a.stamp.length c)), fun us y => ∃ A8 c8, us 17 = .agg (cellsM a (.slice A8 a.stamp.length c8)) ∧ Fit y A8 c8 a, fun us y => us 18 = .bool sm, fun us y => us 19 = .bool true, fun us y => us 20 = .bool true, fun us y => us 21 = .bool true, fun us y => us 22 = .int .i64 22, fun us y => us 23 = .bool true, fun us y => us 24 = .bool true, fun us y => us 25 = undef, fun us y => us 26 = undef, fun us y => us 27 = .bool true, fun us y => us 28 = .bool true, fun us y => us 29 = undef, fun us y => us 30 = undef, fun us y => us 31 = undef, fun us y => us 32 = undef, fun us y => us 33 = undef, fun us y => us 34 = undef, fun us y => us 35 = undef, fun us y => us 36 = .bool true, fun us y => us 37 = .bool true, fun us y => us 38 = .bool true]) (fun y => Below y2.heap.size y2 y) (fun y => True) [] [[], [], [], [1, 2], [0, 1, 2, 3], [0, 1, 2, 3, 4], [0, 1, 2, 3, 4, 5], [0, 1, 2, 3, 4, 5, 6], [0, 1, 2, 3, 4, 5], [0, 1, 2, 3, 4, 5, 6, 7, 8], [0, 1, 2, 3, 4, 5, 6, 7, 8, 9], [0, 1, 2, 3, 4, 5, 6, 7, 8, 9, 10], [0, 1, 2, 3, 4, 5, 6, 7, 8, 9, 10, 11], [0, 1, 2, 3, 4, 5, 6, 7, 8, 9, 10, 11, 12], [0, 1, 2, 3, 4, 5, 6, 7, 8, 9, 10, 11, 12], [0, 1, 2, 3, 4, 5, 6, 7, 8, 9, 10, 11, 12, 14], [0, 1, 2, 3, 4, 5, 6, 7, 8, 9, 10, 11, 12], [0, 1, 2, 3, 4, 5, 6, 7, 8, 9, 10, 11, 12, 14, 15, 16], [0, 1, 2, 3, 4, 5, 6, 7, 8, 9, 10, 11, 12, 14, 15, 16, 17], [0, 1, 2, 3, 4, 5, 6, 7, 8, 9, 10, 11, 12, 13, 14, 15, 16, 17, 18], [0, 1, 2, 3, 4, 5, 6, 7, 8, 9, 10, 11, 12, 13, 14, 15, 16, 17, 18, 19], [0, 1, 2, 3, 4, 5, 6, 7, 8, 9, 10, 11, 12, 13, 14, 15, 16, 17, 18, 19, 20], [0, 1, 2, 3, 4, 5, 6, 7, 8, 9, 10, 11, 12, 13, 14, 15, 16, 17, 18, 19, 20, 21], [0, 1, 2, 3, 4, 5, 6, 7, 8, 9, 10, 11, 12, 13, 14, 15, 16, 17, 18, 19, 20, 21, 22], [0, 1, 2, 3, 4, 5, 6, 7, 8, 9, 10, 11, 12, 13, 14, 15, 16, 17, 18, 19, 20, 21, 22, 23], [0, 1, 2, 3, 4, 5, 6, 7, 8, 9, 10, 11, 12, 13, 14, 15, 16, 17, 18, 19, 20, 21, 22, 23, 24], [0, 1, 2, 3, 4, 5, 6, 7, 8, 9, 10, 11, 12, 13, 14, 15, 16, 17, 18, 19, 20, 21, 22, 23, 24, 25], [0, 1, 2, 3, 4, 5, 6, 7, 8, 9, 10, 11, 12, 13, 14, 15, 16, 17, 18, 19, 20, 21, 22, 23, 24, 25, 26], [0, 1, 2, 3, 4, 5, 6, 7, 8, 9, 10, 11, 12, 13, 14, 15, 16, 17, 18, 19, 20, 21, 22, 23, 24, 25, 26, 27], [0, 1, 2, 3, 4, 5, 6, 7, 8, 9, 10, 11, 12, 13, 14, 15, 16, 17, 18, 19, 20, 21, 22, 23, 24, 25, 26, 27, 28], [0, 1, 2, 3, 4, 5, 6, 7, 8, 9, 10, 11, 12, 13, 14, 15, 16, 17, 18, 19, 20, 21, 22, 23, 24, 25, 26, 27, 28, 29], [0, 1, 2, 3, 4, 5, 6, 7, 8, 9, 10, 11, 12, 13, 14, 15, 16, 17, 18, 19, 20, 21, 22, 23, 24, 25, 26, 27, 28], [0, 1, 2, 3, 4, 5, 6, 7, 8, 9, 10, 11, 12, 13, 14, 15, 16, 17, 18, 19, 20, 21, 22, 23, 24, 25, 26, 27, 28, 31], [0, 1, 2, 3, 4, 5, 6, 7, 8, 9, 10, 11, 12, 13, 14, 15, 16, 17, 18, 19, 20, 21, 22, 23, 24, 25, 26, 27, 28, 29, 30, 31, 32], [0, 1, 2, 3, 4, 5, 6, 7, 8, 9, 10, 11, 12, 13, 14, 15, 16, 17, 18, 19, 20, 21, 22, 23, 24, 25, 26, 27, 28], [0, 1, 2, 3, 4, 5, 6, 7, 8, 9, 10, 11, 12, 13, 14, 15, 16, 17, 18, 19, 20, 21, 22, 23, 24, 25, 26, 27, 28, 29, 30, 31, 32, 33, 34], [0, 1, 2, 3, 4, 5, 6, 7, 8, 9, 10, 11, 12, 13, 14, 15, 16, 17, 18, 19, 20, 21, 22, 23, 24, 25, 26, 27, 28, 29, 30, 31, 32, 33, 34, 35], [0, 1, 2, 3, 4, 5, 6, 7, 8, 9, 10, 11, 12, 13, 14, 15, 16, 17, 18, 19, 20, 21, 22, 23, 24, 25, 26, 27, 28, 29, 30, 31, 32, 33, 34, 35, 36], [0, 1, 2, 3, 4, 5, 6, 7, 8, 9, 10, 11, 12, 13, 14, 15, 16, 17, 18, 19, 20, 21, 22, 23, 24, 25, 26, 27, 28, 29, 30, 31, 32, 33, 34, 35, 36, 37]] (by
        intro j us us' y h hF
        match j, h, hF with
        | 0, h, hF => (have hF : us 0 = .bool sm := hF; rw [h 0 (.inl rfl)] at hF; exact hF)
        | 1, h, hF => (have hF : us 1 = .agg (cellsM a (.slice A a.stamp.length c)) := hF; rw [h 1 (.inl rfl)] at hF; exact hF)
        | 2, h, hF => (have hF : us 2 = .agg (cellsM b (.slice AB b.stamp.length d)) := hF; rw [h 2 (.inl rfl)] at hF; exact hF)
        | 3, h, hF => (have hF : us 3 = .bool sm := hF; rw [h 3 (.inl rfl)] at hF; exact hF)
        | 4, h, hF => (have hF : us 4 = .bool true := hF; rw [h 4 (.inl rfl)] at hF; exact hF)
        | 5, h, hF => (have hF : us 5 = .bool true := hF; rw [h 5 (.inl rfl)] at hF; exact hF)
        | 6, h, hF => (have hF : us 6 = .agg (cellsM a (.slice A a.stamp.length c)) := hF; rw [h 6 (.inl rfl)] at hF; exact hF)
        | 7, h, hF => (have hF : ∃ A7 c7, us 7 = .agg (cellsM a (.slice A7 a.stamp.length c7)) ∧ Fit y A7 c7 a := hF; rw [h 7 (.inl rfl)] at hF; exact hF)
        | 8, h, hF => (have hF : us 8 = .agg (cellsM a (.slice A a.stamp.length c)) := hF; rw [h 8 (.inl rfl)] at hF; exact hF)
        | 9, h, hF => (have hF : ∃ A8 c8, us 9 = .agg (cellsM a (.slice A8 a.stamp.length c8)) ∧ Fit y A8 c8 a := hF; rw [h 9 (.inl rfl)] at hF; exact hF)
        | 10, h, hF => (have hF : us 10 = .bool true := hF; rw [h 10 (.inl rfl)] at hF; exact hF)
        | 11, h, hF => (have hF : us 11 = .bool true := hF; rw [h 11 (.inl rfl)] at hF; exact hF)
        | 12, h, hF => (have hF : us 12 = .bool true := hF; rw [h 12 (.inl rfl)] at hF; exact hF)
        | 13, h, hF => (have hF : us 13 = .bool sm := hF; rw [h 13 (.inl rfl)] at hF; exact hF)
        | 14, h, hF => (have hF : us 14 = .agg (cellsM b (.slice AB b.stamp.length d)) := hF; rw [h 14 (.inl rfl)] at hF; exact hF)
        | 15, h, hF => (have hF : ∃ A7 c7, us 15 = .agg (cellsM b (.slice A7 b.stamp.length c7)) ∧ Fit y A7 c7 b := hF; rw [h 15 (.inl rfl)] at hF; exact hF)
        | 16, h, hF => (have hF : us 16 = .agg (cellsM a (.slice A a.stamp.length c)) := hF; rw [h 16 (.inl rfl)] at hF; exact hF)
        | 17, h, hF => (have hF : ∃ A8 c8, us 17 = .agg (cellsM a (.slice A8 a.stamp.length c8)) ∧ Fit y A8 c8 a := hF; rw [h 17 (.inl rfl)] at hF; exact hF)
        | 18, h, hF => (have hF : us 18 = .bool sm := hF; rw [h 18 (.inl rfl)] at hF; exact hF)
        | 19, h, hF => (have hF : us 19 = .bool true := hF; rw [h 19 (.inl rfl)] at hF; exact hF)
        | 20, h, hF => (have hF : us 20 = .bool true := hF; rw [h 20 (.inl rfl)] at hF; exact hF)
        | 21, h, hF => (have hF : us 21 = .bool true := hF; rw [h 21 (.inl rfl)] at hF; exact hF)
        | 22, h, hF => (have hF : us 22 = .int .i64 22 := hF; rw [h 22 (.inl rfl)] at hF; exact hF)
        | 23, h, hF => (have hF : us 23 = .bool true := hF; rw [h 23 (.inl rfl)] at hF; exact hF)
        | 24, h, hF => (have hF : us 24 = .bool true := hF; rw [h 24 (.inl rfl)] at hF; exact hF)
        | 25, h, hF => (have hF : us 25 = undef := hF; rw [h 25 (.inl rfl)] at hF; exact hF)
        | 26, h, hF => (have hF : us 26 = undef := hF; rw [h 26 (.inl rfl)] at hF; exact hF)
        | 27, h, hF => (have hF : us 27 = .bool true := hF; rw [h 27 (.inl rfl)] at hF; exact hF)
        | 28, h, hF => (have hF : us 28 = .bool true := hF; rw [h 28 (.inl rfl)] at hF; exact hF)
        | 29, h, hF => (have hF : us 29 = undef := hF; rw [h 29 (.inl rfl)] at hF; exact hF)
        | 30, h, hF => (have hF : us 30 = undef := hF; rw [h 30 (.inl rfl)] at hF; exact hF)
        | 31, h, hF => (have hF : us 31 = undef := hF; rw [h 31 (.inl rfl)] at hF; exact hF)
        | 32, h, hF => (have hF : us 32 = undef := hF; rw [h 32 (.inl rfl)] at hF; exact hF)
        | 33, h, hF => (have hF : us 33 = undef := hF; rw [h 33 (.inl rfl)] at hF; exact hF)
        | 34, h, hF => (have hF : us 34 = undef := hF; rw [h 34 (.inl rfl)] at hF; exact hF)
        | 35, h, hF => (have hF : us 35 = undef := hF; rw [h 35 (.inl rfl)] at hF; exact hF)
        | 36, h, hF => (have hF : us 36 = .bool true := hF; rw [h 36 (.inl rfl)] at hF; exact hF)
        | 37, h, hF => (have hF : us 37 = .bool true := hF; rw [h 37 (.inl rfl)] at hF; exact hF)
        | 38, h, hF => (have hF : us 38 = .bool true := hF; rw [h 38 (.inl rfl)] at hF; exact hF)
        | q + 39, h, hF => exact trivial) (by kernel_rfl) rfl (by kernel_rfl) (by kernel_rfl) (by kernel_rfl) (by exact (Below.refl _ _).drew) (trivial) (Z := fun vs => cq _ vs [(4, 38), (66, 37), (65, 36), (64, 35), (63, 34), (62, 33), (61, 32), (60, 31), (59, 30), (58, 29), (57, 28), (56, 27), (55, 26), (54, 25), (53, 24), (52, 23), (51, 22), (50, 21), (49, 20), (48, 19), (47, 18), (46, 17), (45, 16), (44, 15), (43, 14), (42, 13), (41, 12), (40, 11), (39, 10), (38, 9), (37, 8), (36, 7), (35, 6), (34, 5), (33, 4), (32, 3), (31, 2), (30, 1), (29, 0)]) (fun _ => rfl) ?_ ?_
      · skip
        refine EAll.snoc (i := 38) ?_ rfl rfl trivial ?_
        rotate_left
        · intro vs B y hI hJ hL hA K E hK
          have hB := hI
          clear hJ
          have e37 : vs 37 = .bool true := hA 37 (by decide)
          clear hA
          have t66 := (hL.at_ 37 (by decide) 66 rfl).trans (congrArg some e37)
          clear hL e37
          refine Box.mk ?_
          go_simp
          exact hK.out _ _ hB (show (updv vs 38 _) 38 = .bool true from rfl) (fun _ _ _ h => h) (fun _ h => h)
        refine EAll.snoc (i := 37) ?_ rfl rfl trivial ?_
        rotate_left
        · intro vs B y hI hJ hL hA K E hK
          have hB := hI
          clear hJ
          have e21 : vs 21 = .bool true := hA 21 (by decide)
          have e36 : vs 36 = .bool true := hA 36 (by decide)
          clear hA
          have t50 := (hL.at_ 21 (by decide) 50 rfl).trans (congrArg some e21)
          have t65 := (hL.at_ 36 (by decide) 65 rfl).trans (congrArg some e36)
          clear hL e21 e36
          refine Box.mk ?_
          go_simp
          exact hK.out _ _ hB (show (updv vs 37 _) 37 = .bool true from rfl) (fun _ _ _ h => h) (fun _ h => h)
        refine EAll.snoc (i := 36) ?_ rfl rfl (fun vs y hF h => absurd (show vs 21 = .bool true from hF 21 (by decide)) h) ?_
        rotate_left
        · intro vs B y hI hJ hL hA hg K E hK
          have hB := hI
          clear hJ hg
          have e28 : vs 28 = .bool true := hA 28 (by decide)
          have e35 : vs 35 = undef := hA 35 (by decide)
          clear hA
          have t57 := (hL.at_ 28 (by decide) 57 rfl).trans (congrArg some e28)
          have t64 := (hL.at_ 35 (by decide) 64 rfl).trans (congrArg some e35)
          clear hL e28 e35
          refine Box.mk ?_
          go_simp
          exact hK.out _ _ hB (show (updv vs 36 _) 36 = .bool true from rfl) (fun _ _ _ h => h) (fun _ h => h)
        refine EAll.snoc (i := 35) ?_ rfl rfl (fun vs y hF h => (show updv vs 35 undef 35 = undef from rfl)) ?_
        rotate_left
        · intro vs B y hI hJ hL hA hg
          have e : vs 28 = .bool true := hA 28 (by decide)
          rw [e] at hg
          cases hg
        refine EAll.snoc (i := 34) ?_ rfl rfl (fun vs y hF h => (show updv vs 34 undef 34 = undef from rfl)) ?_
        rotate_left
        · intro vs B y hI hJ hL hA hg
          have e : vs 28 = .bool true := hA 28 (by decide)
          rw [e] at hg
          cases hg
        refine EAll.snoc (i := 33) ?_ rfl rfl (fun vs y hF h => (show updv vs 33 undef 33 = undef from rfl)) ?_
        rotate_left
        · intro vs B y hI hJ hL hA hg
          have e : vs 28 = .bool true := hA 28 (by decide)
          rw [e] at hg
          cases hg
        refine EAll.snoc (i := 32) ?_ rfl rfl (fun vs y hF h => (show updv vs 32 undef 32 = undef from rfl)) ?_
        rotate_left
        · intro vs B y hI hJ hL hA hg
          have e : vs 28 = .bool true := hA 28 (by decide)
          rw [e] at hg
          cases hg
        refine EAll.snoc (i := 31) ?_ rfl rfl (fun vs y hF h => (show updv vs 31 undef 31 = undef from rfl)) ?_
        rotate_left
        · intro vs B y hI hJ hL hA hg
          have e : vs 28 = .bool true := hA 28 (by decide)
          rw [e] at hg
          cases hg
        refine EAll.snoc (i := 30) ?_ rfl rfl (fun vs y hF h => (show updv vs 30 undef 30 = undef from rfl)) ?_
        rotate_left
        · intro vs B y hI hJ hL hA hg
          have e : vs 28 = .bool true := hA 28 (by decide)
          rw [e] at hg
          cases hg
        refine EAll.snoc (i := 29) ?_ rfl rfl (fun vs y hF h => (show updv vs 29 undef 29 = undef from rfl)) ?_
        rotate_left
        · intro vs B y hI hJ hL hA hg
          have e : vs 28 = .bool true := hA 28 (by decide)
          rw [e] at hg
          cases hg
        refine EAll.snoc (i := 28) ?_ rfl rfl (fun vs y hF h => absurd (show vs 21 = .bool true from hF 21 (by decide)) h) ?_
        rotate_left
        · intro vs B y hI hJ hL hA hg K E hK
          have hB := hI
          clear hJ hg
          have e27 : vs 27 = .bool true := hA 27 (by decide)
          clear hA
          have t56 := (hL.at_ 27 (by decide) 56 rfl).trans (congrArg some e27)
          clear hL e27
          refine Box.mk ?_
          go_simp
          exact hK.out _ _ hB (show (updv vs 28 _) 28 = .bool true from rfl) (fun _ _ _ h => h) (fun _ h => h)
        refine EAll.snoc (i := 27) ?_ rfl rfl (fun vs y hF h => absurd (show vs 21 = .bool true from hF 21 (by decide)) h) ?_
        rotate_left
        · intro vs B y hI hJ hL hA hg K E hK
          have hB := hI
          clear hJ hg
          have e24 : vs 24 = .bool true := hA 24 (by decide)
          have e26 : vs 26 = undef := hA 26 (by decide)
          clear hA
          have t53 := (hL.at_ 24 (by decide) 53 rfl).trans (congrArg some e24)
          have t55 := (hL.at_ 26 (by decide) 55 rfl).trans (congrArg some e26)
          clear hL e24 e26
          refine Box.mk ?_
          go_simp
          exact hK.out _ _ hB (show (updv vs 27 _) 27 = .bool true from rfl) (fun _ _ _ h => h) (fun _ h => h)
        refine EAll.snoc (i := 26) ?_ rfl rfl (fun vs y hF h => (show updv vs 26 undef 26 = undef from rfl)) ?_
        rotate_left
        · intro vs B y hI hJ hL hA hg
          have e : vs 24 = .bool true := hA 24 (by decide)
          rw [e] at hg
          cases hg
        refine EAll.snoc (i := 25) ?_ rfl rfl (fun vs y hF h => (show updv vs 25 undef 25 = undef from rfl)) ?_
        rotate_left
        · intro vs B y hI hJ hL hA hg
          have e : vs 24 = .bool true := hA 24 (by decide)
          rw [e] at hg
          cases hg
        refine EAll.snoc (i := 24) ?_ rfl rfl (fun vs y hF h => absurd (show vs 21 = .bool true from hF 21 (by decide)) h) ?_
        rotate_left
        · intro vs B y hI hJ hL hA hg K E hK
          have hB := hI
          clear hJ hg
          have e23 : vs 23 = .bool true := hA 23 (by decide)
          clear hA
          have t52 := (hL.at_ 23 (by decide) 52 rfl).trans (congrArg some e23)
          clear hL e23
          refine Box.mk ?_
          go_simp
          exact hK.out _ _ hB (show (updv vs 24 _) 24 = .bool true from rfl) (fun _ _ _ h => h) (fun _ h => h)
        refine EAll.snoc (i := 23) ?_ rfl rfl (fun vs y hF h => absurd (show vs 21 = .bool true from hF 21 (by decide)) h) ?_
        rotate_left
        · intro vs B y hI hJ hL hA hg K E hK
          have hB := hI
          clear hJ hg
          have e22 : vs 22 = .int .i64 22 := hA 22 (by decide)
          clear hA
          have t51 := (hL.at_ 22 (by decide) 51 rfl).trans (congrArg some e22)
          clear hL e22
          refine Box.mk ?_
          go_simp
          exact hK.out _ _ hB (show (updv vs 23 _) 23 = .bool true from rfl) (fun _ _ _ h => h) (fun _ h => h)
        refine EAll.snoc (i := 22) ?_ rfl rfl (fun vs y hF h => absurd (show vs 21 = .bool true from hF 21 (by decide)) h) ?_
        rotate_left
        · intro vs B y hI hJ hL hA hg K E hK
          have hB := hI
          clear hJ hg
          clear hA
          have t7 : B.tmps[7]? = some (.int .i64 22) := (hL.out 7 rfl).trans rfl
          clear hL
          refine Box.mk ?_
          go_simp
          exact hK.out _ _ hB (show (updv vs 22 _) 22 = .int .i64 22 from rfl) (fun _ _ _ h => h) (fun _ h => h)
        refine EAll.snoc (i := 21) ?_ rfl rfl trivial ?_
        rotate_left
        · intro vs B y hI hJ hL hA K E hK
          have hB := hI
          clear hJ
          have e20 : vs 20 = .bool true := hA 20 (by decide)
          clear hA
          have t49 := (hL.at_ 20 (by decide) 49 rfl).trans (congrArg some e20)
          clear hL e20
          refine Box.mk ?_
          go_simp
          exact hK.out _ _ hB (show (updv vs 21 _) 21 = .bool true from rfl) (fun _ _ _ h => h) (fun _ h => h)
        refine EAll.snoc (i := 20) ?_ rfl rfl trivial ?_
        rotate_left
        · intro vs B y hI hJ hL hA K E hK
          have hB := hI
          clear hJ
          have e12 : vs 12 = .bool true := hA 12 (by decide)
          have e19 : vs 19 = .bool true := hA 19 (by decide)
          clear hA
          have t41 := (hL.at_ 12 (by decide) 41 rfl).trans (congrArg some e12)
          have t48 := (hL.at_ 19 (by decide) 48 rfl).trans (congrArg some e19)
          clear hL e12 e19
          refine Box.mk ?_
          go_simp
          exact hK.out _ _ hB (show (updv vs 20 _) 20 = .bool true from rfl) (fun _ _ _ h => h) (fun _ h => h)
        refine EAll.snoc (i := 19) ?_ rfl rfl (fun vs y hF h => absurd (show vs 12 = .bool true from hF 12 (by decide)) h) ?_
        rotate_left
        · intro vs B y hI hJ hL hA hg K E hK
          have hB := hI
          clear hJ hg
          have e13 : vs 13 = .bool sm := hA 13 (by decide)
          have e18 : vs 18 = .bool sm := hA 18 (by decide)
          clear hA
          have t42 := (hL.at_ 13 (by decide) 42 rfl).trans (congrArg some e13)
          have t47 := (hL.at_ 18 (by decide) 47 rfl).trans (congrArg some e18)
          clear hL e13 e18
          refine Box.mk ?_
          go_simp
          exact hK.out _ _ hB (show (updv vs 19 _) 19 = .bool true from rfl) (fun _ _ _ h => h) (fun _ h => h)
        refine EAll.snoc (i := 18) ?_ rfl rfl (fun vs y hF h => absurd (show vs 12 = .bool true from hF 12 (by decide)) h) ?_
        rotate_left
        · intro vs B y hI hJ hL hA hg K E hK
          have hB := hI
          clear hJ hg
          have hF15 : ∃ A7 c7, vs 15 = .agg (cellsM b (.slice A7 b.stamp.length c7)) ∧ Fit y A7 c7 b := hA 15 (by decide)
          obtain ⟨A7, c7, e15, f15⟩ := hF15
          have hF17 : ∃ A8 c8, vs 17 = .agg (cellsM a (.slice A8 a.stamp.length c8)) ∧ Fit y A8 c8 a := hA 17 (by decide)
          obtain ⟨A8, c8, e17, f17⟩ := hF17
          clear hA
          have t44 := (hL.at_ 15 (by decide) 44 rfl).trans (congrArg some e15)
          have t46 := (hL.at_ 17 (by decide) 46 rfl).trans (congrArg some e17)
          clear hL e15 e17
          refine Box.mk ?_
          go_simp
          with_reducible refine (Same_any _ _ _ _ b a y f15.ints f17.ints f15.le f17.le f15.cap f17.cap).mono ?_
          rintro e w5 ⟨rfl, hb⟩
          rw [HSW.out]
          go_simp
          exact hK.out _ _ (below_on hB hb) (show (updv vs 18 _) 18 = .bool sm from rfl) (fun j _ _ h => HKEEP.out vs y w5 hb j h) (fun _ h => h)
        refine EAll.snoc (i := 17) ?_ rfl rfl (fun vs y hF h => absurd (show vs 12 = .bool true from hF 12 (by decide)) h) ?_
        rotate_left
        · intro vs B y hI hJ hL hA hg K E hK
          have hB := hI
          clear hJ hg
          have e16 : vs 16 = .agg (cellsM a (.slice A a.stamp.length c)) := hA 16 (by decide)
          clear hA
          have t45 := (hL.at_ 16 (by decide) 45 rfl).trans (congrArg some e16)
          clear hL e16
          refine Box.mk ?_
          go_simp
          with_reducible refine (own_of A c a y (HCA4.out.below hB)).mono ?_
          rintro e w5 ⟨A9, c9, rfl, hf, hb⟩
          have hf := hf.out
          go_simp
          exact hK.out _ _ (below_on hB hb) (show ∃ A8 c8, (updv vs 17 _) 17 = .agg (cellsM a (.slice A8 a.stamp.length c8)) ∧ Fit w5 A8 c8 a from ⟨A9, c9, rfl, hf⟩) (fun j _ _ h => HKEEP.out vs y w5 hb j h) (fun _ h => h)
        refine EAll.snoc (i := 16) ?_ rfl rfl (fun vs y hF h => absurd (show vs 12 = .bool true from hF 12 (by decide)) h) ?_
        rotate_left
        · intro vs B y hI hJ hL hA hg K E hK
          have hB := hI
          clear hJ hg
          clear hA
          have t2 : B.tmps[2]? = some (.pointer (some ⟨w.heap.size, 0, none⟩)) := (hL.out 2 rfl).trans rfl
          clear hL
          refine Box.mk ?_
          refine wp_load_mid 28 (.tmp 2) rfl (w.heap.size) 0 (by simp [Act.eval, t2]) (cellsM a (.slice A a.stamp.length c)).toList _ (msg_range (show MsgBlk y (w.heap.size) a (.slice A a.stamp.length c) from (Mod.of_below hB []).whole HKA4.out (by simp))) Try.underlying28 rfl (by kernel_rfl) ?_
          exact hK.out _ _ hB (show (updv vs 16 _) 16 = .agg (cellsM a (.slice A a.stamp.length c)) from rfl) (fun _ _ _ h => h) (fun _ h => h)
        refine EAll.snoc (i := 15) ?_ rfl rfl (fun vs y hF h => absurd (show vs 12 = .bool true from hF 12 (by decide)) h) ?_
        rotate_left
        · intro vs B y hI hJ hL hA hg K E hK
          have hB := hI
          clear hJ hg
          have e14 : vs 14 = .agg (cellsM b (.slice AB b.stamp.length d)) := hA 14 (by decide)
          clear hA
          have t43 := (hL.at_ 14 (by decide) 43 rfl).trans (congrArg some e14)
          clear hL e14
          refine Box.mk ?_
          go_simp
          with_reducible refine (own_of AB d b y (HCB4.out.below hB)).mono ?_
          rintro e w5 ⟨A9, c9, rfl, hf, hb⟩
          have hf := hf.out
          go_simp
          exact hK.out _ _ (below_on hB hb) (show ∃ A7 c7, (updv vs 15 _) 15 = .agg (cellsM b (.slice A7 b.stamp.length c7)) ∧ Fit w5 A7 c7 b from ⟨A9, c9, rfl, hf⟩) (fun j _ _ h => HKEEP.out vs y w5 hb j h) (fun _ h => h)
        refine EAll.snoc (i := 14) ?_ rfl rfl (fun vs y hF h => absurd (show vs 12 = .bool true from hF 12 (by decide)) h) ?_
        rotate_left
        · intro vs B y hI hJ hL hA hg K E hK
          have hB := hI
          clear hJ hg
          clear hA
          have t3 : B.tmps[3]? = some (.pointer (some ⟨w.heap.size + 1, 0, none⟩)) := (hL.out 3 rfl).trans rfl
          clear hL
          refine Box.mk ?_
          refine wp_load_mid 28 (.tmp 3) rfl (w.heap.size + 1) 0 (by simp [Act.eval, t3]) (cellsM b (.slice AB b.stamp.length d)).toList _ (msg_range (show MsgBlk y (w.heap.size + 1) b (.slice AB b.stamp.length d) from (Mod.of_below hB []).whole HKB4.out (by simp))) Try.underlying28 rfl (by kernel_rfl) ?_
          exact hK.out _ _ hB (show (updv vs 14 _) 14 = .agg (cellsM b (.slice AB b.stamp.length d)) from rfl) (fun _ _ _ h => h) (fun _ h => h)
        refine EAll.snoc (i := 13) ?_ rfl rfl (fun vs y hF h => absurd (show vs 12 = .bool true from hF 12 (by decide)) h) ?_
        rotate_left
        · intro vs B y hI hJ hL hA hg K E hK
          have hB := hI
          clear hJ hg
          clear hA
          have t5 : B.tmps[5]? = some (.bool sm) := (hL.out 5 rfl).trans rfl
          clear hL
          refine Box.mk ?_
          go_simp
          exact hK.out _ _ hB (show (updv vs 13 _) 13 = .bool sm from rfl) (fun _ _ _ h => h) (fun _ h => h)
        refine EAll.snoc (i := 12) ?_ rfl rfl trivial ?_
        rotate_left
        · intro vs B y hI hJ hL hA K E hK
          have hB := hI
          clear hJ
          have e11 : vs 11 = .bool true := hA 11 (by decide)
          clear hA
          have t40 := (hL.at_ 11 (by decide) 40 rfl).trans (congrArg some e11)
          clear hL e11
          refine Box.mk ?_
          go_simp
          exact hK.out _ _ hB (show (updv vs 12 _) 12 = .bool true from rfl) (fun _ _ _ h => h) (fun _ h => h)
        refine EAll.snoc (i := 11) ?_ rfl rfl trivial ?_
        rotate_left
        · intro vs B y hI hJ hL hA K E hK
          have hB := hI
          clear hJ
          have e5 : vs 5 = .bool true := hA 5 (by decide)
          have e10 : vs 10 = .bool true := hA 10 (by decide)
          clear hA
          have t34 := (hL.at_ 5 (by decide) 34 rfl).trans (congrArg some e5)
          have t39 := (hL.at_ 10 (by decide) 39 rfl).trans (congrArg some e10)
          clear hL e5 e10
          refine Box.mk ?_
          go_simp
          exact hK.out _ _ hB (show (updv vs 11 _) 11 = .bool true from rfl) (fun _ _ _ h => h) (fun _ h => h)
        refine EAll.snoc (i := 10) ?_ rfl rfl (fun vs y hF h => absurd (show vs 5 = .bool true from hF 5 (by decide)) h) ?_
        rotate_left
        · intro vs B y hI hJ hL hA hg K E hK
          have hB := hI
          clear hJ hg
          have hF7 : ∃ A7 c7, vs 7 = .agg (cellsM a (.slice A7 a.stamp.length c7)) ∧ Fit y A7 c7 a := hA 7 (by decide)
          obtain ⟨A7, c7, e7, f7⟩ := hF7
          have hF9 : ∃ A8 c8, vs 9 = .agg (cellsM a (.slice A8 a.stamp.length c8)) ∧ Fit y A8 c8 a := hA 9 (by decide)
          obtain ⟨A8, c8, e9, f9⟩ := hF9
          clear hA
          have t36 := (hL.at_ 7 (by decide) 36 rfl).trans (congrArg some e7)
          have t38 := (hL.at_ 9 (by decide) 38 rfl).trans (congrArg some e9)
          clear hL e7 e9
          refine Box.mk ?_
          go_simp
          with_reducible refine (Same_any _ _ _ _ a a y f7.ints f9.ints f7.le f9.le f7.cap f9.cap).mono ?_
          rintro e w5 ⟨rfl, hb⟩
          rw [decide_eq_true (show a = a from rfl)]
          go_simp
          exact hK.out _ _ (below_on hB hb) (show (updv vs 10 _) 10 = .bool true from rfl) (fun j _ _ h => HKEEP.out vs y w5 hb j h) (fun _ h => h)
        refine EAll.snoc (i := 9) ?_ rfl rfl (fun vs y hF h => absurd (show vs 5 = .bool true from hF 5 (by decide)) h) ?_
        rotate_left
        · intro vs B y hI hJ hL hA hg K E hK
          have hB := hI
          clear hJ hg
          have e8 : vs 8 = .agg (cellsM a (.slice A a.stamp.length c)) := hA 8 (by decide)
          clear hA
          have t37 := (hL.at_ 8 (by decide) 37 rfl).trans (congrArg some e8)
          clear hL e8
          refine Box.mk ?_
          go_simp
          with_reducible refine (own_of A c a y (HCA4.out.below hB)).mono ?_
          rintro e w5 ⟨A9, c9, rfl, hf, hb⟩
          have hf := hf.out
          go_simp
          exact hK.out _ _ (below_on hB hb) (show ∃ A8 c8, (updv vs 9 _) 9 = .agg (cellsM a (.slice A8 a.stamp.length c8)) ∧ Fit w5 A8 c8 a from ⟨A9, c9, rfl, hf⟩) (fun j _ _ h => HKEEP.out vs y w5 hb j h) (fun _ h => h)
        refine EAll.snoc (i := 8) ?_ rfl rfl (fun vs y hF h => absurd (show vs 5 = .bool true from hF 5 (by decide)) h) ?_
        rotate_left
        · intro vs B y hI hJ hL hA hg K E hK
          have hB := hI
          clear hJ hg
          clear hA
          have t2 : B.tmps[2]? = some (.pointer (some ⟨w.heap.size, 0, none⟩)) := (hL.out 2 rfl).trans rfl
          clear hL
          refine Box.mk ?_
          refine wp_load_mid 28 (.tmp 2) rfl (w.heap.size) 0 (by simp [Act.eval, t2]) (cellsM a (.slice A a.stamp.length c)).toList _ (msg_range (show MsgBlk y (w.heap.size) a (.slice A a.stamp.length c) from (Mod.of_below hB []).whole HKA4.out (by simp))) Try.underlying28 rfl (by kernel_rfl) ?_
          exact hK.out _ _ hB (show (updv vs 8 _) 8 = .agg (cellsM a (.slice A a.stamp.length c)) from rfl) (fun _ _ _ h => h) (fun _ h => h)
        refine EAll.snoc (i := 7) ?_ rfl rfl (fun vs y hF h => absurd (show vs 5 = .bool true from hF 5 (by decide)) h) ?_
        rotate_left
        · intro vs B y hI hJ hL hA hg K E hK
          have hB := hI
          clear hJ hg
          have e6 : vs 6 = .agg (cellsM a (.slice A a.stamp.length c)) := hA 6 (by decide)
          clear hA
          have t35 := (hL.at_ 6 (by decide) 35 rfl).trans (congrArg some e6)
          clear hL e6
          refine Box.mk ?_
          go_simp
          with_reducible refine (own_of A c a y (HCA4.out.below hB)).mono ?_
          rintro e w5 ⟨A9, c9, rfl, hf, hb⟩
          have hf := hf.out
          go_simp
          exact hK.out _ _ (below_on hB hb) (show ∃ A7 c7, (updv vs 7 _) 7 = .agg (cellsM a (.slice A7 a.stamp.length c7)) ∧ Fit w5 A7 c7 a from ⟨A9, c9, rfl, hf⟩) (fun j _ _ h => HKEEP.out vs y w5 hb j h) (fun _ h => h)
        refine EAll.snoc (i := 6) ?_ rfl rfl (fun vs y hF h => absurd (show vs 5 = .bool true from hF 5 (by decide)) h) ?_
        rotate_left
        · intro vs B y hI hJ hL hA hg K E hK
          have hB := hI
          clear hJ hg
          clear hA
          have t2 : B.tmps[2]? = some (.pointer (some ⟨w.heap.size, 0, none⟩)) := (hL.out 2 rfl).trans rfl
          clear hL
          refine Box.mk ?_
          refine wp_load_mid 28 (.tmp 2) rfl (w.heap.size) 0 (by simp [Act.eval, t2]) (cellsM a (.slice A a.stamp.length c)).toList _ (msg_range (show MsgBlk y (w.heap.size) a (.slice A a.stamp.length c) from (Mod.of_below hB []).whole HKA4.out (by simp))) Try.underlying28 rfl (by kernel_rfl) ?_
          exact hK.out _ _ hB (show (updv vs 6 _) 6 = .agg (cellsM a (.slice A a.stamp.length c)) from rfl) (fun _ _ _ h => h) (fun _ h => h)
        refine EAll.snoc (i := 5) ?_ rfl rfl trivial ?_
        rotate_left
        · intro vs B y hI hJ hL hA K E hK
          have hB := hI
          clear hJ
          have e4 : vs 4 = .bool true := hA 4 (by decide)
          clear hA
          have t33 := (hL.at_ 4 (by decide) 33 rfl).trans (congrArg some e4)
          clear hL e4
          refine Box.mk ?_
          go_simp
          exact hK.out _ _ hB (show (updv vs 5 _) 5 = .bool true from rfl) (fun _ _ _ h => h) (fun _ h => h)
        refine EAll.snoc (i := 4) ?_ rfl rfl trivial ?_
        rotate_left
        · intro vs B y hI hJ hL hA K E hK
          have hB := hI
          clear hJ
          have e0 : vs 0 = .bool sm := hA 0 (by decide)
          have e3 : vs 3 = .bool sm := hA 3 (by decide)
          clear hA
          have t29 := (hL.at_ 0 (by decide) 29 rfl).trans (congrArg some e0)
          have t32 := (hL.at_ 3 (by decide) 32 rfl).trans (congrArg some e3)
          clear hL e0 e3
          refine Box.mk ?_
          go_simp
          exact hK.out _ _ hB (show (updv vs 4 _) 4 = .bool true from rfl) (fun _ _ _ h => h) (fun _ h => h)
        refine EAll.snoc (i := 3) ?_ rfl rfl trivial ?_
        rotate_left
        · intro vs B y hI hJ hL hA K E hK
          have hB := hI
          clear hJ
          have e1 : vs 1 = .agg (cellsM a (.slice A a.stamp.length c)) := hA 1 (by decide)
          have e2 : vs 2 = .agg (cellsM b (.slice AB b.stamp.length d)) := hA 2 (by decide)
          clear hA
          have t30 := (hL.at_ 1 (by decide) 30 rfl).trans (congrArg some e1)
          have t31 := (hL.at_ 2 (by decide) 31 rfl).trans (congrArg some e2)
          clear hL e1 e2
          refine Box.mk ?_
          go_simp
          with_reducible refine (r6_Same A AB c d a b y (HCA4.out.ints.below hB) (HCB4.out.ints.below hB) HCA4.out.le HCB4.out.le (by have := HCA4.out.cap; omega) (by have := HCB4.out.cap; omega)).mono ?_
          rintro e w5 ⟨rfl, hb⟩
          rw [HSM.out]
          go_simp
          exact hK.out _ _ (below_on hB hb) (show (updv vs 3 _) 3 = .bool sm from rfl) (fun j _ _ h => HKEEP.out vs y w5 hb j h) (fun _ h => h)
        refine EAll.snoc (i := 2) ?_ rfl rfl trivial ?_
        rotate_left
        · intro vs B y hI hJ hL hA K E hK
          have hB := hI
          clear hJ
          clear hA
          have t3 : B.tmps[3]? = some (.pointer (some ⟨w.heap.size + 1, 0, none⟩)) := (hL.out 3 rfl).trans rfl
          clear hL
          refine Box.mk ?_
          refine wp_load_mid 28 (.tmp 3) rfl (w.heap.size + 1) 0 (by simp [Act.eval, t3]) (cellsM b (.slice AB b.stamp.length d)).toList _ (msg_range (show MsgBlk y (w.heap.size + 1) b (.slice AB b.stamp.length d) from (Mod.of_below hB []).whole HKB4.out (by simp))) Try.underlying28 rfl (by kernel_rfl) ?_
          exact hK.out _ _ hB (show (updv vs 2 _) 2 = .agg (cellsM b (.slice AB b.stamp.length d)) from rfl) (fun _ _ _ h => h) (fun _ h => h)
        refine EAll.snoc (i := 1) ?_ rfl rfl trivial ?_
        rotate_left
        · intro vs B y hI hJ hL hA K E hK
          have hB := hI
          clear hJ
          clear hA
          have t2 : B.tmps[2]? = some (.pointer (some ⟨w.heap.size, 0, none⟩)) := (hL.out 2 rfl).trans rfl
          clear hL
          refine Box.mk ?_
          refine wp_load_mid 28 (.tmp 2) rfl (w.heap.size) 0 (by simp [Act.eval, t2]) (cellsM a (.slice A a.stamp.length c)).toList _ (msg_range (show MsgBlk y (w.heap.size) a (.slice A a.stamp.length c) from (Mod.of_below hB []).whole HKA4.out (by simp))) Try.underlying28 rfl (by kernel_rfl) ?_
          exact hK.out _ _ hB (show (updv vs 1 _) 1 = .agg (cellsM a (.slice A a.stamp.length c)) from rfl) (fun _ _ _ h => h) (fun _ h => h)
        refine EAll.snoc (i := 0) ?_ rfl rfl trivial ?_
        rotate_left
        · intro vs B y hI hJ hL hA K E hK
          have hB := hI
          clear hJ
          clear hA
          have t5 : B.tmps[5]? = some (.bool sm) := (hL.out 5 rfl).trans rfl
          clear hL
          refine Box.mk ?_
          go_simp
          exact hK.out _ _ hB (show (updv vs 0 _) 0 = .bool sm from rfl) (fun _ _ _ h => h) (fun _ h => h)
        exact EAll.nil
      · intro vs y hI hall
        have hB := hI
        have e38 : vs 38 = .bool true := hall 38 (by decide)
        clear hall HKEEP
        refine Box.mk ?_
        simp only [e38, ch, cq, allPut, puts, Act.put, List.setIfInBounds_toArray, List.set_cons_zero, List.set_cons_succ]
        have HXZ := Lib.hid (below_on HX4.out hB)
        clear e38 hB
        go_wp2_with fail
        go_ret
        exact ⟨rfl, HXZ.out⟩
    | true =>
      have eA := encC_yes va
      rw [eA]
      cases vb : WM.valid b with
      | false =>
        have eB := encC_no vb
        rw [eB]
        clear eA eB va vb
        have hKeep : ∀ (us : Nat → Value) (wa wb : World), Below wa.heap.size wa wb → ∀ j, known [fun us y => us 0 = .bool sm, fun us y => us 1 = .agg (cellsM a (.slice A a.stamp.length c)), fun us y => us 2 = .agg (cellsM b (.slice AB b.stamp.length d)), fun us y => us 3 = .bool sm, fun us y => us 4 = .bool true, fun us y => us 5 = .bool true, fun us y => us 6 = .agg (cellsM a (.slice A a.stamp.length c)), fun us y => ∃ A7 c7, us 7 = .agg (cellsM a (.slice A7 a.stamp.length c7)) ∧ Fit y A7 c7 a, fun us y => us 8 = .agg (cellsM a (.slice A a.stamp.length c)), fun us y => ∃ A8 c8, us 9 = .agg (cellsM a (.slice A8 a.stamp.length c8)) ∧ Fit y A8 c8 a, fun us y => us 10 = .bool true, fun us y => us 11 = .bool true, fun us y => us 12 = .bool true, fun us y => us 13 = .bool sm, fun us y => us 14 = .agg (cellsM b (.slice AB b.stamp.length d)), fun us y => ∃ A7 c7, us 15 = .agg (cellsM b (.slice A7 b.stamp.length c7)) ∧ Fit y A7 c7 b, fun us y => us 16 = .agg (cellsM a (.slice A a.stamp.length c)), fun us y => ∃ A8 c8, us 17 = .agg (cellsM a (.slice A8 a.stamp.length c8)) ∧ Fit y A8 c8 a, fun us y => us 18 = .bool sm, fun us y => us 19 = .bool true, fun us y => us 20 = .bool true, fun us y => us 21 = .bool true, fun us y => us 22 = .int .i64 0, fun us y => us 23 = .bool false, fun us y => us 24 = .bool false, fun us y => us 25 = .int .i64 22, fun us y => us 26 = .bool true, fun us y => us 27 = .bool true, fun us y => us 28 = .bool true, fun us y => us 29 = undef, fun us y => us 30 = undef, fun us y => us 31 = undef, fun us y => us 32 = undef, fun us y => us 33 = undef, fun us y => us 34 = undef, fun us y => us 35 = undef, fun us y => us 36 = .bool true, fun us y => us 37 = .bool true, fun us y => us 38 = .bool true] j us wa → known [fun us y => us 0 = .bool sm, fun us y => us 1 = .agg (cellsM a (.slice A a.stamp.length c)), fun us y => us 2 = .agg (cellsM b (.slice AB b.stamp.length d)), fun us y => us 3 = .bool sm, fun us y => us 4 = .bool true, fun us y => us 5 = .bool true, fun us y => us 6 = .agg (cellsM a (.slice A a.stamp.length c)), fun us y => ∃ A7 c7, us 7 = .agg (cellsM a (.slice A7 a.stamp.length c7)) ∧ Fit y A7 c7 a, fun us y => us 8 = .agg (cellsM a (.slice A a.stamp.length c)), fun us y => ∃ A8 c8, us 9 = .agg (cellsM a (.slice A8 a.stamp.length c8)) ∧ Fit y A8 c8 a, fun us y => us 10 = .bool true, fun us y => us 11 = .bool true, fun us y => us 12 = .bool true, fun us y => us 13 = .bool sm, fun us y => us 14 = .agg (cellsM b (.slice AB b.stamp.length d)), fun us y => ∃ A7 c7, us 15 = .agg (cellsM b (.slice A7 b.stamp.length c7)) ∧ Fit y A7 c7 b, fun us y => us 16 = .agg (cellsM a (.slice A a.stamp.length c)), fun us y => ∃ A8 c8, us 17 = .agg (cellsM a (.slice A8 a.stamp.length c8)) ∧ Fit y A8 c8 a, fun us y => us 18 = .bool sm, fun us y => us 19 = .bool true, fun us y => us 20 = .bool true, fun us y => us 21 = .bool true, fun us y => us 22 = .int .i64 0, fun us y => us 23 = .bool false, fun us y => us 24 = .bool false, fun us y => us 25 = .int .i64 22, fun us y => us 26 = .bool true, fun us y => us 27 = .bool true, fun us y => us 28 = .bool true, fun us y => us 29 = undef, fun us y => us 30 = undef, fun us y => us 31 = undef, fun us y => us 32 = undef, fun us y => us 33 = undef, fun us y => us 34 = undef, fun us y => us 35 = undef, fun us y => us 36 = .bool true, fun us y => us 37 = .bool true, fun us y => us 38 = .bool true] j us wb := by
          intro us wa wb hb j h
          match j, h with
          | 0, h => exact h
          | 1, h => exact h
          | 2, h => exact h
          | 3, h => exact h
          | 4, h => exact h
          | 5, h => exact h
          | 6, h => exact h
          | 7, h => (obtain ⟨A7, c7, e7, f7⟩ : ∃ A7 c7, us 7 = .agg (cellsM a (.slice A7 a.stamp.length c7)) ∧ Fit wa A7 c7 a := h; exact (show ∃ A7 c7, us 7 = .agg (cellsM a (.slice A7 a.stamp.length c7)) ∧ Fit wb A7 c7 a from ⟨A7, c7, e7, f7.below hb⟩))
          | 8, h => exact h
          | 9, h => (obtain ⟨A8, c8, e9, f9⟩ : ∃ A8 c8, us 9 = .agg (cellsM a (.slice A8 a.stamp.length c8)) ∧ Fit wa A8 c8 a := h; exact (show ∃ A8 c8, us 9 = .agg (cellsM a (.slice A8 a.stamp.length c8)) ∧ Fit wb A8 c8 a from ⟨A8, c8, e9, f9.below hb⟩))
          | 10, h => exact h
          | 11, h => exact h
          | 12, h => exact h
          | 13, h => exact h
          | 14, h => exact h
          | 15, h => (obtain ⟨A7, c7, e15, f15⟩ : ∃ A7 c7, us 15 = .agg (cellsM b (.slice A7 b.stamp.length c7)) ∧ Fit wa A7 c7 b := h; exact (show ∃ A7 c7, us 15 = .agg (cellsM b (.slice A7 b.stamp.length c7)) ∧ Fit wb A7 c7 b from ⟨A7, c7, e15, f15.below hb⟩))
          | 16, h => exact h
          | 17, h => (obtain ⟨A8, c8, e17, f17⟩ : ∃ A8 c8, us 17 = .agg (cellsM a (.slice A8 a.stamp.length c8)) ∧ Fit wa A8 c8 a := h; exact (show ∃ A8 c8, us 17 = .agg (cellsM a (.slice A8 a.stamp.length c8)) ∧ Fit wb A8 c8 a from ⟨A8, c8, e17, f17.below hb⟩))
          | 18, h => exact h
          | 19, h => exact h
          | 20, h => exact h
          | 21, h => exact h
          | 22, h => exact h
          | 23, h => exact h
          | 24, h => exact h
          | 25, h => exact h
          | 26, h => exact h
          | 27, h => exact h
          | 28, h => exact h
          | 29, h => exact h
          | 30, h => exact h
          | 31, h => exact h
          | 32, h => exact h
          | 33, h => exact h
          | 34, h => exact h
          | 35, h => exact h
          | 36, h => exact h
          | 37, h => exact h
          | 38, h => exact h
          | q + 39, h => exact trivial
        have HKEEP := Lib.hid hKeep
        clear hKeep
        refine region_eany [some 29, some 30, some 31, some 32, some 33, some 34, some 35, some 36, some 37, some 38, some 39, some 40, some 41, some 42, some 43, some 44, some 45, some 46, some 47, some 48, some 49, some 50, some 51, some 52, some 53, some 54, some 55, some 56, some 57, some 58, some 59, some 60, some 61, some 62, some 63, some 64, some 65, some 66, some 4] (known [fun us y => us 0 = .bool sm, fun us y => us 1 = .agg (cellsM a (.slice A a.stamp.length c)), fun us y => us 2 = .agg (cellsM b (.slice AB b.stamp.length d)), fun us y => us 3 = .bool sm, fun us y => us 4 = .bool true, fun us y => us 5 = .bool true, fun us y => us 6 = .agg (cellsM a (.slice A a.stamp.length c)), fun us y => ∃ A7 c7, us 7 = .agg (cellsM a (.slice A7 a.stamp.length c7)) ∧ Fit y A7 c7 a, fun us y => us 8 = .agg (cellsM a (.slice A a.stamp.length c)), fun us y => ∃ A8 c8, us 9 = .agg (cellsM a (.slice A8 a.stamp.length c8)) ∧ Fit y A8 c8 a, fun us y => us 10 = .bool true, fun us y => us 11 = .bool true, fun us y => us 12 = .bool true, fun us y => us 13 = .bool sm, fun us y => us 14 = .agg (cellsM b (.slice AB b.stamp.length d)), fun us y => ∃ A7 c7, us 15 = .agg (cellsM b (.slice A7 b.stamp.length c7)) ∧ Fit y A7 c7 b, fun us y => us 16 = .agg (cellsM a (.slice A a.stamp.length c)), fun us y => ∃ A8 c8, us 17 = .agg (cellsM a (.slice A8 a.stamp.length c8)) ∧ Fit y A8 c8 a, fun us y => us 18 = .bool sm, fun us y => us 19 = .bool true, fun us y => us 20 = .bool true, fun us y => us 21 = .bool true, fun us y => us 22 = .int .i64 0, fun us y => us 23 = .bool false, fun us y => us 24 = .bool false, fun us y => us 25 = .int .i64 22, fun us y => us 26 = .bool true, fun us y => us 27 = .bool true, fun us y => us 28 = .bool true, fun us y => us 29 = undef, fun us y => us 30 = undef, fun us y => us 31 = undef, fun us y => us 32 = undef, fun us y => us 33 = undef, fun us y => us 34 = undef, fun us y => us 35 = undef, fun us y => us 36 = .bool true, fun us y => us 37 = .bool true, fun us y => us 38 = .bool true]) (fun y => Below y2.heap.size y2 y) (fun y => True) [] [[], [], [], [1, 2], [0, 1, 2, 3], [0, 1, 2, 3, 4], [0, 1, 2, 3, 4, 5], [0, 1, 2, 3, 4, 5, 6], [0, 1, 2, 3, 4, 5], [0, 1, 2, 3, 4, 5, 6, 7, 8], [0, 1, 2, 3, 4, 5, 6, 7, 8, 9], [0, 1, 2, 3, 4, 5, 6, 7, 8, 9, 10], [0, 1, 2, 3, 4, 5, 6, 7, 8, 9, 10, 11], [0, 1, 2, 3, 4, 5, 6, 7, 8, 9, 10, 11, 12], [0, 1, 2, 3, 4, 5, 6, 7, 8, 9, 10, 11, 12], [0, 1, 2, 3, 4, 5, 6, 7, 8, 9, 10, 11, 12, 14], [0, 1, 2, 3, 4, 5, 6, 7, 8, 9, 10, 11, 12], [0, 1, 2, 3, 4, 5, 6, 7, 8, 9, 10, 11, 12, 14, 15, 16], [0, 1, 2, 3, 4, 5, 6, 7, 8, 9, 10, 11, 12, 14, 15, 16, 17], [0, 1, 2, 3, 4, 5, 6, 7, 8, 9, 10, 11, 12, 13, 14, 15, 16, 17, 18], [0, 1, 2, 3, 4, 5, 6, 7, 8, 9, 10, 11, 12, 13, 14, 15, 16, 17, 18, 19], [0, 1, 2, 3, 4, 5, 6, 7, 8, 9, 10, 11, 12, 13, 14, 15, 16, 17, 18, 19, 20], [0, 1, 2, 3, 4, 5, 6, 7, 8, 9, 10, 11, 12, 13, 14, 15, 16, 17, 18, 19, 20, 21], [0, 1, 2, 3, 4, 5, 6, 7, 8, 9, 10, 11, 12, 13, 14, 15, 16, 17, 18, 19, 20, 21, 22], [0, 1, 2, 3, 4, 5, 6, 7, 8, 9, 10, 11, 12, 13, 14, 15, 16, 17, 18, 19, 20, 21, 22, 23], [0, 1, 2, 3, 4, 5, 6, 7, 8, 9, 10, 11, 12, 13, 14, 15, 16, 17, 18, 19, 20, 21, 22, 23, 24], [0, 1, 2, 3, 4, 5, 6, 7, 8, 9, 10, 11, 12, 13, 14, 15, 16, 17, 18, 19, 20, 21, 22, 23, 24, 25], [0, 1, 2, 3, 4, 5, 6, 7, 8, 9, 10, 11, 12, 13, 14, 15, 16, 17, 18, 19, 20, 21, 22, 23, 24, 25, 26], [0, 1, 2, 3, 4, 5, 6, 7, 8, 9, 10, 11, 12, 13, 14, 15, 16, 17, 18, 19, 20, 21, 22, 23, 24, 25, 26, 27], [0, 1, 2, 3, 4, 5, 6, 7, 8, 9, 10, 11, 12, 13, 14, 15, 16, 17, 18, 19, 20, 21, 22, 23, 24, 25, 26, 27, 28], [0, 1, 2, 3, 4, 5, 6, 7, 8, 9, 10, 11, 12, 13, 14, 15, 16, 17, 18, 19, 20, 21, 22, 23, 24, 25, 26, 27, 28, 29], [0, 1, 2, 3, 4, 5, 6, 7, 8, 9, 10, 11, 12, 13, 14, 15, 16, 17, 18, 19, 20, 21, 22, 23, 24, 25, 26, 27, 28], [0, 1, 2, 3, 4, 5, 6, 7, 8, 9, 10, 11, 12, 13, 14, 15, 16, 17, 18, 19, 20, 21, 22, 23, 24, 25, 26, 27, 28, 31], [0, 1, 2, 3, 4, 5, 6, 7, 8, 9, 10, 11, 12, 13, 14, 15, 16, 17, 18, 19, 20, 21, 22, 23, 24, 25, 26, 27, 28, 29, 30, 31, 32], [0, 1, 2, 3, 4, 5, 6, 7, 8, 9, 10, 11, 12, 13, 14, 15, 16, 17, 18, 19, 20, 21, 22, 23, 24, 25, 26, 27, 28], [0, 1, 2, 3, 4, 5, 6, 7, 8, 9, 10, 11, 12, 13, 14, 15, 16, 17, 18, 19, 20, 21, 22, 23, 24, 25, 26, 27, 28, 29, 30, 31, 32, 33, 34], [0, 1, 2, 3, 4, 5, 6, 7, 8, 9, 10, 11, 12, 13, 14, 15, 16, 17, 18, 19, 20, 21, 22, 23, 24, 25, 26, 27, 28, 29, 30, 31, 32, 33, 34, 35], [0, 1, 2, 3, 4, 5, 6, 7, 8, 9, 10, 11, 12, 13, 14, 15, 16, 17, 18, 19, 20, 21, 22, 23, 24, 25, 26, 27, 28, 29, 30, 31, 32, 33, 34, 35, 36], [0, 1, 2, 3, 4, 5, 6, 7, 8, 9, 10, 11, 12, 13, 14, 15, 16, 17, 18, 19, 20, 21, 22, 23, 24, 25, 26, 27, 28, 29, 30, 31, 32, 33, 34, 35, 36, 37]] (by
          intro j us us' y h hF
          match j, h, hF with
          | 0, h, hF => (have hF : us 0 = .bool sm := hF; rw [h 0 (.inl rfl)] at hF; exact hF)
          | 1, h, hF => (have hF : us 1 = .agg (cellsM a (.slice A a.stamp.length c)) := hF; rw [h 1 (.inl rfl)] at hF; exact hF)
          | 2, h, hF => (have hF : us 2 = .agg (cellsM b (.slice AB b.stamp.length d)) := hF; rw [h 2 (.inl rfl)] at hF; exact hF)
          | 3, h, hF => (have hF : us 3 = .bool sm := hF; rw [h 3 (.inl rfl)] at hF; exact hF)
          | 4, h, hF => (have hF : us 4 = .bool true := hF; rw [h 4 (.inl rfl)] at hF; exact hF)
          | 5, h, hF => (have hF : us 5 = .bool true := hF; rw [h 5 (.inl rfl)] at hF; exact hF)
          | 6, h, hF => (have hF : us 6 = .agg (cellsM a (.slice A a.stamp.length c)) := hF; rw [h 6 (.inl rfl)] at hF; exact hF)
          | 7, h, hF => (have hF : ∃ A7 c7, us 7 = .agg (cellsM a (.slice A7 a.stamp.length c7)) ∧ Fit y A7 c7 a := hF; rw [h 7 (.inl rfl)] at hF; exact hF)
          | 8, h, hF => (have hF : us 8 = .agg (cellsM a (.slice A a.stamp.length c)) := hF; rw [h 8 (.inl rfl)] at hF; exact hF)
          | 9, h, hF => (have hF : ∃ A8 c8, us 9 = .agg (cellsM a (.slice A8 a.stamp.length c8)) ∧ Fit y A8 c8 a := hF; rw [h 9 (.inl rfl)] at hF; exact hF)
          | 10, h, hF => (have hF : us 10 = .bool true := hF; rw [h 10 (.inl rfl)] at hF; exact hF)
          | 11, h, hF => (have hF : us 11 = .bool true := hF; rw [h 11 (.inl rfl)] at hF; exact hF)
          | 12, h, hF => (have hF : us 12 = .bool true := hF; rw [h 12 (.inl rfl)] at hF; exact hF)
          | 13, h, hF => (have hF : us 13 = .bool sm := hF; rw [h 13 (.inl rfl)] at hF; exact hF)
          | 14, h, hF => (have hF : us 14 = .agg (cellsM b (.slice AB b.stamp.length d)) := hF; rw [h 14 (.inl rfl)] at hF; exact hF)
          | 15, h, hF => (have hF : ∃ A7 c7, us 15 = .agg (cellsM b (.slice A7 b.stamp.length c7)) ∧ Fit y A7 c7 b := hF; rw [h 15 (.inl rfl)] at hF; exact hF)
          | 16, h, hF => (have hF : us 16 = .agg (cellsM a (.slice A a.stamp.length c)) := hF; rw [h 16 (.inl rfl)] at hF; exact hF)
          | 17, h, hF => (have hF : ∃ A8 c8, us 17 = .agg (cellsM a (.slice A8 a.stamp.length c8)) ∧ Fit y A8 c8 a := hF; rw [h 17 (.inl rfl)] at hF; exact hF)
          | 18, h, hF => (have hF : us 18 = .bool sm := hF; rw [h 18 (.inl rfl)] at hF; exact hF)
          | 19, h, hF => (have hF : us 19 = .bool true := hF; rw [h 19 (.inl rfl)] at hF; exact hF)
          | 20, h, hF => (have hF : us 20 = .bool true := hF; rw [h 20 (.inl rfl)] at hF; exact hF)
          | 21, h, hF => (have hF : us 21 = .bool true := hF; rw [h 21 (.inl rfl)] at hF; exact hF)
          | 22, h, hF => (have hF : us 22 = .int .i64 0 := hF; rw [h 22 (.inl rfl)] at hF; exact hF)
          | 23, h, hF => (have hF : us 23 = .bool false := hF; rw [h 23 (.inl rfl)] at hF; exact hF)
          | 24, h, hF => (have hF : us 24 = .bool false := hF; rw [h 24 (.inl rfl)] at hF; exact hF)
          | 25, h, hF => (have hF : us 25 = .int .i64 22 := hF; rw [h 25 (.inl rfl)] at hF; exact hF)
          | 26, h, hF => (have hF : us 26 = .bool true := hF; rw [h 26 (.inl rfl)] at hF; exact hF)
          | 27, h, hF => (have hF : us 27 = .bool true := hF; rw [h 27 (.inl rfl)] at hF; exact hF)
          | 28, h, hF => (have hF : us 28 = .bool true := hF; rw [h 28 (.inl rfl)] at hF; exact hF)
          | 29, h, hF => (have hF : us 29 = undef := hF; rw [h 29 (.inl rfl)] at hF; exact hF)
          | 30, h, hF => (have hF : us 30 = undef := hF; rw [h 30 (.inl rfl)] at hF; exact hF)
          | 31, h, hF => (have hF : us 31 = undef := hF; rw [h 31 (.inl rfl)] at hF; exact hF)
          | 32, h, hF => (have hF : us 32 = undef := hF; rw [h 32 (.inl rfl)] at hF; exact hF)
          | 33, h, hF => (have hF : us 33 = undef := hF; rw [h 33 (.inl rfl)] at hF; exact hF)
          | 34, h, hF => (have hF : us 34 = undef := hF; rw [h 34 (.inl rfl)] at hF; exact hF)
          | 35, h, hF => (have hF : us 35 = undef := hF; rw [h 35 (.inl rfl)] at hF; exact hF)
          | 36, h, hF => (have hF : us 36 = .bool true := hF; rw [h 36 (.inl rfl)] at hF; exact hF)
          | 37, h, hF => (have hF : us 37 = .bool true := hF; rw [h 37 (.inl rfl)] at hF; exact hF)
          | 38, h, hF => (have hF : us 38 = .bool true := hF; rw [h 38 (.inl rfl)] at hF; exact hF)
          | q + 39, h, hF => exact trivial) (by kernel_rfl) rfl (by kernel_rfl) (by kernel_rfl) (by kernel_rfl) (by exact (Below.refl _ _).drew) (trivial) (Z := fun vs => cq _ vs [(4, 38), (66, 37), (65, 36), (64, 35), (63, 34), (62, 33), (61, 32), (60, 31), (59, 30), (58, 29), (57, 28), (56, 27), (55, 26), (54, 25), (53, 24), (52, 23), (51, 22), (50, 21), (49, 20), (48, 19), (47, 18), (46, 17), (45, 16), (44, 15), (43, 14), (42, 13), (41, 12), (40, 11), (39, 10), (38, 9), (37, 8), (36, 7), (35, 6), (34, 5), (33, 4), (32, 3), (31, 2), (30, 1), (29, 0)]) (fun _ => rfl) ?_ ?_
        · skip
          refine EAll.snoc (i := 38) ?_ rfl rfl trivial ?_
          rotate_left
          · intro vs B y hI hJ hL hA K E hK
            have hB := hI
            clear hJ
            have e37 : vs 37 = .bool true := hA 37 (by decide)
            clear hA
            have t66 := (hL.at_ 37 (by decide) 66 rfl).trans (congrArg some e37)
            clear hL e37
            refine Box.mk ?_
            go_simp
            exact hK.out _ _ hB (show (updv vs 38 _) 38 = .bool true from rfl) (fun _ _ _ h => h) (fun _ h => h)
          refine EAll.snoc (i := 37) ?_ rfl rfl trivial ?_
          rotate_left
          · intro vs B y hI hJ hL hA K E hK
            have hB := hI
            clear hJ
            have e21 : vs 21 = .bool true := hA 21 (by decide)
            have e36 : vs 36 = .bool true := hA 36 (by decide)
            clear hA
            have t50 := (hL.at_ 21 (by decide) 50 rfl).trans (congrArg some e21)
            have t65 := (hL.at_ 36 (by decide) 65 rfl).trans (congrArg some e36)
            clear hL e21 e36
            refine Box.mk ?_
            go_simp
            exact hK.out _ _ hB (show (updv vs 37 _) 37 = .bool true from rfl) (fun _ _ _ h => h) (fun _ h => h)
          refine EAll.snoc (i := 36) ?_ rfl rfl (fun vs y hF h => absurd (show vs 21 = .bool true from hF 21 (by decide)) h) ?_
          rotate_left
          · intro vs B y hI hJ hL hA hg K E hK
            have hB := hI
            clear hJ hg
            have e28 : vs 28 = .bool true := hA 28 (by decide)
            have e35 : vs 35 = undef := hA 35 (by decide)
            clear hA
            have t57 := (hL.at_ 28 (by decide) 57 rfl).trans (congrArg some e28)
            have t64 := (hL.at_ 35 (by decide) 64 rfl).trans (congrArg some e35)
            clear hL e28 e35
            refine Box.mk ?_
            go_simp
            exact hK.out _ _ hB (show (updv vs 36 _) 36 = .bool true from rfl) (fun _ _ _ h => h) (fun _ h => h)
          refine EAll.snoc (i := 35) ?_ rfl rfl (fun vs y hF h => (show updv vs 35 undef 35 = undef from rfl)) ?_
          rotate_left
          · intro vs B y hI hJ hL hA hg
            have e : vs 28 = .bool true := hA 28 (by decide)
            rw [e] at hg
            cases hg
          refine EAll.snoc (i := 34) ?_ rfl rfl (fun vs y hF h => (show updv vs 34 undef 34 = undef from rfl)) ?_
          rotate_left
          · intro vs B y hI hJ hL hA hg
            have e : vs 28 = .bool true := hA 28 (by decide)
            rw [e] at hg
            cases hg
          refine EAll.snoc (i := 33) ?_ rfl rfl (fun vs y hF h => (show updv vs 33 undef 33 = undef from rfl)) ?_
          rotate_left
          · intro vs B y hI hJ hL hA hg
            have e : vs 28 = .bool true := hA 28 (by decide)
            rw [e] at hg
            cases hg
          refine EAll.snoc (i := 32) ?_ rfl rfl (fun vs y hF h => (show updv vs 32 undef 32 = undef from rfl)) ?_
          rotate_left
          · intro vs B y hI hJ hL hA hg
            have e : vs 28 = .bool true := hA 28 (by decide)
            rw [e] at hg
            cases hg
          refine EAll.snoc (i := 31) ?_ rfl rfl (fun vs y hF h => (show updv vs 31 undef 31 = undef from rfl)) ?_
          rotate_left
          · intro vs B y hI hJ hL hA hg
            have e : vs 28 = .bool true := hA 28 (by decide)
            rw [e] at hg
            cases hg
          refine EAll.snoc (i := 30) ?_ rfl rfl (fun vs y hF h => (show updv vs 30 undef 30 = undef from rfl)) ?_
          rotate_left
          · intro vs B y hI hJ hL hA hg
            have e : vs 28 = .bool true := hA 28 (by decide)
            rw [e] at hg
            cases hg
          refine EAll.snoc (i := 29) ?_ rfl rfl (fun vs y hF h => (show updv vs 29 undef 29 = undef from rfl)) ?_
          rotate_left
          · intro vs B y hI hJ hL hA hg
            have e : vs 28 = .bool true := hA 28 (by decide)
            rw [e] at hg
            cases hg
          refine EAll.snoc (i := 28) ?_ rfl rfl (fun vs y hF h => absurd (show vs 21 = .bool true from hF 21 (by decide)) h) ?_
          rotate_left
          · intro vs B y hI hJ hL hA hg K E hK
            have hB := hI
            clear hJ hg
            have e27 : vs 27 = .bool true := hA 27 (by decide)
            clear hA
            have t56 := (hL.at_ 27 (by decide) 56 rfl).trans (congrArg some e27)
            clear hL e27
            refine Box.mk ?_
            go_simp
            exact hK.out _ _ hB (show (updv vs 28 _) 28 = .bool true from rfl) (fun _ _ _ h => h) (fun _ h => h)
          refine EAll.snoc (i := 27) ?_ rfl rfl (fun vs y hF h => absurd (show vs 21 = .bool true from hF 21 (by decide)) h) ?_
          rotate_left
          · intro vs B y hI hJ hL hA hg K E hK
            have hB := hI
            clear hJ hg
            have e24 : vs 24 = .bool false := hA 24 (by decide)
            have e26 : vs 26 = .bool true := hA 26 (by decide)
            clear hA
            have t53 := (hL.at_ 24 (by decide) 53 rfl).trans (congrArg some e24)
            have t55 := (hL.at_ 26 (by decide) 55 rfl).trans (congrArg some e26)
            clear hL e24 e26
            refine Box.mk ?_
            go_simp
            exact hK.out _ _ hB (show (updv vs 27 _) 27 = .bool true from rfl) (fun _ _ _ h => h) (fun _ h => h)
          refine EAll.snoc (i := 26) ?_ rfl rfl (fun vs y hF h => absurd (show vs 24 = .bool false from hF 24 (by decide)) h) ?_
          rotate_left
          · intro vs B y hI hJ hL hA hg K E hK
            have hB := hI
            clear hJ hg
            have e25 : vs 25 = .int .i64 22 := hA 25 (by decide)
            clear hA
            have t54 := (hL.at_ 25 (by decide) 54 rfl).trans (congrArg some e25)
            clear hL e25
            refine Box.mk ?_
            go_simp
            exact hK.out _ _ hB (show (updv vs 26 _) 26 = .bool true from rfl) (fun _ _ _ h => h) (fun _ h => h)
          refine EAll.snoc (i := 25) ?_ rfl rfl (fun vs y hF h => absurd (show vs 24 = .bool false from hF 24 (by decide)) h) ?_
          rotate_left
          · intro vs B y hI hJ hL hA hg K E hK
            have hB := hI
            clear hJ hg
            clear hA
            have t9 : B.tmps[9]? = some (.int .i64 22) := (hL.out 9 rfl).trans rfl
            clear hL
            refine Box.mk ?_
            go_simp
            exact hK.out _ _ hB (show (updv vs 25 _) 25 = .int .i64 22 from rfl) (fun _ _ _ h => h) (fun _ h => h)
          refine EAll.snoc (i := 24) ?_ rfl rfl (fun vs y hF h => absurd (show vs 21 = .bool true from hF 21 (by decide)) h) ?_
          rotate_left
          · intro vs B y hI hJ hL hA hg K E hK
            have hB := hI
            clear hJ hg
            have e23 : vs 23 = .bool false := hA 23 (by decide)
            clear hA
            have t52 := (hL.at_ 23 (by decide) 52 rfl).trans (congrArg some e23)
            clear hL e23
            refine Box.mk ?_
            go_simp
            exact hK.out _ _ hB (show (updv vs 24 _) 24 = .bool false from rfl) (fun _ _ _ h => h) (fun _ h => h)
          refine EAll.snoc (i := 23) ?_ rfl rfl (fun vs y hF h => absurd (show vs 21 = .bool true from hF 21 (by decide)) h) ?_
          rotate_left
          · intro vs B y hI hJ hL hA hg K E hK
            have hB := hI
            clear hJ hg
            have e22 : vs 22 = .int .i64 0 := hA 22 (by decide)
            clear hA
            have t51 := (hL.at_ 22 (by decide) 51 rfl).trans (congrArg some e22)
            clear hL e22
            refine Box.mk ?_
            go_simp
            exact hK.out _ _ hB (show (updv vs 23 _) 23 = .bool false from rfl) (fun _ _ _ h => h) (fun _ h => h)
          refine EAll.snoc (i := 22) ?_ rfl rfl (fun vs y hF h => absurd (show vs 21 = .bool true from hF 21 (by decide)) h) ?_
          rotate_left
          · intro vs B y hI hJ hL hA hg K E hK
            have hB := hI
            clear hJ hg
            clear hA
            have t7 : B.tmps[7]? = some (.int .i64 0) := (hL.out 7 rfl).trans rfl
            clear hL
            refine Box.mk ?_
            go_simp
            exact hK.out _ _ hB (show (updv vs 22 _) 22 = .int .i64 0 from rfl) (fun _ _ _ h => h) (fun _ h => h)
          refine EAll.snoc (i := 21) ?_ rfl rfl trivial ?_
          rotate_left
          · intro vs B y hI hJ hL hA K E hK
            have hB := hI
            clear hJ
            have e20 : vs 20 = .bool true := hA 20 (by decide)
            clear hA
            have t49 := (hL.at_ 20 (by decide) 49 rfl).trans (congrArg some e20)
            clear hL e20
            refine Box.mk ?_
            go_simp
            exact hK.out _ _ hB (show (updv vs 21 _) 21 = .bool true from rfl) (fun _ _ _ h => h) (fun _ h => h)
          refine EAll.snoc (i := 20) ?_ rfl rfl trivial ?_
          rotate_left
          · intro vs B y hI hJ hL hA K E hK
            have hB := hI
            clear hJ
            have e12 : vs 12 = .bool true := hA 12 (by decide)
            have e19 : vs 19 = .bool true := hA 19 (by decide)
            clear hA
            have t41 := (hL.at_ 12 (by decide) 41 rfl).trans (congrArg some e12)
            have t48 := (hL.at_ 19 (by decide) 48 rfl).trans (congrArg some e19)
            clear hL e12 e19
            refine Box.mk ?_
            go_simp
            exact hK.out _ _ hB (show (updv vs 20 _) 20 = .bool true from rfl) (fun _ _ _ h => h) (fun _ h => h)
          refine EAll.snoc (i := 19) ?_ rfl rfl (fun vs y hF h => absurd (show vs 12 = .bool true from hF 12 (by decide)) h) ?_
          rotate_left
          · intro vs B y hI hJ hL hA hg K E hK
            have hB := hI
            clear hJ hg
            have e13 : vs 13 = .bool sm := hA 13 (by decide)
            have e18 : vs 18 = .bool sm := hA 18 (by decide)
            clear hA
            have t42 := (hL.at_ 13 (by decide) 42 rfl).trans (congrArg some e13)
            have t47 := (hL.at_ 18 (by decide) 47 rfl).trans (congrArg some e18)
            clear hL e13 e18
            refine Box.mk ?_
            go_simp
            exact hK.out _ _ hB (show (updv vs 19 _) 19 = .bool true from rfl) (fun _ _ _ h => h) (fun _ h => h)
          refine EAll.snoc (i := 18) ?_ rfl rfl (fun vs y hF h => absurd (show vs 12 = .bool true from hF 12 (by decide)) h) ?_
          rotate_left
          · intro vs B y hI hJ hL hA hg K E hK
            have hB := hI
            clear hJ hg
            have hF15 : ∃ A7 c7, vs 15 = .agg (cellsM b (.slice A7 b.stamp.length c7)) ∧ Fit y A7 c7 b := hA 15 (by decide)
            obtain ⟨A7, c7, e15, f15⟩ := hF15
            have hF17 : ∃ A8 c8, vs 17 = .agg (cellsM a (.slice A8 a.stamp.length c8)) ∧ Fit y A8 c8 a := hA 17 (by decide)
            obtain ⟨A8, c8, e17, f17⟩ := hF17
            clear hA
            have t44 := (hL.at_ 15 (by decide) 44 rfl).trans (congrArg some e15)
            have t46 := (hL.at_ 17 (by decide) 46 rfl).trans (congrArg some e17)
            clear hL e15 e17
            refine Box.mk ?_
            go_simp
            with_reducible refine (Same_any _ _ _ _ b a y f15.ints f17.ints f15.le f17.le f15.cap f17.cap).mono ?_
            rintro e w5 ⟨rfl, hb⟩
            rw [HSW.out]
            go_simp
            exact hK.out _ _ (below_on hB hb) (show (updv vs 18 _) 18 = .bool sm from rfl) (fun j _ _ h => HKEEP.out vs y w5 hb j h) (fun _ h => h)
          refine EAll.snoc (i := 17) ?_ rfl rfl (fun vs y hF h => absurd (show vs 12 = .bool true from hF 12 (by decide)) h) ?_
          rotate_left
          · intro vs B y hI hJ hL hA hg K E hK
            have hB := hI
            clear hJ hg
            have e16 : vs 16 = .agg (cellsM a (.slice A a.stamp.length c)) := hA 16 (by decide)
            clear hA
            have t45 := (hL.at_ 16 (by decide) 45 rfl).trans (congrArg some e16)
            clear hL e16
            refine Box.mk ?_
            go_simp
            with_reducible refine (own_of A c a y (HCA4.out.below hB)).mono ?_
            rintro e w5 ⟨A9, c9, rfl, hf, hb⟩
            have hf := hf.out
            go_simp
            exact hK.out _ _ (below_on hB hb) (show ∃ A8 c8, (updv vs 17 _) 17 = .agg (cellsM a (.slice A8 a.stamp.length c8)) ∧ Fit w5 A8 c8 a from ⟨A9, c9, rfl, hf⟩) (fun j _ _ h => HKEEP.out vs y w5 hb j h) (fun _ h => h)
          refine EAll.snoc (i := 16) ?_ rfl rfl (fun vs y hF h => absurd (show vs 12 = .bool true from hF 12 (by decide)) h) ?_
          rotate_left
          · intro vs B y hI hJ hL hA hg K E hK
            have hB := hI
            clear hJ hg
            clear hA
            have t2 : B.tmps[2]? = some (.pointer (some ⟨w.heap.size, 0, none⟩)) := (hL.out 2 rfl).trans rfl
            clear hL
            refine Box.mk ?_
            refine wp_load_mid 28 (.tmp 2) rfl (w.heap.size) 0 (by simp [Act.eval, t2]) (cellsM a (.slice A a.stamp.length c)).toList _ (msg_range (show MsgBlk y (w.heap.size) a (.slice A a.stamp.length c) from (Mod.of_below hB []).whole HKA4.out (by simp))) Try.underlying28 rfl (by kernel_rfl) ?_
            exact hK.out _ _ hB (show (updv vs 16 _) 16 = .agg (cellsM a (.slice A a.stamp.length c)) from rfl) (fun _ _ _ h => h) (fun _ h => h)
          refine EAll.snoc (i := 15) ?_ rfl rfl (fun vs y hF h => absurd (show vs 12 = .bool true from hF 12 (by decide)) h) ?_
          rotate_left
          · intro vs B y hI hJ hL hA hg K E hK
            have hB := hI
            clear hJ hg
            have e14 : vs 14 = .agg (cellsM b (.slice AB b.stamp.length d)) := hA 14 (by decide)
            clear hA
            have t43 := (hL.at_ 14 (by decide) 43 rfl).trans (congrArg some e14)
            clear hL e14
            refine Box.mk ?_
            go_simp
            with_reducible refine (own_of AB d b y (HCB4.out.below hB)).mono ?_
            rintro e w5 ⟨A9, c9, rfl, hf, hb⟩
            have hf := hf.out
            go_simp
            exact hK.out _ _ (below_on hB hb) (show ∃ A7 c7, (updv vs 15 _) 15 = .agg (cellsM b (.slice A7 b.stamp.length c7)) ∧ Fit w5 A7 c7 b from ⟨A9, c9, rfl, hf⟩) (fun j _ _ h => HKEEP.out vs y w5 hb j h) (fun _ h => h)
          refine EAll.snoc (i := 14) ?_ rfl rfl (fun vs y hF h => absurd (show vs 12 = .bool true from hF 12 (by decide)) h) ?_
          rotate_left
          · intro vs B y hI hJ hL hA hg K E hK
            have hB := hI
            clear hJ hg
            clear hA
            have t3 : B.tmps[3]? = some (.pointer (some ⟨w.heap.size + 1, 0, none⟩)) := (hL.out 3 rfl).trans rfl
            clear hL
            refine Box.mk ?_
            refine wp_load_mid 28 (.tmp 3) rfl (w.heap.size + 1) 0 (by simp [Act.eval, t3]) (cellsM b (.slice AB b.stamp.length d)).toList _ (msg_range (show MsgBlk y (w.heap.size + 1) b (.slice AB b.stamp.length d) from (Mod.of_below hB []).whole HKB4.out (by simp))) Try.underlying28 rfl (by kernel_rfl) ?_
            exact hK.out _ _ hB (show (updv vs 14 _) 14 = .agg (cellsM b (.slice AB b.stamp.length d)) from rfl) (fun _ _ _ h => h) (fun _ h => h)
          refine EAll.snoc (i := 13) ?_ rfl rfl (fun vs y hF h => absurd (show vs 12 = .bool true from hF 12 (by decide)) h) ?_
          rotate_left
          · intro vs B y hI hJ hL hA hg K E hK
            have hB := hI
            clear hJ hg
            clear hA
            have t5 : B.tmps[5]? = some (.bool sm) := (hL.out 5 rfl).trans rfl
            clear hL
            refine Box.mk ?_
            go_simp
            exact hK.out _ _ hB (show (updv vs 13 _) 13 = .bool sm from rfl) (fun _ _ _ h => h) (fun _ h => h)
          refine EAll.snoc (i := 12) ?_ rfl rfl trivial ?_
          rotate_left
          · intro vs B y hI hJ hL hA K E hK
            have hB := hI
            clear hJ
            have e11 : vs 11 = .bool true := hA 11 (by decide)
            clear hA
            have t40 := (hL.at_ 11 (by decide) 40 rfl).trans (congrArg some e11)
            clear hL e11
            refine Box.mk ?_
            go_simp
            exact hK.out _ _ hB (show (updv vs 12 _) 12 = .bool true from rfl) (fun _ _ _ h => h) (fun _ h => h)
          refine EAll.snoc (i := 11) ?_ rfl rfl trivial ?_
          rotate_left
          · intro vs B y hI hJ hL hA K E hK
            have hB := hI
            clear hJ
            have e5 : vs 5 = .bool true := hA 5 (by decide)
            have e10 : vs 10 = .bool true := hA 10 (by decide)
            clear hA
            have t34 := (hL.at_ 5 (by decide) 34 rfl).trans (congrArg some e5)
            have t39 := (hL.at_ 10 (by decide) 39 rfl).trans (congrArg some e10)
            clear hL e5 e10
            refine Box.mk ?_
            go_simp
            exact hK.out _ _ hB (show (updv vs 11 _) 11 = .bool true from rfl) (fun _ _ _ h => h) (fun _ h => h)
          refine EAll.snoc (i := 10) ?_ rfl rfl (fun vs y hF h => absurd (show vs 5 = .bool true from hF 5 (by decide)) h) ?_
          rotate_left
          · intro vs B y hI hJ hL hA hg K E hK
            have hB := hI
            clear hJ hg
            have hF7 : ∃ A7 c7, vs 7 = .agg (cellsM a (.slice A7 a.stamp.length c7)) ∧ Fit y A7 c7 a := hA 7 (by decide)
            obtain ⟨A7, c7, e7, f7⟩ := hF7
            have hF9 : ∃ A8 c8, vs 9 = .agg (cellsM a (.slice A8 a.stamp.length c8)) ∧ Fit y A8 c8 a := hA 9 (by decide)
            obtain ⟨A8, c8, e9, f9⟩ := hF9
            clear hA
            have t36 := (hL.at_ 7 (by decide) 36 rfl).trans (congrArg some e7)
            have t38 := (hL.at_ 9 (by decide) 38 rfl).trans (congrArg some e9)
            clear hL e7 e9
            refine Box.mk ?_
            go_simp
            with_reducible refine (Same_any _ _ _ _ a a y f7.ints f9.ints f7.le f9.le f7.cap f9.cap).mono ?_
            rintro e w5 ⟨rfl, hb⟩
            rw [decide_eq_true (show a = a from rfl)]
            go_simp
            exact hK.out _ _ (below_on hB hb) (show (updv vs 10 _) 10 = .bool true from rfl) (fun j _ _ h => HKEEP.out vs y w5 hb j h) (fun _ h => h)
          refine EAll.snoc (i := 9) ?_ rfl rfl (fun vs y hF h => absurd (show vs 5 = .bool true from hF 5 (by decide)) h) ?_
          rotate_left
          · intro vs B y hI hJ hL hA hg K E hK
            have hB := hI
            clear hJ hg
            have e8 : vs 8 = .agg (cellsM a (.slice A a.stamp.length c)) := hA 8 (by decide)
            clear hA
            have t37 := (hL.at_ 8 (by decide) 37 rfl).trans (congrArg some e8)
            clear hL e8
            refine Box.mk ?_
            go_simp
            with_reducible refine (own_of A c a y (HCA4.out.below hB)).mono ?_
            rintro e w5 ⟨A9, c9, rfl, hf, hb⟩
            have hf := hf.out
            go_simp
            exact hK.out _ _ (below_on hB hb) (show ∃ A8 c8, (updv vs 9 _) 9 = .agg (cellsM a (.slice A8 a.stamp.length c8)) ∧ Fit w5 A8 c8 a from ⟨A9, c9, rfl, hf⟩) (fun j _ _ h => HKEEP.out vs y w5 hb j h) (fun _ h => h)
          refine EAll.snoc (i := 8) ?_ rfl rfl (fun vs y hF h => absurd (show vs 5 = .bool true from hF 5 (by decide)) h) ?_
          rotate_left
          · intro vs B y hI hJ hL hA hg K E hK
            have hB := hI
            clear hJ hg
            clear hA
            have t2 : B.tmps[2]? = some (.pointer (some ⟨w.heap.size, 0, none⟩)) := (hL.out 2 rfl).trans rfl
            clear hL
            refine Box.mk ?_
            refine wp_load_mid 28 (.tmp 2) rfl (w.heap.size) 0 (by simp [Act.eval, t2]) (cellsM a (.slice A a.stamp.length c)).toList _ (msg_range (show MsgBlk y (w.heap.size) a (.slice A a.stamp.length c) from (Mod.of_below hB []).whole HKA4.out (by simp))) Try.underlying28 rfl (by kernel_rfl) ?_
            exact hK.out _ _ hB (show (updv vs 8 _) 8 = .agg (cellsM a (.slice A a.stamp.length c)) from rfl) (fun _ _ _ h => h) (fun _ h => h)
          refine EAll.snoc (i := 7) ?_ rfl rfl (fun vs y hF h => absurd (show vs 5 = .bool true from hF 5 (by decide)) h) ?_
          rotate_left
          · intro vs B y hI hJ hL hA hg K E hK
            have hB := hI
            clear hJ hg
            have e6 : vs 6 = .agg (cellsM a (.slice A a.stamp.length c)) := hA 6 (by decide)
            clear hA
            have t35 := (hL.at_ 6 (by decide) 35 rfl).trans (congrArg some e6)
            clear hL e6
            refine Box.mk ?_
            go_simp
            with_reducible refine (own_of A c a y (HCA4.out.below hB)).mono ?_
            rintro e w5 ⟨A9, c9, rfl, hf, hb⟩
            have hf := hf.out
            go_simp
            exact hK.out _ _ (below_on hB hb) (show ∃ A7 c7, (updv vs 7 _) 7 = .agg (cellsM a (.slice A7 a.stamp.length c7)) ∧ Fit w5 A7 c7 a from ⟨A9, c9, rfl, hf⟩) (fun j _ _ h => HKEEP.out vs y w5 hb j h) (fun _ h => h)
          refine EAll.snoc (i := 6) ?_ rfl rfl (fun vs y hF h => absurd (show vs 5 = .bool true from hF 5 (by decide)) h) ?_
          rotate_left
          · intro vs B y hI hJ hL hA hg K E hK
            have hB := hI
            clear hJ hg
            clear hA
            have t2 : B.tmps[2]? = some (.pointer (some ⟨w.heap.size, 0, none⟩)) := (hL.out 2 rfl).trans rfl
            clear hL
            refine Box.mk ?_
            refine wp_load_mid 28 (.tmp 2) rfl (w.heap.size) 0 (by simp [Act.eval, t2]) (cellsM a (.slice A a.stamp.length c)).toList _ (msg_range (show MsgBlk y (w.heap.size) a (.slice A a.stamp.length c) from (Mod.of_below hB []).whole HKA4.out (by simp))) Try.underlying28 rfl (by kernel_rfl) ?_
            exact hK.out _ _ hB (show (updv vs 6 _) 6 = .agg (cellsM a (.slice A a.stamp.length c)) from rfl) (fun _ _ _ h => h) (fun _ h => h)
          refine EAll.snoc (i := 5) ?_ rfl rfl trivial ?_
          rotate_left
          · intro vs B y hI hJ hL hA K E hK
            have hB := hI
            clear hJ
            have e4 : vs 4 = .bool true := hA 4 (by decide)
            clear hA
            have t33 := (hL.at_ 4 (by decide) 33 rfl).trans (congrArg some e4)
            clear hL e4
            refine Box.mk ?_
            go_simp
            exact hK.out _ _ hB (show (updv vs 5 _) 5 = .bool true from rfl) (fun _ _ _ h => h) (fun _ h => h)
          refine EAll.snoc (i := 4) ?_ rfl rfl trivial ?_
          rotate_left
          · intro vs B y hI hJ hL hA K E hK
            have hB := hI
            clear hJ
            have e0 : vs 0 = .bool sm := hA 0 (by decide)
            have e3 : vs 3 = .bool sm := hA 3 (by decide)
            clear hA
            have t29 := (hL.at_ 0 (by decide) 29 rfl).trans (congrArg some e0)
            have t32 := (hL.at_ 3 (by decide) 32 rfl).trans (congrArg some e3)
            clear hL e0 e3
            refine Box.mk ?_
            go_simp
            exact hK.out _ _ hB (show (updv vs 4 _) 4 = .bool true from rfl) (fun _ _ _ h => h) (fun _ h => h)
          refine EAll.snoc (i := 3) ?_ rfl rfl trivial ?_
          rotate_left
          · intro vs B y hI hJ hL hA K E hK
            have hB := hI
            clear hJ
            have e1 : vs 1 = .agg (cellsM a (.slice A a.stamp.length c)) := hA 1 (by decide)
            have e2 : vs 2 = .agg (cellsM b (.slice AB b.stamp.length d)) := hA 2 (by decide)
            clear hA
            have t30 := (hL.at_ 1 (by decide) 30 rfl).trans (congrArg some e1)
            have t31 := (hL.at_ 2 (by decide) 31 rfl).trans (congrArg some e2)
            clear hL e1 e2
            refine Box.mk ?_
            go_simp
            with_reducible refine (r6_Same A AB c d a b y (HCA4.out.ints.below hB) (HCB4.out.ints.below hB) HCA4.out.le HCB4.out.le (by have := HCA4.out.cap; omega) (by have := HCB4.out.cap; omega)).mono ?_
            rintro e w5 ⟨rfl, hb⟩
            rw [HSM.out]
            go_simp
            exact hK.out _ _ (below_on hB hb) (show (updv vs 3 _) 3 = .bool sm from rfl) (fun j _ _ h => HKEEP.out vs y w5 hb j h) (fun _ h => h)
          refine EAll.snoc (i := 2) ?_ rfl rfl trivial ?_
          rotate_left
          · intro vs B y hI hJ hL hA K E hK
            have hB := hI
            clear hJ
            clear hA
            have t3 : B.tmps[3]? = some (.pointer (some ⟨w.heap.size + 1, 0, none⟩)) := (hL.out 3 rfl).trans rfl
            clear hL
            refine Box.mk ?_
            refine wp_load_mid 28 (.tmp 3) rfl (w.heap.size + 1) 0 (by simp [Act.eval, t3]) (cellsM b (.slice AB b.stamp.length d)).toList _ (msg_range (show MsgBlk y (w.heap.size + 1) b (.slice AB b.stamp.length d) from (Mod.of_below hB []).whole HKB4.out (by simp))) Try.underlying28 rfl (by kernel_rfl) ?_
            exact hK.out _ _ hB (show (updv vs 2 _) 2 = .agg (cellsM b (.slice AB b.stamp.length d)) from rfl) (fun _ _ _ h => h) (fun _ h => h)
          refine EAll.snoc (i := 1) ?_ rfl rfl trivial ?_
          rotate_left
          · intro vs B y hI hJ hL hA K E hK
            have hB := hI
            clear hJ
            clear hA
            have t2 : B.tmps[2]? = some (.pointer (some ⟨w.heap.size, 0, none⟩)) := (hL.out 2 rfl).trans rfl
            clear hL
            refine Box.mk ?_
            refine wp_load_mid 28 (.tmp 2) rfl (w.heap.size) 0 (by simp [Act.eval, t2]) (cellsM a (.slice A a.stamp.length c)).toList _ (msg_range (show MsgBlk y (w.heap.size) a (.slice A a.stamp.length c) from (Mod.of_below hB []).whole HKA4.out (by simp))) Try.underlying28 rfl (by kernel_rfl) ?_
            exact hK.out _ _ hB (show (updv vs 1 _) 1 = .agg (cellsM a (.slice A a.stamp.length c)) from rfl) (fun _ _ _ h => h) (fun _ h => h)
          refine EAll.snoc (i := 0) ?_ rfl rfl trivial ?_
          rotate_left
          · intro vs B y hI hJ hL hA K E hK
            have hB := hI
            clear hJ
            clear hA
            have t5 : B.tmps[5]? = some (.bool sm) := (hL.out 5 rfl).trans rfl
            clear hL
            refine Box.mk ?_
            go_simp
            exact hK.out _ _ hB (show (updv vs 0 _) 0 = .bool sm from rfl) (fun _ _ _ h => h) (fun _ h => h)
          exact EAll.nil
        · intro vs y hI hall
          have hB := hI
          have e38 : vs 38 = .bool true := hall 38 (by decide)
          clear hall HKEEP
          refine Box.mk ?_
          simp only [e38, ch, cq, allPut, puts, Act.put, List.setIfInBounds_toArray, List.set_cons_zero, List.set_cons_succ]
          have HXZ := Lib.hid (below_on HX4.out hB)
          clear e38 hB
          go_wp2_with fail
          go_ret
          exact ⟨rfl, HXZ.out⟩
      | true =>
        have eB := encC_yes vb
        rw [eB]
        have hEQ : ((⟨(encE a).toArray⟩ : ByteArray).toList == (⟨(encE b).toArray⟩ : ByteArray).toList) = sm := by rw [← HSM.out, path_beq]; exact encE_inj va vb
        obtain ⟨xa, hxa⟩ : ∃ x, x = (⟨(encE a).toArray⟩ : ByteArray) := ⟨_, rfl⟩
        obtain ⟨xb, hxb⟩ : ∃ x, x = (⟨(encE b).toArray⟩ : ByteArray) := ⟨_, rfl⟩
        rw [← hxa, ← hxb] at hEQ
        have HEQ := Lib.hid hEQ
        have HXA := Lib.hid hxa.symm
        have HXB := Lib.hid hxb.symm
        clear hEQ hxa hxb
        clear eA eB va vb
        have hKeep : ∀ (us : Nat → Value) (wa wb : World), Below wa.heap.size wa wb → ∀ j, known [fun us y => us 0 = .bool sm, fun us y => us 1 = .agg (cellsM a (.slice A a.stamp.length c)), fun us y => us 2 = .agg (cellsM b (.slice AB b.stamp.length d)), fun us y => us 3 = .bool sm, fun us y => us 4 = .bool true, fun us y => us 5 = .bool true, fun us y => us 6 = .agg (cellsM a (.slice A a.stamp.length c)), fun us y => ∃ A7 c7, us 7 = .agg (cellsM a (.slice A7 a.stamp.length c7)) ∧ Fit y A7 c7 a, fun us y => us 8 = .agg (cellsM a (.slice A a.stamp.length c)), fun us y => ∃ A8 c8, us 9 = .agg (cellsM a (.slice A8 a.stamp.length c8)) ∧ Fit y A8 c8 a, fun us y => us 10 = .bool true, fun us y => us 11 = .bool true, fun us y => us 12 = .bool true, fun us y => us 13 = .bool sm, fun us y => us 14 = .agg (cellsM b (.slice AB b.stamp.length d)), fun us y => ∃ A7 c7, us 15 = .agg (cellsM b (.slice A7 b.stamp.length c7)) ∧ Fit y A7 c7 b, fun us y => us 16 = .agg (cellsM a (.slice A a.stamp.length c)), fun us y => ∃ A8 c8, us 17 = .agg (cellsM a (.slice A8 a.stamp.length c8)) ∧ Fit y A8 c8 a, fun us y => us 18 = .bool sm, fun us y => us 19 = .bool true, fun us y => us 20 = .bool true, fun us y => us 21 = .bool true, fun us y => us 22 = .int .i64 0, fun us y => us 23 = .bool false, fun us y => us 24 = .bool false, fun us y => us 25 = .int .i64 0, fun us y => us 26 = .bool false, fun us y => us 27 = .bool false, fun us y => us 28 = .bool false, fun us y => us 29 = .slice P1 (encE a).length p1, fun us y => us 30 = .string xa, fun us y => us 31 = .slice P2 (encE b).length p2, fun us y => us 32 = .string xb, fun us y => us 33 = .bool sm, fun us y => us 34 = .bool sm, fun us y => us 35 = .bool true, fun us y => us 36 = .bool true, fun us y => us 37 = .bool true, fun us y => us 38 = .bool true] j us wa → known [fun us y => us 0 = .bool sm, fun us y => us 1 = .agg (cellsM a (.slice A a.stamp.length c)), fun us y => us 2 = .agg (cellsM b (.slice AB b.stamp.length d)), fun us y => us 3 = .bool sm, fun us y => us 4 = .bool true, fun us y => us 5 = .bool true, fun us y => us 6 = .agg (cellsM a (.slice A a.stamp.length c)), fun us y => ∃ A7 c7, us 7 = .agg (cellsM a (.slice A7 a.stamp.length c7)) ∧ Fit y A7 c7 a, fun us y => us 8 = .agg (cellsM a (.slice A a.stamp.length c)), fun us y => ∃ A8 c8, us 9 = .agg (cellsM a (.slice A8 a.stamp.length c8)) ∧ Fit y A8 c8 a, fun us y => us 10 = .bool true, fun us y => us 11 = .bool true, fun us y => us 12 = .bool true, fun us y => us 13 = .bool sm, fun us y => us 14 = .agg (cellsM b (.slice AB b.stamp.length d)), fun us y => ∃ A7 c7, us 15 = .agg (cellsM b (.slice A7 b.stamp.length c7)) ∧ Fit y A7 c7 b, fun us y => us 16 = .agg (cellsM a (.slice A a.stamp.length c)), fun us y => ∃ A8 c8, us 17 = .agg (cellsM a (.slice A8 a.stamp.length c8)) ∧ Fit y A8 c8 a, fun us y => us 18 = .bool sm, fun us y => us 19 = .bool true, fun us y => us 20 = .bool true, fun us y => us 21 = .bool true, fun us y => us 22 = .int .i64 0, fun us y => us 23 = .bool false, fun us y => us 24 = .bool false, fun us y => us 25 = .int .i64 0, fun us y => us 26 = .bool false, fun us y => us 27 = .bool false, fun us y => us 28 = .bool false, fun us y => us 29 = .slice P1 (encE a).length p1, fun us y => us 30 = .string xa, fun us y => us 31 = .slice P2 (encE b).length p2, fun us y => us 32 = .string xb, fun us y => us 33 = .bool sm, fun us y => us 34 = .bool sm, fun us y => us 35 = .bool true, fun us y => us 36 = .bool true, fun us y => us 37 = .bool true, fun us y => us 38 = .bool true] j us wb := by
          intro us wa wb hb j h
          match j, h with
          | 0, h => exact h
          | 1, h => exact h
          | 2, h => exact h
          | 3, h => exact h
          | 4, h => exact h
          | 5, h => exact h
          | 6, h => exact h
          | 7, h => (obtain ⟨A7, c7, e7, f7⟩ : ∃ A7 c7, us 7 = .agg (cellsM a (.slice A7 a.stamp.length c7)) ∧ Fit wa A7 c7 a := h; exact (show ∃ A7 c7, us 7 = .agg (cellsM a (.slice A7 a.stamp.length c7)) ∧ Fit wb A7 c7 a from ⟨A7, c7, e7, f7.below hb⟩))
          | 8, h => exact h
          | 9, h => (obtain ⟨A8, c8, e9, f9⟩ : ∃ A8 c8, us 9 = .agg (cellsM a (.slice A8 a.stamp.length c8)) ∧ Fit wa A8 c8 a := h; exact (show ∃ A8 c8, us 9 = .agg (cellsM a (.slice A8 a.stamp.length c8)) ∧ Fit wb A8 c8 a from ⟨A8, c8, e9, f9.below hb⟩))
          | 10, h => exact h
          | 11, h => exact h
          | 12, h => exact h
          | 13, h => exact h
          | 14, h => exact h
          | 15, h => (obtain ⟨A7, c7, e15, f15⟩ : ∃ A7 c7, us 15 = .agg (cellsM b (.slice A7 b.stamp.length c7)) ∧ Fit wa A7 c7 b := h; exact (show ∃ A7 c7, us 15 = .agg (cellsM b (.slice A7 b.stamp.length c7)) ∧ Fit wb A7 c7 b from ⟨A7, c7, e15, f15.below hb⟩))
          | 16, h => exact h
          | 17, h => (obtain ⟨A8, c8, e17, f17⟩ : ∃ A8 c8, us 17 = .agg (cellsM a (.slice A8 a.stamp.length c8)) ∧ Fit wa A8 c8 a := h; exact (show ∃ A8 c8, us 17 = .agg (cellsM a (.slice A8 a.stamp.length c8)) ∧ Fit wb A8 c8 a from ⟨A8, c8, e17, f17.below hb⟩))
          | 18, h => exact h
          | 19, h => exact h
          | 20, h => exact h
          | 21, h => exact h
          | 22, h => exact h
          | 23, h => exact h
          | 24, h => exact h
          | 25, h => exact h
          | 26, h => exact h
          | 27, h => exact h
          | 28, h => exact h
          | 29, h => exact h
          | 30, h => exact h
          | 31, h => exact h
          | 32, h => exact h
          | 33, h => exact h
          | 34, h => exact h
          | 35, h => exact h
          | 36, h => exact h
          | 37, h => exact h
          | 38, h => exact h
          | q + 39, h => exact trivial
        have HKEEP := Lib.hid hKeep
        clear hKeep
        refine region_eany [some 29, some 30, some 31, some 32, some 33, some 34, some 35, some 36, some 37, some 38, some 39, some 40, some 41, some 42, some 43, some 44, some 45, some 46, some 47, some 48, some 49, some 50, some 51, some 52, some 53, some 54, some 55, some 56, some 57, some 58, some 59, some 60, some 61, some 62, some 63, some 64, some 65, some 66, some 4] (known [fun us y => us 0 = .bool sm, fun us y => us 1 = .agg (cellsM a (.slice A a.stamp.length c)), fun us y => us 2 = .agg (cellsM b (.slice AB b.stamp.length d)), fun us y => us 3 = .bool sm, fun us y => us 4 = .bool true, fun us y => us 5 = .bool true, fun us y => us 6 = .agg (cellsM a (.slice A a.stamp.length c)), fun us y => ∃ A7 c7, us 7 = .agg (cellsM a (.slice A7 a.stamp.length c7)) ∧ Fit y A7 c7 a, fun us y => us 8 = .agg (cellsM a (.slice A a.stamp.length c)), fun us y => ∃ A8 c8, us 9 = .agg (cellsM a (.slice A8 a.stamp.length c8)) ∧ Fit y A8 c8 a, fun us y => us 10 = .bool true, fun us y => us 11 = .bool true, fun us y => us 12 = .bool true, fun us y => us 13 = .bool sm, fun us y => us 14 = .agg (cellsM b (.slice AB b.stamp.length d)), fun us y => ∃ A7 c7, us 15 = .agg (cellsM b (.slice A7 b.stamp.length c7)) ∧ Fit y A7 c7 b, fun us y => us 16 = .agg (cellsM a (.slice A a.stamp.length c)), fun us y => ∃ A8 c8, us 17 = .agg (cellsM a (.slice A8 a.stamp.length c8)) ∧ Fit y A8 c8 a, fun us y => us 18 = .bool sm, fun us y => us 19 = .bool true, fun us y => us 20 = .bool true, fun us y => us 21 = .bool true, fun us y => us 22 = .int .i64 0, fun us y => us 23 = .bool false, fun us y => us 24 = .bool false, fun us y => us 25 = .int .i64 0, fun us y => us 26 = .bool false, fun us y => us 27 = .bool false, fun us y => us 28 = .bool false, fun us y => us 29 = .slice P1 (encE a).length p1, fun us y => us 30 = .string xa, fun us y => us 31 = .slice P2 (encE b).length p2, fun us y => us 32 = .string xb, fun us y => us 33 = .bool sm, fun us y => us 34 = .bool sm, fun us y => us 35 = .bool true, fun us y => us 36 = .bool true, fun us y => us 37 = .bool true, fun us y => us 38 = .bool true]) (fun y => Below y2.heap.size y2 y) (fun y => True) [] [[], [], [], [1, 2], [0, 1, 2, 3], [0, 1, 2, 3, 4], [0, 1, 2, 3, 4, 5], [0, 1, 2, 3, 4, 5, 6], [0, 1, 2, 3, 4, 5], [0, 1, 2, 3, 4, 5, 6, 7, 8], [0, 1, 2, 3, 4, 5, 6, 7, 8, 9], [0, 1, 2, 3, 4, 5, 6, 7, 8, 9, 10], [0, 1, 2, 3, 4, 5, 6, 7, 8, 9, 10, 11], [0, 1, 2, 3, 4, 5, 6, 7, 8, 9, 10, 11, 12], [0, 1, 2, 3, 4, 5, 6, 7, 8, 9, 10, 11, 12], [0, 1, 2, 3, 4, 5, 6, 7, 8, 9, 10, 11, 12, 14], [0, 1, 2, 3, 4, 5, 6, 7, 8, 9, 10, 11, 12], [0, 1, 2, 3, 4, 5, 6, 7, 8, 9, 10, 11, 12, 14, 15, 16], [0, 1, 2, 3, 4, 5, 6, 7, 8, 9, 10, 11, 12, 14, 15, 16, 17], [0, 1, 2, 3, 4, 5, 6, 7, 8, 9, 10, 11, 12, 13, 14, 15, 16, 17, 18], [0, 1, 2, 3, 4, 5, 6, 7, 8, 9, 10, 11, 12, 13, 14, 15, 16, 17, 18, 19], [0, 1, 2, 3, 4, 5, 6, 7, 8, 9, 10, 11, 12, 13, 14, 15, 16, 17, 18, 19, 20], [0, 1, 2, 3, 4, 5, 6, 7, 8, 9, 10, 11, 12, 13, 14, 15, 16, 17, 18, 19, 20, 21], [0, 1, 2, 3, 4, 5, 6, 7, 8, 9, 10, 11, 12, 13, 14, 15, 16, 17, 18, 19, 20, 21, 22], [0, 1, 2, 3, 4, 5, 6, 7, 8, 9, 10, 11, 12, 13, 14, 15, 16, 17, 18, 19, 20, 21, 22, 23], [0, 1, 2, 3, 4, 5, 6, 7, 8, 9, 10, 11, 12, 13, 14, 15, 16, 17, 18, 19, 20, 21, 22, 23, 24], [0, 1, 2, 3, 4, 5, 6, 7, 8, 9, 10, 11, 12, 13, 14, 15, 16, 17, 18, 19, 20, 21, 22, 23, 24, 25], [0, 1, 2, 3, 4, 5, 6, 7, 8, 9, 10, 11, 12, 13, 14, 15, 16, 17, 18, 19, 20, 21, 22, 23, 24, 25, 26], [0, 1, 2, 3, 4, 5, 6, 7, 8, 9, 10, 11, 12, 13, 14, 15, 16, 17, 18, 19, 20, 21, 22, 23, 24, 25, 26, 27], [0, 1, 2, 3, 4, 5, 6, 7, 8, 9, 10, 11, 12, 13, 14, 15, 16, 17, 18, 19, 20, 21, 22, 23, 24, 25, 26, 27, 28], [0, 1, 2, 3, 4, 5, 6, 7, 8, 9, 10, 11, 12, 13, 14, 15, 16, 17, 18, 19, 20, 21, 22, 23, 24, 25, 26, 27, 28, 29], [0, 1, 2, 3, 4, 5, 6, 7, 8, 9, 10, 11, 12, 13, 14, 15, 16, 17, 18, 19, 20, 21, 22, 23, 24, 25, 26, 27, 28], [0, 1, 2, 3, 4, 5, 6, 7, 8, 9, 10, 11, 12, 13, 14, 15, 16, 17, 18, 19, 20, 21, 22, 23, 24, 25, 26, 27, 28, 31], [0, 1, 2, 3, 4, 5, 6, 7, 8, 9, 10, 11, 12, 13, 14, 15, 16, 17, 18, 19, 20, 21, 22, 23, 24, 25, 26, 27, 28, 29, 30, 31, 32], [0, 1, 2, 3, 4, 5, 6, 7, 8, 9, 10, 11, 12, 13, 14, 15, 16, 17, 18, 19, 20, 21, 22, 23, 24, 25, 26, 27, 28], [0, 1, 2, 3, 4, 5, 6, 7, 8, 9, 10, 11, 12, 13, 14, 15, 16, 17, 18, 19, 20, 21, 22, 23, 24, 25, 26, 27, 28, 29, 30, 31, 32, 33, 34], [0, 1, 2, 3, 4, 5, 6, 7, 8, 9, 10, 11, 12, 13, 14, 15, 16, 17, 18, 19, 20, 21, 22, 23, 24, 25, 26, 27, 28, 29, 30, 31, 32, 33, 34, 35], [0, 1, 2, 3, 4, 5, 6, 7, 8, 9, 10, 11, 12, 13, 14, 15, 16, 17, 18, 19, 20, 21, 22, 23, 24, 25, 26, 27, 28, 29, 30, 31, 32, 33, 34, 35, 36], [0, 1, 2, 3, 4, 5, 6, 7, 8, 9, 10, 11, 12, 13, 14, 15, 16, 17, 18, 19, 20, 21, 22, 23, 24, 25, 26, 27, 28, 29, 30, 31, 32, 33, 34, 35, 36, 37]] (by
          intro j us us' y h hF
          match j, h, hF with
          | 0, h, hF => (have hF : us 0 = .bool sm := hF; rw [h 0 (.inl rfl)] at hF; exact hF)
          | 1, h, hF => (have hF : us 1 = .agg (cellsM a (.slice A a.stamp.length c)) := hF; rw [h 1 (.inl rfl)] at hF; exact hF)
          | 2, h, hF => (have hF : us 2 = .agg (cellsM b (.slice AB b.stamp.length d)) := hF; rw [h 2 (.inl rfl)] at hF; exact hF)
          | 3, h, hF => (have hF : us 3 = .bool sm := hF; rw [h 3 (.inl rfl)] at hF; exact hF)
          | 4, h, hF => (have hF : us 4 = .bool true := hF; rw [h 4 (.inl rfl)] at hF; exact hF)
          | 5, h, hF => (have hF : us 5 = .bool true := hF; rw [h 5 (.inl rfl)] at hF; exact hF)
          | 6, h, hF => (have hF : us 6 = .agg (cellsM a (.slice A a.stamp.length c)) := hF; rw [h 6 (.inl rfl)] at hF; exact hF)
          | 7, h, hF => (have hF : ∃ A7 c7, us 7 = .agg (cellsM a (.slice A7 a.stamp.length c7)) ∧ Fit y A7 c7 a := hF; rw [h 7 (.inl rfl)] at hF; exact hF)
          | 8, h, hF => (have hF : us 8 = .agg (cellsM a (.slice A a.stamp.length c)) := hF; rw [h 8 (.inl rfl)] at hF; exact hF)
          | 9, h, hF => (have hF : ∃ A8 c8, us 9 = .agg (cellsM a (.slice A8 a.stamp.length c8)) ∧ Fit y A8 c8 a := hF; rw [h 9 (.inl rfl)] at hF; exact hF)
          | 10, h, hF => (have hF : us 10 = .bool true := hF; rw [h 10 (.inl rfl)] at hF; exact hF)
          | 11, h, hF => (have hF : us 11 = .bool true := hF; rw [h 11 (.inl rfl)] at hF; exact hF)
          | 12, h, hF => (have hF : us 12 = .bool true := hF; rw [h 12 (.inl rfl)] at hF; exact hF)
          | 13, h, hF => (have hF : us 13 = .bool sm := hF; rw [h 13 (.inl rfl)] at hF; exact hF)
          | 14, h, hF => (have hF : us 14 = .agg (cellsM b (.slice AB b.stamp.length d)) := hF; rw [h 14 (.inl rfl)] at hF; exact hF)
          | 15, h, hF => (have hF : ∃ A7 c7, us 15 = .agg (cellsM b (.slice A7 b.stamp.length c7)) ∧ Fit y A7 c7 b := hF; rw [h 15 (.inl rfl)] at hF; exact hF)
          | 16, h, hF => (have hF : us 16 = .agg (cellsM a (.slice A a.stamp.length c)) := hF; rw [h 16 (.inl rfl)] at hF; exact hF)
          | 17, h, hF => (have hF : ∃ A8 c8, us 17 = .agg (cellsM a (.slice A8 a.stamp.length c8)) ∧ Fit y A8 c8 a := hF; rw [h 17 (.inl rfl)] at hF; exact hF)
          | 18, h, hF => (have hF : us 18 = .bool sm := hF; rw [h 18 (.inl rfl)] at hF; exact hF)
          | 19, h, hF => (have hF : us 19 = .bool true := hF; rw [h 19 (.inl rfl)] at hF; exact hF)
          | 20, h, hF => (have hF : us 20 = .bool true := hF; rw [h 20 (.inl rfl)] at hF; exact hF)
          | 21, h, hF => (have hF : us 21 = .bool true := hF; rw [h 21 (.inl rfl)] at hF; exact hF)
          | 22, h, hF => (have hF : us 22 = .int .i64 0 := hF; rw [h 22 (.inl rfl)] at hF; exact hF)
          | 23, h, hF => (have hF : us 23 = .bool false := hF; rw [h 23 (.inl rfl)] at hF; exact hF)
          | 24, h, hF => (have hF : us 24 = .bool false := hF; rw [h 24 (.inl rfl)] at hF; exact hF)
          | 25, h, hF => (have hF : us 25 = .int .i64 0 := hF; rw [h 25 (.inl rfl)] at hF; exact hF)
          | 26, h, hF => (have hF : us 26 = .bool false := hF; rw [h 26 (.inl rfl)] at hF; exact hF)
          | 27, h, hF => (have hF : us 27 = .bool false := hF; rw [h 27 (.inl rfl)] at hF; exact hF)
          | 28, h, hF => (have hF : us 28 = .bool false := hF; rw [h 28 (.inl rfl)] at hF; exact hF)
          | 29, h, hF => (have hF : us 29 = .slice P1 (encE a).length p1 := hF; rw [h 29 (.inl rfl)] at hF; exact hF)
          | 30, h, hF => (have hF : us 30 = .string xa := hF; rw [h 30 (.inl rfl)] at hF; exact hF)
          | 31, h, hF => (have hF : us 31 = .slice P2 (encE b).length p2 := hF; rw [h 31 (.inl rfl)] at hF; exact hF)
          | 32, h, hF => (have hF : us 32 = .string xb := hF; rw [h 32 (.inl rfl)] at hF; exact hF)
          | 33, h, hF => (have hF : us 33 = .bool sm := hF; rw [h 33 (.inl rfl)] at hF; exact hF)
          | 34, h, hF => (have hF : us 34 = .bool sm := hF; rw [h 34 (.inl rfl)] at hF; exact hF)
          | 35, h, hF => (have hF : us 35 = .bool true := hF; rw [h 35 (.inl rfl)] at hF; exact hF)
          | 36, h, hF => (have hF : us 36 = .bool true := hF; rw [h 36 (.inl rfl)] at hF; exact hF)
          | 37, h, hF => (have hF : us 37 = .bool true := hF; rw [h 37 (.inl rfl)] at hF; exact hF)
          | 38, h, hF => (have hF : us 38 = .bool true := hF; rw [h 38 (.inl rfl)] at hF; exact hF)
          | q + 39, h, hF => exact trivial) (by kernel_rfl) rfl (by kernel_rfl) (by kernel_rfl) (by kernel_rfl) (by exact (Below.refl _ _).drew) (trivial) (Z := fun vs => cq _ vs [(4, 38), (66, 37), (65, 36), (64, 35), (63, 34), (62, 33), (61, 32), (60, 31), (59, 30), (58, 29), (57, 28), (56, 27), (55, 26), (54, 25), (53, 24), (52, 23), (51, 22), (50, 21), (49, 20), (48, 19), (47, 18), (46, 17), (45, 16), (44, 15), (43, 14), (42, 13), (41, 12), (40, 11), (39, 10), (38, 9), (37, 8), (36, 7), (35, 6), (34, 5), (33, 4), (32, 3), (31, 2), (30, 1), (29, 0)]) (fun _ => rfl) ?_ ?_
        · skip
          refine EAll.snoc (i := 38) ?_ rfl rfl trivial ?_
          rotate_left
          · intro vs B y hI hJ hL hA K E hK
            have hB := hI
            clear hJ
            have e37 : vs 37 = .bool true := hA 37 (by decide)
            clear hA
            have t66 := (hL.at_ 37 (by decide) 66 rfl).trans (congrArg some e37)
            clear hL e37
            refine Box.mk ?_
            go_simp
            exact hK.out _ _ hB (show (updv vs 38 _) 38 = .bool true from rfl) (fun _ _ _ h => h) (fun _ h => h)
          refine EAll.snoc (i := 37) ?_ rfl rfl trivial ?_
          rotate_left
          · intro vs B y hI hJ hL hA K E hK
            have hB := hI
            clear hJ
            have e21 : vs 21 = .bool true := hA 21 (by decide)
            have e36 : vs 36 = .bool true := hA 36 (by decide)
            clear hA
            have t50 := (hL.at_ 21 (by decide) 50 rfl).trans (congrArg some e21)
            have t65 := (hL.at_ 36 (by decide) 65 rfl).trans (congrArg some e36)
            clear hL e21 e36
            refine Box.mk ?_
            go_simp
            exact hK.out _ _ hB (show (updv vs 37 _) 37 = .bool true from rfl) (fun _ _ _ h => h) (fun _ h => h)
          refine EAll.snoc (i := 36) ?_ rfl rfl (fun vs y hF h => absurd (show vs 21 = .bool true from hF 21 (by decide)) h) ?_
          rotate_left
          · intro vs B y hI hJ hL hA hg K E hK
            have hB := hI
            clear hJ hg
            have e28 : vs 28 = .bool false := hA 28 (by decide)
            have e35 : vs 35 = .bool true := hA 35 (by decide)
            clear hA
            have t57 := (hL.at_ 28 (by decide) 57 rfl).trans (congrArg some e28)
            have t64 := (hL.at_ 35 (by decide) 64 rfl).trans (congrArg some e35)
            clear hL e28 e35
            refine Box.mk ?_
            go_simp
            exact hK.out _ _ hB (show (updv vs 36 _) 36 = .bool true from rfl) (fun _ _ _ h => h) (fun _ h => h)
          refine EAll.snoc (i := 35) ?_ rfl rfl (fun vs y hF h => absurd (show vs 28 = .bool false from hF 28 (by decide)) h) ?_
          rotate_left
          · intro vs B y hI hJ hL hA hg K E hK
            have hB := hI
            clear hJ hg
            have e33 : vs 33 = .bool sm := hA 33 (by decide)
            have e34 : vs 34 = .bool sm := hA 34 (by decide)
            clear hA
            have t62 := (hL.at_ 33 (by decide) 62 rfl).trans (congrArg some e33)
            have t63 := (hL.at_ 34 (by decide) 63 rfl).trans (congrArg some e34)
            clear hL e33 e34
            refine Box.mk ?_
            go_simp
            exact hK.out _ _ hB (show (updv vs 35 _) 35 = .bool true from rfl) (fun _ _ _ h => h) (fun _ h => h)
          refine EAll.snoc (i := 34) ?_ rfl rfl (fun vs y hF h => absurd (show vs 28 = .bool false from hF 28 (by decide)) h) ?_
          rotate_left
          · intro vs B y hI hJ hL hA hg K E hK
            have hB := hI
            clear hJ hg
            clear hA
            have t5 : B.tmps[5]? = some (.bool sm) := (hL.out 5 rfl).trans rfl
            clear hL
            refine Box.mk ?_
            go_simp
            exact hK.out _ _ hB (show (updv vs 34 _) 34 = .bool sm from rfl) (fun _ _ _ h => h) (fun _ h => h)
          refine EAll.snoc (i := 33) ?_ rfl rfl (fun vs y hF h => absurd (show vs 28 = .bool false from hF 28 (by decide)) h) ?_
          rotate_left
          · intro vs B y hI hJ hL hA hg K E hK
            have hB := hI
            clear hJ hg
            have e30 : vs 30 = .string xa := hA 30 (by decide)
            have e32 : vs 32 = .string xb := hA 32 (by decide)
            clear hA
            have t59 := (hL.at_ 30 (by decide) 59 rfl).trans (congrArg some e30)
            have t61 := (hL.at_ 32 (by decide) 61 rfl).trans (congrArg some e32)
            clear hL e30 e32
            refine Box.mk ?_
            have hd := HEQ.out
            go_simp
            exact hK.out _ _ hB (show (updv vs 33 _) 33 = .bool sm from rfl) (fun _ _ _ h => h) (fun _ h => h)
          refine EAll.snoc (i := 32) ?_ rfl rfl (fun vs y hF h => absurd (show vs 28 = .bool false from hF 28 (by decide)) h) ?_
          rotate_left
          · intro vs B y hI hJ hL hA hg K E hK
            have hB := hI
            clear hJ hg
            have e31 : vs 31 = .slice P2 (encE b).length p2 := hA 31 (by decide)
            clear hA
            have t60 := (hL.at_ 31 (by decide) 60 rfl).trans (congrArg some e31)
            clear hL e31
            refine Box.mk ?_
            have hcv := By.str_of (c := p2) (HY2.out.below hB)
            rw [HXB.out] at hcv
            go_simp
            exact hK.out _ _ hB (show (updv vs 32 _) 32 = .string xb from rfl) (fun _ _ _ h => h) (fun _ h => h)
          refine EAll.snoc (i := 31) ?_ rfl rfl (fun vs y hF h => absurd (show vs 28 = .bool false from hF 28 (by decide)) h) ?_
          rotate_left
          · intro vs B y hI hJ hL hA hg K E hK
            have hB := hI
            clear hJ hg
            clear hA
            have t8 : B.tmps[8]? = some (.slice P2 (encE b).length p2) := (hL.out 8 rfl).trans rfl
            clear hL
            refine Box.mk ?_
            go_simp
            exact hK.out _ _ hB (show (updv vs 31 _) 31 = .slice P2 (encE b).length p2 from rfl) (fun _ _ _ h => h) (fun _ h => h)
          refine EAll.snoc (i := 30) ?_ rfl rfl (fun vs y hF h => absurd (show vs 28 = .bool false from hF 28 (by decide)) h) ?_
          rotate_left
          · intro vs B y hI hJ hL hA hg K E hK
            have hB := hI
            clear hJ hg
            have e29 : vs 29 = .slice P1 (encE a).length p1 := hA 29 (by decide)
            clear hA
            have t58 := (hL.at_ 29 (by decide) 58 rfl).trans (congrArg some e29)
            clear hL e29
            refine Box.mk ?_
            have hcv := By.str_of (c := p1) (HY1.out.below hB)
            rw [HXA.out] at hcv
            go_simp
            exact hK.out _ _ hB (show (updv vs 30 _) 30 = .string xa from rfl) (fun _ _ _ h => h) (fun _ h => h)
          refine EAll.snoc (i := 29) ?_ rfl rfl (fun vs y hF h => absurd (show vs 28 = .bool false from hF 28 (by decide)) h) ?_
          rotate_left
          · intro vs B y hI hJ hL hA hg K E hK
            have hB := hI
            clear hJ hg
            clear hA
            have t6 : B.tmps[6]? = some (.slice P1 (encE a).length p1) := (hL.out 6 rfl).trans rfl
            clear hL
            refine Box.mk ?_
            go_simp
            exact hK.out _ _ hB (show (updv vs 29 _) 29 = .slice P1 (encE a).length p1 from rfl) (fun _ _ _ h => h) (fun _ h => h)
          refine EAll.snoc (i := 28) ?_ rfl rfl (fun vs y hF h => absurd (show vs 21 = .bool true from hF 21 (by decide)) h) ?_
          rotate_left
          · intro vs B y hI hJ hL hA hg K E hK
            have hB := hI
            clear hJ hg
            have e27 : vs 27 = .bool false := hA 27 (by decide)
            clear hA
            have t56 := (hL.at_ 27 (by decide) 56 rfl).trans (congrArg some e27)
            clear hL e27
            refine Box.mk ?_
            go_simp
            exact hK.out _ _ hB (show (updv vs 28 _) 28 = .bool false from rfl) (fun _ _ _ h => h) (fun _ h => h)
          refine EAll.snoc (i := 27) ?_ rfl rfl (fun vs y hF h => absurd (show vs 21 = .bool true from hF 21 (by decide)) h) ?_
          rotate_left
          · intro vs B y hI hJ hL hA hg K E hK
            have hB := hI
            clear hJ hg
            have e24 : vs 24 = .bool false := hA 24 (by decide)
            have e26 : vs 26 = .bool false := hA 26 (by decide)
            clear hA
            have t53 := (hL.at_ 24 (by decide) 53 rfl).trans (congrArg some e24)
            have t55 := (hL.at_ 26 (by decide) 55 rfl).trans (congrArg some e26)
            clear hL e24 e26
            refine Box.mk ?_
            go_simp
            exact hK.out _ _ hB (show (updv vs 27 _) 27 = .bool false from rfl) (fun _ _ _ h => h) (fun _ h => h)
          refine EAll.snoc (i := 26) ?_ rfl rfl (fun vs y hF h => absurd (show vs 24 = .bool false from hF 24 (by decide)) h) ?_
          rotate_left
          · intro vs B y hI hJ hL hA hg K E hK
            have hB := hI
            clear hJ hg
            have e25 : vs 25 = .int .i64 0 := hA 25 (by decide)
            clear hA
            have t54 := (hL.at_ 25 (by decide) 54 rfl).trans (congrArg some e25)
            clear hL e25
            refine Box.mk ?_
            go_simp
            exact hK.out _ _ hB (show (updv vs 26 _) 26 = .bool false from rfl) (fun _ _ _ h => h) (fun _ h => h)
          refine EAll.snoc (i := 25) ?_ rfl rfl (fun vs y hF h => absurd (show vs 24 = .bool false from hF 24 (by decide)) h) ?_
          rotate_left
          · intro vs B y hI hJ hL hA hg K E hK
            have hB := hI
            clear hJ hg
            clear hA
            have t9 : B.tmps[9]? = some (.int .i64 0) := (hL.out 9 rfl).trans rfl
            clear hL
            refine Box.mk ?_
            go_simp
            exact hK.out _ _ hB (show (updv vs 25 _) 25 = .int .i64 0 from rfl) (fun _ _ _ h => h) (fun _ h => h)
          refine EAll.snoc (i := 24) ?_ rfl rfl (fun vs y hF h => absurd (show vs 21 = .bool true from hF 21 (by decide)) h) ?_
          rotate_left
          · intro vs B y hI hJ hL hA hg K E hK
            have hB := hI
            clear hJ hg
            have e23 : vs 23 = .bool false := hA 23 (by decide)
            clear hA
            have t52 := (hL.at_ 23 (by decide) 52 rfl).trans (congrArg some e23)
            clear hL e23
            refine Box.mk ?_
            go_simp
            exact hK.out _ _ hB (show (updv vs 24 _) 24 = .bool false from rfl) (fun _ _ _ h => h) (fun _ h => h)
          refine EAll.snoc (i := 23) ?_ rfl rfl (fun vs y hF h => absurd (show vs 21 = .bool true from hF 21 (by decide)) h) ?_
          rotate_left
          · intro vs B y hI hJ hL hA hg K E hK
            have hB := hI
            clear hJ hg
            have e22 : vs 22 = .int .i64 0 := hA 22 (by decide)
            clear hA
            have t51 := (hL.at_ 22 (by decide) 51 rfl).trans (congrArg some e22)
            clear hL e22
            refine Box.mk ?_
            go_simp
            exact hK.out _ _ hB (show (updv vs 23 _) 23 = .bool false from rfl) (fun _ _ _ h => h) (fun _ h => h)
          refine EAll.snoc (i := 22) ?_ rfl rfl (fun vs y hF h => absurd (show vs 21 = .bool true from hF 21 (by decide)) h) ?_
          rotate_left
          · intro vs B y hI hJ hL hA hg K E hK
            have hB := hI
            clear hJ hg
            clear hA
            have t7 : B.tmps[7]? = some (.int .i64 0) := (hL.out 7 rfl).trans rfl
            clear hL
            refine Box.mk ?_
            go_simp
            exact hK.out _ _ hB (show (updv vs 22 _) 22 = .int .i64 0 from rfl) (fun _ _ _ h => h) (fun _ h => h)
          refine EAll.snoc (i := 21) ?_ rfl rfl trivial ?_
          rotate_left
          · intro vs B y hI hJ hL hA K E hK
            have hB := hI
            clear hJ
            have e20 : vs 20 = .bool true := hA 20 (by decide)
            clear hA
            have t49 := (hL.at_ 20 (by decide) 49 rfl).trans (congrArg some e20)
            clear hL e20
            refine Box.mk ?_
            go_simp
            exact hK.out _ _ hB (show (updv vs 21 _) 21 = .bool true from rfl) (fun _ _ _ h => h) (fun _ h => h)
          refine EAll.snoc (i := 20) ?_ rfl rfl trivial ?_
          rotate_left
          · intro vs B y hI hJ hL hA K E hK
            have hB := hI
            clear hJ
            have e12 : vs 12 = .bool true := hA 12 (by decide)
            have e19 : vs 19 = .bool true := hA 19 (by decide)
            clear hA
            have t41 := (hL.at_ 12 (by decide) 41 rfl).trans (congrArg some e12)
            have t48 := (hL.at_ 19 (by decide) 48 rfl).trans (congrArg some e19)
            clear hL e12 e19
            refine Box.mk ?_
            go_simp
            exact hK.out _ _ hB (show (updv vs 20 _) 20 = .bool true from rfl) (fun _ _ _ h => h) (fun _ h => h)
          refine EAll.snoc (i := 19) ?_ rfl rfl (fun vs y hF h => absurd (show vs 12 = .bool true from hF 12 (by decide)) h) ?_
          rotate_left
          · intro vs B y hI hJ hL hA hg K E hK
            have hB := hI
            clear hJ hg
            have e13 : vs 13 = .bool sm := hA 13 (by decide)
            have e18 : vs 18 = .bool sm := hA 18 (by decide)
            clear hA
            have t42 := (hL.at_ 13 (by decide) 42 rfl).trans (congrArg some e13)
            have t47 := (hL.at_ 18 (by decide) 47 rfl).trans (congrArg some e18)
            clear hL e13 e18
            refine Box.mk ?_
            go_simp
            exact hK.out _ _ hB (show (updv vs 19 _) 19 = .bool true from rfl) (fun _ _ _ h => h) (fun _ h => h)
          refine EAll.snoc (i := 18) ?_ rfl rfl (fun vs y hF h => absurd (show vs 12 = .bool true from hF 12 (by decide)) h) ?_
          rotate_left
          · intro vs B y hI hJ hL hA hg K E hK
            have hB := hI
            clear hJ hg
            have hF15 : ∃ A7 c7, vs 15 = .agg (cellsM b (.slice A7 b.stamp.length c7)) ∧ Fit y A7 c7 b := hA 15 (by decide)
            obtain ⟨A7, c7, e15, f15⟩ := hF15
            have hF17 : ∃ A8 c8, vs 17 = .agg (cellsM a (.slice A8 a.stamp.length c8)) ∧ Fit y A8 c8 a := hA 17 (by decide)
            obtain ⟨A8, c8, e17, f17⟩ := hF17
            clear hA
            have t44 := (hL.at_ 15 (by decide) 44 rfl).trans (congrArg some e15)
            have t46 := (hL.at_ 17 (by decide) 46 rfl).trans (congrArg some e17)
            clear hL e15 e17
            refine Box.mk ?_
            go_simp
            with_reducible refine (Same_any _ _ _ _ b a y f15.ints f17.ints f15.le f17.le f15.cap f17.cap).mono ?_
            rintro e w5 ⟨rfl, hb⟩
            rw [HSW.out]
            go_simp
            exact hK.out _ _ (below_on hB hb) (show (updv vs 18 _) 18 = .bool sm from rfl) (fun j _ _ h => HKEEP.out vs y w5 hb j h) (fun _ h => h)
          refine EAll.snoc (i := 17) ?_ rfl rfl (fun vs y hF h => absurd (show vs 12 = .bool true from hF 12 (by decide)) h) ?_
          rotate_left
          · intro vs B y hI hJ hL hA hg K E hK
            have hB := hI
            clear hJ hg
            have e16 : vs 16 = .agg (cellsM a (.slice A a.stamp.length c)) := hA 16 (by decide)
            clear hA
            have t45 := (hL.at_ 16 (by decide) 45 rfl).trans (congrArg some e16)
            clear hL e16
            refine Box.mk ?_
            go_simp
            with_reducible refine (own_of A c a y (HCA4.out.below hB)).mono ?_
            rintro e w5 ⟨A9, c9, rfl, hf, hb⟩
            have hf := hf.out
            go_simp
            exact hK.out _ _ (below_on hB hb) (show ∃ A8 c8, (updv vs 17 _) 17 = .agg (cellsM a (.slice A8 a.stamp.length c8)) ∧ Fit w5 A8 c8 a from ⟨A9, c9, rfl, hf⟩) (fun j _ _ h => HKEEP.out vs y w5 hb j h) (fun _ h => h)
          refine EAll.snoc (i := 16) ?_ rfl rfl (fun vs y hF h => absurd (show vs 12 = .bool true from hF 12 (by decide)) h) ?_
          rotate_left
          · intro vs B y hI hJ hL hA hg K E hK
            have hB := hI
            clear hJ hg
            clear hA
            have t2 : B.tmps[2]? = some (.pointer (some ⟨w.heap.size, 0, none⟩)) := (hL.out 2 rfl).trans rfl
            clear hL
            refine Box.mk ?_
            refine wp_load_mid 28 (.tmp 2) rfl (w.heap.size) 0 (by simp [Act.eval, t2]) (cellsM a (.slice A a.stamp.length c)).toList _ (msg_range (show MsgBlk y (w.heap.size) a (.slice A a.stamp.length c) from (Mod.of_below hB []).whole HKA4.out (by simp))) Try.underlying28 rfl (by kernel_rfl) ?_
            exact hK.out _ _ hB (show (updv vs 16 _) 16 = .agg (cellsM a (.slice A a.stamp.length c)) from rfl) (fun _ _ _ h => h) (fun _ h => h)
          refine EAll.snoc (i := 15) ?_ rfl rfl (fun vs y hF h => absurd (show vs 12 = .bool true from hF 12 (by decide)) h) ?_
          rotate_left
          · intro vs B y hI hJ hL hA hg K E hK
            have hB := hI
            clear hJ hg
            have e14 : vs 14 = .agg (cellsM b (.slice AB b.stamp.length d)) := hA 14 (by decide)
            clear hA
            have t43 := (hL.at_ 14 (by decide) 43 rfl).trans (congrArg some e14)
            clear hL e14
            refine Box.mk ?_
            go_simp
            with_reducible refine (own_of AB d b y (HCB4.out.below hB)).mono ?_
            rintro e w5 ⟨A9, c9, rfl, hf, hb⟩
            have hf := hf.out
            go_simp
            exact hK.out _ _ (below_on hB hb) (show ∃ A7 c7, (updv vs 15 _) 15 = .agg (cellsM b (.slice A7 b.stamp.length c7)) ∧ Fit w5 A7 c7 b from ⟨A9, c9, rfl, hf⟩) (fun j _ _ h => HKEEP.out vs y w5 hb j h) (fun _ h => h)
          refine EAll.snoc (i := 14) ?_ rfl rfl (fun vs y hF h => absurd (show vs 12 = .bool true from hF 12 (by decide)) h) ?_
          rotate_left
          · intro vs B y hI hJ hL hA hg K E hK
            have hB := hI
            clear hJ hg
            clear hA
            have t3 : B.tmps[3]? = some (.pointer (some ⟨w.heap.size + 1, 0, none⟩)) := (hL.out 3 rfl).trans rfl
            clear hL
            refine Box.mk ?_
            refine wp_load_mid 28 (.tmp 3) rfl (w.heap.size + 1) 0 (by simp [Act.eval, t3]) (cellsM b (.slice AB b.stamp.length d)).toList _ (msg_range (show MsgBlk y (w.heap.size + 1) b (.slice AB b.stamp.length d) from (Mod.of_below hB []).whole HKB4.out (by simp))) Try.underlying28 rfl (by kernel_rfl) ?_
            exact hK.out _ _ hB (show (updv vs 14 _) 14 = .agg (cellsM b (.slice AB b.stamp.length d)) from rfl) (fun _ _ _ h => h) (fun _ h => h)
          refine EAll.snoc (i := 13) ?_ rfl rfl (fun vs y hF h => absurd (show vs 12 = .bool true from hF 12 (by decide)) h) ?_
          rotate_left
          · intro vs B y hI hJ hL hA hg K E hK
            have hB := hI
            clear hJ hg
            clear hA
            have t5 : B.tmps[5]? = some (.bool sm) := (hL.out 5 rfl).trans rfl
            clear hL
            refine Box.mk ?_
            go_simp
            exact hK.out _ _ hB (show (updv vs 13 _) 13 = .bool sm from rfl) (fun _ _ _ h => h) (fun _ h => h)
          refine EAll.snoc (i := 12) ?_ rfl rfl trivial ?_
          rotate_left
          · intro vs B y hI hJ hL hA K E hK
            have hB := hI
            clear hJ
            have e11 : vs 11 = .bool true := hA 11 (by decide)
            clear hA
            have t40 := (hL.at_ 11 (by decide) 40 rfl).trans (congrArg some e11)
            clear hL e11
            refine Box.mk ?_
            go_simp
            exact hK.out _ _ hB (show (updv vs 12 _) 12 = .bool true from rfl) (fun _ _ _ h => h) (fun _ h => h)
          refine EAll.snoc (i := 11) ?_ rfl rfl trivial ?_
          rotate_left
          · intro vs B y hI hJ hL hA K E hK
            have hB := hI
            clear hJ
            have e5 : vs 5 = .bool true := hA 5 (by decide)
            have e10 : vs 10 = .bool true := hA 10 (by decide)
            clear hA
            have t34 := (hL.at_ 5 (by decide) 34 rfl).trans (congrArg some e5)
            have t39 := (hL.at_ 10 (by decide) 39 rfl).trans (congrArg some e10)
            clear hL e5 e10
            refine Box.mk ?_
            go_simp
            exact hK.out _ _ hB (show (updv vs 11 _) 11 = .bool true from rfl) (fun _ _ _ h => h) (fun _ h => h)
          refine EAll.snoc (i := 10) ?_ rfl rfl (fun vs y hF h => absurd (show vs 5 = .bool true from hF 5 (by decide)) h) ?_
          rotate_left
          · intro vs B y hI hJ hL hA hg K E hK
            have hB := hI
            clear hJ hg
            have hF7 : ∃ A7 c7, vs 7 = .agg (cellsM a (.slice A7 a.stamp.length c7)) ∧ Fit y A7 c7 a := hA 7 (by decide)
            obtain ⟨A7, c7, e7, f7⟩ := hF7
            have hF9 : ∃ A8 c8, vs 9 = .agg (cellsM a (.slice A8 a.stamp.length c8)) ∧ Fit y A8 c8 a := hA 9 (by decide)
            obtain ⟨A8, c8, e9, f9⟩ := hF9
            clear hA
            have t36 := (hL.at_ 7 (by decide) 36 rfl).trans (congrArg some e7)
            have t38 := (hL.at_ 9 (by decide) 38 rfl).trans (congrArg some e9)
            clear hL e7 e9
            refine Box.mk ?_
            go_simp
            with_reducible refine (Same_any _ _ _ _ a a y f7.ints f9.ints f7.le f9.le f7.cap f9.cap).mono ?_
            rintro e w5 ⟨rfl, hb⟩
            rw [decide_eq_true (show a = a from rfl)]
            go_simp
            exact hK.out _ _ (below_on hB hb) (show (updv vs 10 _) 10 = .bool true from rfl) (fun j _ _ h => HKEEP.out vs y w5 hb j h) (fun _ h => h)
          refine EAll.snoc (i := 9) ?_ rfl rfl (fun vs y hF h => absurd (show vs 5 = .bool true from hF 5 (by decide)) h) ?_
          rotate_left
          · intro vs B y hI hJ hL hA hg K E hK
            have hB := hI
            clear hJ hg
            have e8 : vs 8 = .agg (cellsM a (.slice A a.stamp.length c)) := hA 8 (by decide)
            clear hA
            have t37 := (hL.at_ 8 (by decide) 37 rfl).trans (congrArg some e8)
            clear hL e8
            refine Box.mk ?_
            go_simp
            with_reducible refine (own_of A c a y (HCA4.out.below hB)).mono ?_
            rintro e w5 ⟨A9, c9, rfl, hf, hb⟩
            have hf := hf.out
            go_simp
            exact hK.out _ _ (below_on hB hb) (show ∃ A8 c8, (updv vs 9 _) 9 = .agg (cellsM a (.slice A8 a.stamp.length c8)) ∧ Fit w5 A8 c8 a from ⟨A9, c9, rfl, hf⟩) (fun j _ _ h => HKEEP.out vs y w5 hb j h) (fun _ h => h)
          refine EAll.snoc (i := 8) ?_ rfl rfl (fun vs y hF h => absurd (show vs 5 = .bool true from hF 5 (by decide)) h) ?_
          rotate_left
          · intro vs B y hI hJ hL hA hg K E hK
            have hB := hI
            clear hJ hg
            clear hA
            have t2 : B.tmps[2]? = some (.pointer (some ⟨w.heap.size, 0, none⟩)) := (hL.out 2 rfl).trans rfl
            clear hL
            refine Box.mk ?_
            refine wp_load_mid 28 (.tmp 2) rfl (w.heap.size) 0 (by simp [Act.eval, t2]) (cellsM a (.slice A a.stamp.length c)).toList _ (msg_range (show MsgBlk y (w.heap.size) a (.slice A a.stamp.length c) from (Mod.of_below hB []).whole HKA4.out (by simp))) Try.underlying28 rfl (by kernel_rfl) ?_
            exact hK.out _ _ hB (show (updv vs 8 _) 8 = .agg (cellsM a (.slice A a.stamp.length c)) from rfl) (fun _ _ _ h => h) (fun _ h => h)
          refine EAll.snoc (i := 7) ?_ rfl rfl (fun vs y hF h => absurd (show vs 5 = .bool true from hF 5 (by decide)) h) ?_
          rotate_left
          · intro vs B y hI hJ hL hA hg K E hK
            have hB := hI
            clear hJ hg
            have e6 : vs 6 = .agg (cellsM a (.slice A a.stamp.length c)) := hA 6 (by decide)
            clear hA
            have t35 := (hL.at_ 6 (by decide) 35 rfl).trans (congrArg some e6)
            clear hL e6
            refine Box.mk ?_
            go_simp
            with_reducible refine (own_of A c a y (HCA4.out.below hB)).mono ?_
            rintro e w5 ⟨A9, c9, rfl, hf, hb⟩
            have hf := hf.out
            go_simp
            exact hK.out _ _ (below_on hB hb) (show ∃ A7 c7, (updv vs 7 _) 7 = .agg (cellsM a (.slice A7 a.stamp.length c7)) ∧ Fit w5 A7 c7 a from ⟨A9, c9, rfl, hf⟩) (fun j _ _ h => HKEEP.out vs y w5 hb j h) (fun _ h => h)
          refine EAll.snoc (i := 6) ?_ rfl rfl (fun vs y hF h => absurd (show vs 5 = .bool true from hF 5 (by decide)) h) ?_
          rotate_left
          · intro vs B y hI hJ hL hA hg K E hK
            have hB := hI
            clear hJ hg
            clear hA
            have t2 : B.tmps[2]? = some (.pointer (some ⟨w.heap.size, 0, none⟩)) := (hL.out 2 rfl).trans rfl
            clear hL
            refine Box.mk ?_
            refine wp_load_mid 28 (.tmp 2) rfl (w.heap.size) 0 (by simp [Act.eval, t2]) (cellsM a (.slice A a.stamp.length c)).toList _ (msg_range (show MsgBlk y (w.heap.size) a (.slice A a.stamp.length c) from (Mod.of_below hB []).whole HKA4.out (by simp))) Try.underlying28 rfl (by kernel_rfl) ?_
            exact hK.out _ _ hB (show (updv vs 6 _) 6 = .agg (cellsM a (.slice A a.stamp.length c)) from rfl) (fun _ _ _ h => h) (fun _ h => h)
          refine EAll.snoc (i := 5) ?_ rfl rfl trivial ?_
          rotate_left
          · intro vs B y hI hJ hL hA K E hK
            have hB := hI
            clear hJ
            have e4 : vs 4 = .bool true := hA 4 (by decide)
            clear hA
            have t33 := (hL.at_ 4 (by decide) 33 rfl).trans (congrArg some e4)
            clear hL e4
            refine Box.mk ?_
            go_simp
            exact hK.out _ _ hB (show (updv vs 5 _) 5 = .bool true from rfl) (fun _ _ _ h => h) (fun _ h => h)
          refine EAll.snoc (i := 4) ?_ rfl rfl trivial ?_
          rotate_left
          · intro vs B y hI hJ hL hA K E hK
            have hB := hI
            clear hJ
            have e0 : vs 0 = .bool sm := hA 0 (by decide)
            have e3 : vs 3 = .bool sm := hA 3 (by decide)
            clear hA
            have t29 := (hL.at_ 0 (by decide) 29 rfl).trans (congrArg some e0)
            have t32 := (hL.at_ 3 (by decide) 32 rfl).trans (congrArg some e3)
            clear hL e0 e3
            refine Box.mk ?_
            go_simp
            exact hK.out _ _ hB (show (updv vs 4 _) 4 = .bool true from rfl) (fun _ _ _ h => h) (fun _ h => h)
          refine EAll.snoc (i := 3) ?_ rfl rfl trivial ?_
          rotate_left
          · intro vs B y hI hJ hL hA K E hK
            have hB := hI
            clear hJ
            have e1 : vs 1 = .agg (cellsM a (.slice A a.stamp.length c)) := hA 1 (by decide)
            have e2 : vs 2 = .agg (cellsM b (.slice AB b.stamp.length d)) := hA 2 (by decide)
            clear hA
            have t30 := (hL.at_ 1 (by decide) 30 rfl).trans (congrArg some e1)
            have t31 := (hL.at_ 2 (by decide) 31 rfl).trans (congrArg some e2)
            clear hL e1 e2
            refine Box.mk ?_
            go_simp
            with_reducible refine (r6_Same A AB c d a b y (HCA4.out.ints.below hB) (HCB4.out.ints.below hB) HCA4.out.le HCB4.out.le (by have := HCA4.out.cap; omega) (by have := HCB4.out.cap; omega)).mono ?_
            rintro e w5 ⟨rfl, hb⟩
            rw [HSM.out]
            go_simp
            exact hK.out _ _ (below_on hB hb) (show (updv vs 3 _) 3 = .bool sm from rfl) (fun j _ _ h => HKEEP.out vs y w5 hb j h) (fun _ h => h)
          refine EAll.snoc (i := 2) ?_ rfl rfl trivial ?_
          rotate_left
          · intro vs B y hI hJ hL hA K E hK
            have hB := hI
            clear hJ
            clear hA
            have t3 : B.tmps[3]? = some (.pointer (some ⟨w.heap.size + 1, 0, none⟩)) := (hL.out 3 rfl).trans rfl
            clear hL
            refine Box.mk ?_
            refine wp_load_mid 28 (.tmp 3) rfl (w.heap.size + 1) 0 (by simp [Act.eval, t3]) (cellsM b (.slice AB b.stamp.length d)).toList _ (msg_range (show MsgBlk y (w.heap.size + 1) b (.slice AB b.stamp.length d) from (Mod.of_below hB []).whole HKB4.out (by simp))) Try.underlying28 rfl (by kernel_rfl) ?_
            exact hK.out _ _ hB (show (updv vs 2 _) 2 = .agg (cellsM b (.slice AB b.stamp.length d)) from rfl) (fun _ _ _ h => h) (fun _ h => h)
          refine EAll.snoc (i := 1) ?_ rfl rfl trivial ?_
          rotate_left
          · intro vs B y hI hJ hL hA K E hK
            have hB := hI
            clear hJ
            clear hA
            have t2 : B.tmps[2]? = some (.pointer (some ⟨w.heap.size, 0, none⟩)) := (hL.out 2 rfl).trans rfl
            clear hL
            refine Box.mk ?_
            refine wp_load_mid 28 (.tmp 2) rfl (w.heap.size) 0 (by simp [Act.eval, t2]) (cellsM a (.slice A a.stamp.length c)).toList _ (msg_range (show MsgBlk y (w.heap.size) a (.slice A a.stamp.length c) from (Mod.of_below hB []).whole HKA4.out (by simp))) Try.underlying28 rfl (by kernel_rfl) ?_
            exact hK.out _ _ hB (show (updv vs 1 _) 1 = .agg (cellsM a (.slice A a.stamp.length c)) from rfl) (fun _ _ _ h => h) (fun _ h => h)
          refine EAll.snoc (i := 0) ?_ rfl rfl trivial ?_
          rotate_left
          · intro vs B y hI hJ hL hA K E hK
            have hB := hI
            clear hJ
            clear hA
            have t5 : B.tmps[5]? = some (.bool sm) := (hL.out 5 rfl).trans rfl
            clear hL
            refine Box.mk ?_
            go_simp
            exact hK.out _ _ hB (show (updv vs 0 _) 0 = .bool sm from rfl) (fun _ _ _ h => h) (fun _ h => h)
          exact EAll.nil
        · intro vs y hI hall
          have hB := hI
          have e38 : vs 38 = .bool true := hall 38 (by decide)
          clear hall HKEEP
          refine Box.mk ?_
          simp only [e38, ch, cq, allPut, puts, Act.put, List.setIfInBounds_toArray, List.set_cons_zero, List.set_cons_succ]
          have HXZ := Lib.hid (below_on HX4.out hB)
          clear e38 hB
          go_wp2_with fail
          go_ret
          exact ⟨rfl, HXZ.out⟩

theorem own : ownKnob Try.prog.godebug = none := by kernel_rfl
theorem laidOut : laidOutB Try.prog = true := by kernel_rfl
set_option maxRecDepth 100000 in
theorem lifted (os : Os) (started : os.Started) (H : Type) (enc : TypeId × Value → H) :
    ReturnsInHanded {} Try.checked os 5 .any (Rows.wireSameSpec.pre6 enc Try.prog Try.f5 [] false) (Rows.wireSameSpec.post enc Try.prog Try.f5 false true false false) := by
  refine LK.lifted_bare (C := Try.checked) (tb := 4) own started (by kernel_rfl) Try.func5 laidOut rfl (by kernel_rfl) (by kernel_rfl) Try.underlying4
    (fun ds h => by
      match ds, h with
      | [_, _], _ => rfl)
    (ChangeSpec.witness6 (enc := enc) (C := Try.checked) false ⟨#[], #[.agg #[.int .i64 0, .int .i64 0, .int .i64 0, .int .i64 0, .int .i64 0, .int .i64 0, .int .i64 0, .string ⟨#[]⟩, .int .i64 0, .int .i64 0, .int .i64 0, .bool false, .int .i64 0, .slice none 0 0, .int .i64 0, .int .i64 0], .agg #[.int .i64 0, .int .i64 0, .int .i64 0, .int .i64 0, .int .i64 0, .int .i64 0, .int .i64 0, .string ⟨#[]⟩, .int .i64 0, .int .i64 0, .int .i64 0, .bool false, .int .i64 0, .slice none 0 0, .int .i64 0, .int .i64 0]], []⟩ 8 (by kernel_rfl) (by kernel_rfl) (by kernel_rfl) (by kernel_rfl)) ?_
  intro W base args ds ps hval hA hwt _
  rw [show Try.f5.params.toList = [28, 28] by kernel_rfl] at hA hwt
  have hval' : ∀ (j : Nat) t v, (#[28, 28] : Array TypeId)[j]? = some t → args[j]? = some v → Value.okWide Try.prog W .any base t v := by
    rw [← Try.params5]; exact hval
  clear hval
  obtain ⟨v0, v1, d0, d1, p0, p1, rfl, rfl, rfl, h0, h1⟩ := trodAll_two hA
  obtain ⟨A0, c0, m0, rfl, hC0⟩ := open_msg (hval' 0 28 v0 rfl rfl) h0 hwt (j := 0) rfl rfl
  obtain ⟨A1, c1, m1, rfl, hC1⟩ := open_msg (hval' 1 28 v1 rfl rfl) h1 hwt (j := 1) rfl rfl
  exact walk A0 c0 m0 A1 c1 m1 W hC0 hC1

/-- The statement. -/
theorem proved : Rows.WireSameSaid :=
  OpenClaim.holds_of_wide 5 Try.f5 rfl rfl rfl rfl rfl rfl rfl ⟨rfl, rfl, rfl, rfl, rfl⟩ rfl rfl rfl rfl rfl (by kernel_rfl) Try.func5 (by kernel_rfl)
    (of_decide_eq_true (by kernel_rfl)) (by unfold Func.isWrapper; first | (rw [if_pos (by decide +kernel)]; kernel_rfl) | (rw [if_neg (by decide +kernel)]; exact ⟨rfl, rfl⟩))
    (fun os started H enc _ => lifted os started H enc)

end Go.Proofs.Ytboflkadabagfaa.lawWireSame
