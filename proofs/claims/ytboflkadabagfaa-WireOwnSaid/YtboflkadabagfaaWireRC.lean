/- Texts that belong together: WireR4, WireR5. -/
import Derived.Test.YtboflkadabagfaaWireW8
import Derived.Test.YtboflkadabagfaaWireRA
import Derived.Test.YtboflkadabagfaaWireA
import Derived.Test.YtboflkadabagfaaWireRB
import Derived.Test.YtboflkadabagfaaWireR1
namespace Go.Proofs.Ytboflkadabagfaa
open Go.RowKit
open Oct (BytesAt u8s)
open WM (Msg)
set_option linter.unusedVariables false
set_option linter.unusedSimpArgs false
set_option maxRecDepth 100000
theorem In64.rng {x : Int} (h : In64 x) : -9223372036854775808 ≤ x ∧ x ≤ 9223372036854775807 := h
set_option maxHeartbeats 400000 in
theorem RefCounter_any (x : Int) (w : World) : Calls Try.prog 35 #[.int .i64 x] w fun e w' => e = .returned (.bool (SM.count x)) ∧ w = w' := by
  have HE := Lib.hid (show SM.count x = (decide (1 ≤ x) && decide (x ≤ 1099511627776)) from rfl)
  by_cases h : 1 ≤ x
  · by_cases h2 : x ≤ 1099511627776
    · go_enter Try.func35, Try.ntmps35
      go_wp2_with fail
      go_ret
      exact ⟨ret_bool (by rw [HE.out, decide_eq_true h, decide_eq_true h2]; first | rfl | simp [*]), rfl⟩
    · go_enter Try.func35, Try.ntmps35
      go_wp2_with fail
      go_ret
      exact ⟨ret_bool (by rw [HE.out, decide_eq_false (show ¬ x ≤ 1099511627776 by omega), Bool.and_false]), rfl⟩
  · go_enter Try.func35, Try.ntmps35
    go_wp2_with fail
    go_ret
    exact ⟨ret_bool (by rw [HE.out, decide_eq_false (show ¬ 1 ≤ x by omega), Bool.false_and]), rfl⟩
set_option maxHeartbeats 400000 in
theorem RefNode_any (x : Int) (w : World) : Calls Try.prog 29 #[.int .i64 x] w fun e w' => e = .returned (.bool (WM.node x)) ∧ w = w' := by
  have HE := Lib.hid (show WM.node x = (decide (0 ≤ x) && decide (x < 8)) from rfl)
  by_cases h : 0 ≤ x
  · by_cases h2 : x < 8
    · go_enter Try.func29, Try.ntmps29
      go_wp2_with fail
      go_ret
      exact ⟨ret_bool (by rw [HE.out, decide_eq_true h, decide_eq_true h2]; first | rfl | simp [*]), rfl⟩
    · go_enter Try.func29, Try.ntmps29
      go_wp2_with fail
      go_ret
      exact ⟨ret_bool (by rw [HE.out, decide_eq_false (show ¬ x < 8 by omega), Bool.and_false]), rfl⟩
  · go_enter Try.func29, Try.ntmps29
    go_wp2_with fail
    go_ret
    exact ⟨ret_bool (by rw [HE.out, decide_eq_false (show ¬ 0 ≤ x by omega), Bool.false_and]), rfl⟩
theorem asks_no {m : Msg} (h : (((!SM.count m.boot) || (!SM.count m.seq)) || decide ((m.low : Int) < 1)) = true ∨ decide ((m.seq : Int) < m.low) = true) : WM.mayAsk m = false := by
  unfold WM.mayAsk
  cases h1 : SM.count m.boot <;> cases h2 : SM.count m.seq <;> simp [h1, h2] at h ⊢
  by_cases k1 : 1 ≤ m.low <;> by_cases k2 : m.low ≤ m.seq <;> simp [k1, k2]
  omega
theorem asks_yes {m : Msg} (h : (((!SM.count m.boot) || (!SM.count m.seq)) || decide ((m.low : Int) < 1)) = false ∧ decide ((m.seq : Int) < m.low) = false) : WM.mayAsk m = WM.want m := by
  unfold WM.mayAsk
  cases h1 : SM.count m.boot <;> cases h2 : SM.count m.seq <;> simp [h1, h2] at h ⊢
  simp [h.1, h.2]
set_option maxHeartbeats 8000000 in
theorem r6_asks (A : Option Addr) (c : Nat) (m : Msg) (w : World) (hf : Fit6 w A c m) :
    Calls Try.prog 33 #[.agg (cellsM m (.slice A m.stamp.length c))] w fun e w' => e = .returned (.bool (WM.mayAsk m)) ∧ Below w.heap.size w w' := by
  have HX := Lib.hid ((Below.refl _ w).alloc (Nat.le_refl _) (.cells (cellsM m (.slice A m.stamp.length c)) 28))
  have HK := Lib.hid (show MsgBlk (w.alloc (.cells (cellsM m (.slice A m.stamp.length c)) 28)) w.heap.size m (.slice A m.stamp.length c) from Whole.new w 28 (cellsM m (.slice A m.stamp.length c)))
  have HF := Lib.hid (hf.below HX.out)
  have HI := Lib.hid HF.out.ints
  have HWD := Lib.hid hf.wide
  have HLE := Lib.hid hf.le
  have HCP := Lib.hid hf.cap
  clear hf
  go_enter Try.func33, Try.ntmps33
  go_upto_region 1 with (fail)
  generalize w.alloc (.cells (cellsM m (.slice A m.stamp.length c)) 28) = w4 at HX HK HF HI ⊢
  obtain ⟨c0, c1, c2', c3, c4, c5, c6, c7, c8, c9, c10, c11, c12, c13, c14, c15⟩ := msg_cells HK.out
  obtain ⟨c2, h⟩ : ∃ t, t = SM.count m.boot := ⟨_, rfl⟩
  have C2 := Lib.hid h.symm
  clear h
  obtain ⟨n3, h⟩ : ∃ t, t = (!c2) := ⟨_, rfl⟩
  have N3 := Lib.hid h.symm
  clear h
  obtain ⟨c7, h⟩ : ∃ t, t = SM.count m.seq := ⟨_, rfl⟩
  have C7 := Lib.hid h.symm
  clear h
  obtain ⟨n8, h⟩ : ∃ t, t = (!c7) := ⟨_, rfl⟩
  have N8 := Lib.hid h.symm
  clear h
  obtain ⟨p9, h⟩ : ∃ t, t = (n3 || n8) := ⟨_, rfl⟩
  have P9 := Lib.hid h.symm
  clear h
  obtain ⟨t13, h⟩ : ∃ t, t = decide ((m.low : Int) < 1) := ⟨_, rfl⟩
  have T13 := Lib.hid h.symm
  clear h
  obtain ⟨p14, h⟩ : ∃ t, t = (p9 || t13) := ⟨_, rfl⟩
  have P14 := Lib.hid h.symm
  clear h
  obtain ⟨t20, h⟩ : ∃ t, t = decide ((m.seq : Int) < m.low) := ⟨_, rfl⟩
  have T20 := Lib.hid h.symm
  clear h
  obtain ⟨p21, h⟩ : ∃ t, t = (p14 || t20) := ⟨_, rfl⟩
  have P21 := Lib.hid h.symm
  clear h
  refine region_vseq [some 4, some 5, some 6, some 7, some 8, some 9, some 10, some 11, some 12, some 13, some 14, some 15, some 16, some 17, some 18, some 19, some 20, some 21, some 22, some 23, some 24, some 25] [.pointer (some ⟨w.heap.size, 3, none⟩), .int .i64 m.boot, .bool c2, .bool n3, .bool n3, cond n3 undef (.pointer (some ⟨w.heap.size, 4, none⟩)), cond n3 undef (.int .i64 m.seq), cond n3 undef (.bool c7), cond n3 undef (.bool n8), .bool p9, .bool p9, cond p9 undef (.pointer (some ⟨w.heap.size, 5, none⟩)), cond p9 undef (.int .i64 m.low), cond p9 undef (.bool t13), .bool p14, .bool p14, cond p14 undef (.pointer (some ⟨w.heap.size, 5, none⟩)), cond p14 undef (.int .i64 m.low), cond p14 undef (.pointer (some ⟨w.heap.size, 4, none⟩)), cond p14 undef (.int .i64 m.seq), cond p14 undef (.bool t20), .bool p21] (fun y => y = w4) [[], [0], [0, 1], [0, 1, 2], [0, 1, 2, 3], [0, 1, 2, 3, 4], [0, 1, 2, 3, 4, 5], [0, 1, 2, 3, 4, 5, 6], [0, 1, 2, 3, 4, 5, 6, 7], [0, 1, 2, 3, 4, 5, 6, 7, 8], [0, 1, 2, 3, 4, 5, 6, 7, 8, 9], [0, 1, 2, 3, 4, 5, 6, 7, 8, 9, 10], [0, 1, 2, 3, 4, 5, 6, 7, 8, 9, 10, 11], [0, 1, 2, 3, 4, 5, 6, 7, 8, 9, 10, 11, 12], [0, 1, 2, 3, 4, 5, 6, 7, 8, 9, 10, 11, 12, 13], [0, 1, 2, 3, 4, 5, 6, 7, 8, 9, 10, 11, 12, 13, 14], [0, 1, 2, 3, 4, 5, 6, 7, 8, 9, 10, 11, 12, 13, 14, 15], [0, 1, 2, 3, 4, 5, 6, 7, 8, 9, 10, 11, 12, 13, 14, 15, 16], [0, 1, 2, 3, 4, 5, 6, 7, 8, 9, 10, 11, 12, 13, 14, 15], [0, 1, 2, 3, 4, 5, 6, 7, 8, 9, 10, 11, 12, 13, 14, 15, 18], [0, 1, 2, 3, 4, 5, 6, 7, 8, 9, 10, 11, 12, 13, 14, 15, 16, 17, 18, 19], [0, 1, 2, 3, 4, 5, 6, 7, 8, 9, 10, 11, 12, 13, 14, 15, 16, 17, 18, 19, 20]] rfl (by kernel_rfl) (by kernel_rfl) (by kernel_rfl) (rfl) (Z := fun vs => ch _ vs 4 [21, 20, 19, 18, 17, 16, 15, 14, 13, 12, 11, 10, 9, 8, 7, 6, 5, 4, 3, 2, 1, 0]) (fun _ => rfl) ?_ ?_
  · skip
    refine VAll.snoc (i := 21) ?_ rfl rfl trivial ?_
    rotate_left
    · intro B y hI hL K E hK
      rw [hI]
      clear hI
      have t19 : B.tmps[19]? = some (.bool p14) := hL.at_ 15 (by decide) 19 rfl
      have t24 : B.tmps[24]? = some (cond p14 undef (.bool t20)) := hL.at_ 20 (by decide) 24 rfl
      clear hL
      refine Box.mk ?_
      rcases Bool.eq_false_or_eq_true p14 with hs | hs
      · simp only [hs, cond_true, cond_false] at t19 t24
        go_simp
        exact hK.out _ _ rfl (by change _ = (.bool p21 : Value); rw [← P21.out]; simp [hs])
      · simp only [hs, cond_true, cond_false] at t19 t24
        go_simp
        exact hK.out _ _ rfl (by change _ = (.bool p21 : Value); rw [← P21.out]; simp [hs])
    refine VAll.snoc (i := 20) ?_ rfl rfl idle_f ?_
    rotate_left
    · intro B y hI hL hg K E hK
      rw [hI]
      clear hI
      have hg : (.bool p14 : Value) = .bool false := hg
      have he0 := want_b hg
      clear hg
      have t21 : B.tmps[21]? = some (cond p14 undef (.int .i64 m.low)) := hL.at_ 17 (by decide) 21 rfl
      have t23 : B.tmps[23]? = some (cond p14 undef (.int .i64 m.seq)) := hL.at_ 19 (by decide) 23 rfl
      clear hL
      simp only [he0, cond_true, cond_false] at t21 t23
      refine Box.mk ?_
      have hd := T20.out
      go_simp
      exact hK.out _ _ rfl (by change _ = cond _ _ _; simp only [he0, cond_true, cond_false])
    refine VAll.snoc (i := 19) ?_ rfl rfl idle_f ?_
    rotate_left
    · intro B y hI hL hg K E hK
      rw [hI]
      clear hI
      have hg : (.bool p14 : Value) = .bool false := hg
      have he0 := want_b hg
      clear hg
      have t22 : B.tmps[22]? = some (cond p14 undef (.pointer (some ⟨w.heap.size, 4, none⟩))) := hL.at_ 18 (by decide) 22 rfl
      clear hL
      simp only [he0, cond_true, cond_false] at t22
      refine Box.mk ?_
      go_simp
      exact hK.out _ _ rfl (by change _ = cond _ _ _; simp only [he0, cond_true, cond_false])
    refine VAll.snoc (i := 18) ?_ rfl rfl idle_f ?_
    rotate_left
    · intro B y hI hL hg K E hK
      rw [hI]
      clear hI
      have hg : (.bool p14 : Value) = .bool false := hg
      have he0 := want_b hg
      clear hg
      have t1 : B.tmps[1]? = some (.pointer (some ⟨w.heap.size, 0, none⟩)) := (hL.out 1 rfl).trans rfl
      clear hL
      refine Box.mk ?_
      go_simp
      exact hK.out _ _ rfl (by change _ = cond _ _ _; simp only [he0, cond_true, cond_false])
    refine VAll.snoc (i := 17) ?_ rfl rfl idle_f ?_
    rotate_left
    · intro B y hI hL hg K E hK
      rw [hI]
      clear hI
      have hg : (.bool p14 : Value) = .bool false := hg
      have he0 := want_b hg
      clear hg
      have t20 : B.tmps[20]? = some (cond p14 undef (.pointer (some ⟨w.heap.size, 5, none⟩))) := hL.at_ 16 (by decide) 20 rfl
      clear hL
      simp only [he0, cond_true, cond_false] at t20
      refine Box.mk ?_
      go_simp
      exact hK.out _ _ rfl (by change _ = cond _ _ _; simp only [he0, cond_true, cond_false])
    refine VAll.snoc (i := 16) ?_ rfl rfl idle_f ?_
    rotate_left
    · intro B y hI hL hg K E hK
      rw [hI]
      clear hI
      have hg : (.bool p14 : Value) = .bool false := hg
      have he0 := want_b hg
      clear hg
      have t1 : B.tmps[1]? = some (.pointer (some ⟨w.heap.size, 0, none⟩)) := (hL.out 1 rfl).trans rfl
      clear hL
      refine Box.mk ?_
      go_simp
      exact hK.out _ _ rfl (by change _ = cond _ _ _; simp only [he0, cond_true, cond_false])
    refine VAll.snoc (i := 15) ?_ rfl rfl trivial ?_
    rotate_left
    · intro B y hI hL K E hK
      rw [hI]
      clear hI
      have t18 : B.tmps[18]? = some (.bool p14) := hL.at_ 14 (by decide) 18 rfl
      clear hL
      refine Box.mk ?_
      go_simp
      exact hK.out _ _ rfl rfl
    refine VAll.snoc (i := 14) ?_ rfl rfl trivial ?_
    rotate_left
    · intro B y hI hL K E hK
      rw [hI]
      clear hI
      have t14 : B.tmps[14]? = some (.bool p9) := hL.at_ 10 (by decide) 14 rfl
      have t17 : B.tmps[17]? = some (cond p9 undef (.bool t13)) := hL.at_ 13 (by decide) 17 rfl
      clear hL
      refine Box.mk ?_
      rcases Bool.eq_false_or_eq_true p9 with hs | hs
      · simp only [hs, cond_true, cond_false] at t14 t17
        go_simp
        exact hK.out _ _ rfl (by change _ = (.bool p14 : Value); rw [← P14.out]; simp [hs])
      · simp only [hs, cond_true, cond_false] at t14 t17
        go_simp
        exact hK.out _ _ rfl (by change _ = (.bool p14 : Value); rw [← P14.out]; simp [hs])
    refine VAll.snoc (i := 13) ?_ rfl rfl idle_f ?_
    rotate_left
    · intro B y hI hL hg K E hK
      rw [hI]
      clear hI
      have hg : (.bool p9 : Value) = .bool false := hg
      have he0 := want_b hg
      clear hg
      have t16 : B.tmps[16]? = some (cond p9 undef (.int .i64 m.low)) := hL.at_ 12 (by decide) 16 rfl
      clear hL
      simp only [he0, cond_true, cond_false] at t16
      refine Box.mk ?_
      have hd := T13.out
      go_simp
      exact hK.out _ _ rfl (by change _ = cond _ _ _; simp only [he0, cond_true, cond_false])
    refine VAll.snoc (i := 12) ?_ rfl rfl idle_f ?_
    rotate_left
    · intro B y hI hL hg K E hK
      rw [hI]
      clear hI
      have hg : (.bool p9 : Value) = .bool false := hg
      have he0 := want_b hg
      clear hg
      have t15 : B.tmps[15]? = some (cond p9 undef (.pointer (some ⟨w.heap.size, 5, none⟩))) := hL.at_ 11 (by decide) 15 rfl
      clear hL
      simp only [he0, cond_true, cond_false] at t15
      refine Box.mk ?_
      go_simp
      exact hK.out _ _ rfl (by change _ = cond _ _ _; simp only [he0, cond_true, cond_false])
    refine VAll.snoc (i := 11) ?_ rfl rfl idle_f ?_
    rotate_left
    · intro B y hI hL hg K E hK
      rw [hI]
      clear hI
      have hg : (.bool p9 : Value) = .bool false := hg
      have he0 := want_b hg
      clear hg
      have t1 : B.tmps[1]? = some (.pointer (some ⟨w.heap.size, 0, none⟩)) := (hL.out 1 rfl).trans rfl
      clear hL
      refine Box.mk ?_
      go_simp
      exact hK.out _ _ rfl (by change _ = cond _ _ _; simp only [he0, cond_true, cond_false])
    refine VAll.snoc (i := 10) ?_ rfl rfl trivial ?_
    rotate_left
    · intro B y hI hL K E hK
      rw [hI]
      clear hI
      have t13 : B.tmps[13]? = some (.bool p9) := hL.at_ 9 (by decide) 13 rfl
      clear hL
      refine Box.mk ?_
      go_simp
      exact hK.out _ _ rfl rfl
    refine VAll.snoc (i := 9) ?_ rfl rfl trivial ?_
    rotate_left
    · intro B y hI hL K E hK
      rw [hI]
      clear hI
      have t8 : B.tmps[8]? = some (.bool n3) := hL.at_ 4 (by decide) 8 rfl
      have t12 : B.tmps[12]? = some (cond n3 undef (.bool n8)) := hL.at_ 8 (by decide) 12 rfl
      clear hL
      refine Box.mk ?_
      rcases Bool.eq_false_or_eq_true n3 with hs | hs
      · simp only [hs, cond_true, cond_false] at t8 t12
        go_simp
        exact hK.out _ _ rfl (by change _ = (.bool p9 : Value); rw [← P9.out]; simp [hs])
      · simp only [hs, cond_true, cond_false] at t8 t12
        go_simp
        exact hK.out _ _ rfl (by change _ = (.bool p9 : Value); rw [← P9.out]; simp [hs])
    refine VAll.snoc (i := 8) ?_ rfl rfl idle_f ?_
    rotate_left
    · intro B y hI hL hg K E hK
      rw [hI]
      clear hI
      have hg : (.bool n3 : Value) = .bool false := hg
      have he0 := want_b hg
      clear hg
      have t11 : B.tmps[11]? = some (cond n3 undef (.bool c7)) := hL.at_ 7 (by decide) 11 rfl
      clear hL
      simp only [he0, cond_true, cond_false] at t11
      refine Box.mk ?_
      have hd := N8.out
      go_simp
      exact hK.out _ _ rfl (by change _ = cond _ _ _; simp only [he0, cond_true, cond_false])
    refine VAll.snoc (i := 7) ?_ rfl rfl idle_f ?_
    rotate_left
    · intro B y hI hL hg K E hK
      rw [hI]
      clear hI
      have hg : (.bool n3 : Value) = .bool false := hg
      have he0 := want_b hg
      clear hg
      have t10 : B.tmps[10]? = some (cond n3 undef (.int .i64 m.seq)) := hL.at_ 6 (by decide) 10 rfl
      clear hL
      simp only [he0, cond_true, cond_false] at t10
      refine Box.mk ?_
      go_simp
      with_reducible refine (RefCounter_any m.seq w4).mono ?_
      rintro e w5 ⟨rfl, rfl⟩
      rw [C7.out]
      go_simp
      exact hK.out _ _ rfl (by change _ = cond _ _ _; simp only [he0, cond_true, cond_false])
    refine VAll.snoc (i := 6) ?_ rfl rfl idle_f ?_
    rotate_left
    · intro B y hI hL hg K E hK
      rw [hI]
      clear hI
      have hg : (.bool n3 : Value) = .bool false := hg
      have he0 := want_b hg
      clear hg
      have t9 : B.tmps[9]? = some (cond n3 undef (.pointer (some ⟨w.heap.size, 4, none⟩))) := hL.at_ 5 (by decide) 9 rfl
      clear hL
      simp only [he0, cond_true, cond_false] at t9
      refine Box.mk ?_
      go_simp
      exact hK.out _ _ rfl (by change _ = cond _ _ _; simp only [he0, cond_true, cond_false])
    refine VAll.snoc (i := 5) ?_ rfl rfl idle_f ?_
    rotate_left
    · intro B y hI hL hg K E hK
      rw [hI]
      clear hI
      have hg : (.bool n3 : Value) = .bool false := hg
      have he0 := want_b hg
      clear hg
      have t1 : B.tmps[1]? = some (.pointer (some ⟨w.heap.size, 0, none⟩)) := (hL.out 1 rfl).trans rfl
      clear hL
      refine Box.mk ?_
      go_simp
      exact hK.out _ _ rfl (by change _ = cond _ _ _; simp only [he0, cond_true, cond_false])
    refine VAll.snoc (i := 4) ?_ rfl rfl trivial ?_
    rotate_left
    · intro B y hI hL K E hK
      rw [hI]
      clear hI
      have t7 : B.tmps[7]? = some (.bool n3) := hL.at_ 3 (by decide) 7 rfl
      clear hL
      refine Box.mk ?_
      go_simp
      exact hK.out _ _ rfl rfl
    refine VAll.snoc (i := 3) ?_ rfl rfl trivial ?_
    rotate_left
    · intro B y hI hL K E hK
      rw [hI]
      clear hI
      have t6 : B.tmps[6]? = some (.bool c2) := hL.at_ 2 (by decide) 6 rfl
      clear hL
      refine Box.mk ?_
      have hd := N3.out
      go_simp
      exact hK.out _ _ rfl rfl
    refine VAll.snoc (i := 2) ?_ rfl rfl trivial ?_
    rotate_left
    · intro B y hI hL K E hK
      rw [hI]
      clear hI
      have t5 : B.tmps[5]? = some (.int .i64 m.boot) := hL.at_ 1 (by decide) 5 rfl
      clear hL
      refine Box.mk ?_
      go_simp
      with_reducible refine (RefCounter_any m.boot w4).mono ?_
      rintro e w5 ⟨rfl, rfl⟩
      rw [C2.out]
      go_simp
      exact hK.out _ _ rfl rfl
    refine VAll.snoc (i := 1) ?_ rfl rfl trivial ?_
    rotate_left
    · intro B y hI hL K E hK
      rw [hI]
      clear hI
      have t4 : B.tmps[4]? = some (.pointer (some ⟨w.heap.size, 3, none⟩)) := hL.at_ 0 (by decide) 4 rfl
      clear hL
      refine Box.mk ?_
      go_simp
      exact hK.out _ _ rfl rfl
    refine VAll.snoc (i := 0) ?_ rfl rfl trivial ?_
    rotate_left
    · intro B y hI hL K E hK
      rw [hI]
      clear hI
      have t1 : B.tmps[1]? = some (.pointer (some ⟨w.heap.size, 0, none⟩)) := (hL.out 1 rfl).trans rfl
      clear hL
      refine Box.mk ?_
      go_simp
      exact hK.out _ _ rfl rfl
    exact VAll.nil
  · intro vs y hI hall
    have e21 : vs 21 = .bool p21 := hall 21 (by decide)
    clear hall
    refine Box.mk ?_
    simp only [e21, ch, cq, allPut, puts, Act.put, List.setIfInBounds_toArray, List.set_cons_zero, List.set_cons_succ]
    clear e21
    subst hI
    have HE := Lib.hid (show p21 = ((((!SM.count m.boot) || (!SM.count m.seq)) || decide ((m.low : Int) < 1)) || decide ((m.seq : Int) < m.low)) by rw [← P21.out, ← T20.out, ← P14.out, ← T13.out, ← P9.out, ← N8.out, ← C7.out, ← N3.out, ← C2.out])
    cases hv : p21 with
    | true =>
      have HV := Lib.hid (asks_no (m := m) (by have h := HE.out; rw [hv] at h; exact Bool.or_eq_true_iff.1 h.symm))
      clear hv
      go_wp2_with fail
      go_ret
      exact ⟨ret_bool HV.out.symm, HX.out⟩
    | false =>
      have HV := Lib.hid (asks_yes (m := m) (by have h := HE.out; rw [hv] at h; exact Bool.or_eq_false_iff.1 h.symm))
      clear hv HE
      by_cases v1 : m.verb = 1
      · skip
        rw [v1] at c6
        have HVB := Lib.hid v1
        clear v1
        go_wp2_with fail
        refine (RValid_any m.path _ HWD.out.path).mono ?_
        rintro e w5 ⟨rfl, hb5⟩
        have HX5 := Lib.hid (below_on HX.out hb5)
        have HK5 := Lib.hid ((Mod.of_below hb5 []).whole HK.out (by simp))
        clear hb5 HK HX HF HI
        clear c0 c1 c2' c3 c4 c5 c6 c7 c8 c9 c10 c11 c12 c13 c14 c15
        obtain ⟨c0, c1, c2', c3, c4, c5, c6, c7, c8, c9, c10, c11, c12, c13, c14, c15⟩ := msg_cells HK5.out
        generalize hpa : PM.okB m.path.data.toList = cp
        have HPA := Lib.hid hpa
        clear hpa
        go_upto_region 6 with (fail)
        obtain ⟨c4, h⟩ : ∃ t, t = okMode m.mode := ⟨_, rfl⟩
        have C4 := Lib.hid h.symm
        clear h
        obtain ⟨p5, h⟩ : ∃ t, t = (cp && c4) := ⟨_, rfl⟩
        have P5 := Lib.hid h.symm
        clear h
        obtain ⟨c9, h⟩ : ∃ t, t = TM.legal m.term := ⟨_, rfl⟩
        have C9 := Lib.hid h.symm
        clear h
        obtain ⟨p10, h⟩ : ∃ t, t = (p5 && c9) := ⟨_, rfl⟩
        have P10 := Lib.hid h.symm
        clear h
        refine region_vseq [some 33, some 34, some 35, some 36, some 37, some 38, some 39, some 40, some 41, some 42, some 43, some 2] [.bool cp, .bool cp, cond cp (.pointer (some ⟨w.heap.size, 8, none⟩)) undef, cond cp (.int .i64 m.mode) undef, cond cp (.bool c4) undef, .bool p5, .bool p5, cond p5 (.pointer (some ⟨w.heap.size, 9, none⟩)) undef, cond p5 (.int .i64 m.term) undef, cond p5 (.bool c9) undef, .bool p10, .bool p10] (fun y => y = w5) [[], [0], [0, 1], [0, 1, 2], [0, 1, 2, 3], [0, 1, 2, 3, 4], [0, 1, 2, 3, 4, 5], [0, 1, 2, 3, 4, 5, 6], [0, 1, 2, 3, 4, 5, 6, 7], [0, 1, 2, 3, 4, 5, 6, 7, 8], [0, 1, 2, 3, 4, 5, 6, 7, 8, 9], [0, 1, 2, 3, 4, 5, 6, 7, 8, 9, 10]] rfl (by kernel_rfl) (by kernel_rfl) (by kernel_rfl) (rfl) (Z := fun vs => cq _ vs [(2, 11), (43, 10), (42, 9), (41, 8), (40, 7), (39, 6), (38, 5), (37, 4), (36, 3), (35, 2), (34, 1), (33, 0)]) (fun _ => rfl) ?_ ?_
        · skip
          refine VAll.snoc (i := 11) ?_ rfl rfl trivial ?_
          rotate_left
          · intro B y hI hL K E hK
            rw [hI]
            clear hI
            have t43 : B.tmps[43]? = some (.bool p10) := hL.at_ 10 (by decide) 43 rfl
            clear hL
            refine Box.mk ?_
            go_simp
            exact hK.out _ _ rfl rfl
          refine VAll.snoc (i := 10) ?_ rfl rfl trivial ?_
          rotate_left
          · intro B y hI hL K E hK
            rw [hI]
            clear hI
            have t39 : B.tmps[39]? = some (.bool p5) := hL.at_ 6 (by decide) 39 rfl
            have t42 : B.tmps[42]? = some (cond p5 (.bool c9) undef) := hL.at_ 9 (by decide) 42 rfl
            clear hL
            refine Box.mk ?_
            rcases Bool.eq_false_or_eq_true p5 with hs | hs
            · simp only [hs, cond_true, cond_false] at t39 t42
              go_simp
              exact hK.out _ _ rfl (by change _ = (.bool p10 : Value); rw [← P10.out]; simp [hs])
            · simp only [hs, cond_true, cond_false] at t39 t42
              go_simp
              exact hK.out _ _ rfl (by change _ = (.bool p10 : Value); rw [← P10.out]; simp [hs])
          refine VAll.snoc (i := 9) ?_ rfl rfl idle_t ?_
          rotate_left
          · intro B y hI hL hg K E hK
            rw [hI]
            clear hI
            have hg : (.bool p5 : Value) = .bool true := hg
            have he0 := want_b hg
            clear hg
            have t41 : B.tmps[41]? = some (cond p5 (.int .i64 m.term) undef) := hL.at_ 8 (by decide) 41 rfl
            clear hL
            simp only [he0, cond_true, cond_false] at t41
            refine Box.mk ?_
            go_simp
            with_reducible refine (RefLegal_any m.term w5 HWD.out.term.rng).mono ?_
            rintro e w5 ⟨rfl, rfl⟩
            rw [C9.out]
            go_simp
            exact hK.out _ _ rfl (by change _ = cond _ _ _; simp only [he0, cond_true, cond_false])
          refine VAll.snoc (i := 8) ?_ rfl rfl idle_t ?_
          rotate_left
          · intro B y hI hL hg K E hK
            rw [hI]
            clear hI
            have hg : (.bool p5 : Value) = .bool true := hg
            have he0 := want_b hg
            clear hg
            have t40 : B.tmps[40]? = some (cond p5 (.pointer (some ⟨w.heap.size, 9, none⟩)) undef) := hL.at_ 7 (by decide) 40 rfl
            clear hL
            simp only [he0, cond_true, cond_false] at t40
            refine Box.mk ?_
            go_simp
            exact hK.out _ _ rfl (by change _ = cond _ _ _; simp only [he0, cond_true, cond_false])
          refine VAll.snoc (i := 7) ?_ rfl rfl idle_t ?_
          rotate_left
          · intro B y hI hL hg K E hK
            rw [hI]
            clear hI
            have hg : (.bool p5 : Value) = .bool true := hg
            have he0 := want_b hg
            clear hg
            have t1 : B.tmps[1]? = some (.pointer (some ⟨w.heap.size, 0, none⟩)) := (hL.out 1 rfl).trans rfl
            clear hL
            refine Box.mk ?_
            go_simp
            exact hK.out _ _ rfl (by change _ = cond _ _ _; simp only [he0, cond_true, cond_false])
          refine VAll.snoc (i := 6) ?_ rfl rfl trivial ?_
          rotate_left
          · intro B y hI hL K E hK
            rw [hI]
            clear hI
            have t38 : B.tmps[38]? = some (.bool p5) := hL.at_ 5 (by decide) 38 rfl
            clear hL
            refine Box.mk ?_
            go_simp
            exact hK.out _ _ rfl rfl
          refine VAll.snoc (i := 5) ?_ rfl rfl trivial ?_
          rotate_left
          · intro B y hI hL K E hK
            rw [hI]
            clear hI
            have t34 : B.tmps[34]? = some (.bool cp) := hL.at_ 1 (by decide) 34 rfl
            have t37 : B.tmps[37]? = some (cond cp (.bool c4) undef) := hL.at_ 4 (by decide) 37 rfl
            clear hL
            refine Box.mk ?_
            rcases Bool.eq_false_or_eq_true cp with hs | hs
            · simp only [hs, cond_true, cond_false] at t34 t37
              go_simp
              exact hK.out _ _ rfl (by change _ = (.bool p5 : Value); rw [← P5.out]; simp [hs])
            · simp only [hs, cond_true, cond_false] at t34 t37
              go_simp
              exact hK.out _ _ rfl (by change _ = (.bool p5 : Value); rw [← P5.out]; simp [hs])
          refine VAll.snoc (i := 4) ?_ rfl rfl idle_t ?_
          rotate_left
          · intro B y hI hL hg K E hK
            rw [hI]
            clear hI
            have hg : (.bool cp : Value) = .bool true := hg
            have he0 := want_b hg
            clear hg
            have t36 : B.tmps[36]? = some (cond cp (.int .i64 m.mode) undef) := hL.at_ 3 (by decide) 36 rfl
            clear hL
            simp only [he0, cond_true, cond_false] at t36
            refine Box.mk ?_
            go_simp
            with_reducible refine (Mode_any m.mode w5).mono ?_
            rintro e w5 ⟨rfl, rfl⟩
            rw [C4.out]
            go_simp
            exact hK.out _ _ rfl (by change _ = cond _ _ _; simp only [he0, cond_true, cond_false])
          refine VAll.snoc (i := 3) ?_ rfl rfl idle_t ?_
          rotate_left
          · intro B y hI hL hg K E hK
            rw [hI]
            clear hI
            have hg : (.bool cp : Value) = .bool true := hg
            have he0 := want_b hg
            clear hg
            have t35 : B.tmps[35]? = some (cond cp (.pointer (some ⟨w.heap.size, 8, none⟩)) undef) := hL.at_ 2 (by decide) 35 rfl
            clear hL
            simp only [he0, cond_true, cond_false] at t35
            refine Box.mk ?_
            go_simp
            exact hK.out _ _ rfl (by change _ = cond _ _ _; simp only [he0, cond_true, cond_false])
          refine VAll.snoc (i := 2) ?_ rfl rfl idle_t ?_
          rotate_left
          · intro B y hI hL hg K E hK
            rw [hI]
            clear hI
            have hg : (.bool cp : Value) = .bool true := hg
            have he0 := want_b hg
            clear hg
            have t1 : B.tmps[1]? = some (.pointer (some ⟨w.heap.size, 0, none⟩)) := (hL.out 1 rfl).trans rfl
            clear hL
            refine Box.mk ?_
            go_simp
            exact hK.out _ _ rfl (by change _ = cond _ _ _; simp only [he0, cond_true, cond_false])
          refine VAll.snoc (i := 1) ?_ rfl rfl trivial ?_
          rotate_left
          · intro B y hI hL K E hK
            rw [hI]
            clear hI
            have t33 : B.tmps[33]? = some (.bool cp) := hL.at_ 0 (by decide) 33 rfl
            clear hL
            refine Box.mk ?_
            go_simp
            exact hK.out _ _ rfl rfl
          refine VAll.snoc (i := 0) ?_ rfl rfl trivial ?_
          rotate_left
          · intro B y hI hL K E hK
            rw [hI]
            clear hI
            have t3 : B.tmps[3]? = some (.bool cp) := (hL.out 3 rfl).trans rfl
            clear hL
            refine Box.mk ?_
            go_simp
            exact hK.out _ _ rfl rfl
          exact VAll.nil
        · intro vs y hI hall
          have e11 : vs 11 = .bool p10 := hall 11 (by decide)
          clear hall
          refine Box.mk ?_
          simp only [e11, ch, cq, allPut, puts, Act.put, List.setIfInBounds_toArray, List.set_cons_zero, List.set_cons_succ]
          subst hI
          have HE := Lib.hid (show p10 = ((cp && okMode m.mode) && TM.legal m.term) by rw [← P10.out, ← C9.out, ← P5.out, ← C4.out])
          have HW := Lib.hid (show WM.want m = p10 by rw [HE.out]; unfold WM.want WM.p; rw [if_pos HVB.out, ← HPA.out, Bool.and_assoc]; rfl)
          clear e11
          go_wp2_with fail
          go_ret
          exact ⟨ret_bool (HV.out.trans HW.out).symm, HX5.out⟩
      by_cases v2 : m.verb = 2
      · skip
        rw [v2] at c6
        have HVB := Lib.hid v2
        clear v2 v1
        go_upto_region 8 with (fail)
        obtain ⟨c2, h⟩ : ∃ t, t = SM.count m.id := ⟨_, rfl⟩
        have C2 := Lib.hid h.symm
        clear h
        obtain ⟨c6, h⟩ : ∃ t, t = TM.legal m.term := ⟨_, rfl⟩
        have C6 := Lib.hid h.symm
        clear h
        obtain ⟨p7, h⟩ : ∃ t, t = (c2 && c6) := ⟨_, rfl⟩
        have P7 := Lib.hid h.symm
        clear h
        refine region_vseq [some 46, some 47, some 48, some 49, some 50, some 51, some 52, some 53, some 2] [.pointer (some ⟨w.heap.size, 10, none⟩), .int .i64 m.id, .bool c2, .bool c2, cond c2 (.pointer (some ⟨w.heap.size, 9, none⟩)) undef, cond c2 (.int .i64 m.term) undef, cond c2 (.bool c6) undef, .bool p7, .bool p7] (fun z => z = y) [[], [0], [0, 1], [0, 1, 2], [0, 1, 2, 3], [0, 1, 2, 3, 4], [0, 1, 2, 3, 4, 5], [0, 1, 2, 3, 4, 5, 6], [0, 1, 2, 3, 4, 5, 6, 7]] rfl (by kernel_rfl) (by kernel_rfl) (by kernel_rfl) (rfl) (Z := fun vs => cq _ vs [(2, 8), (53, 7), (52, 6), (51, 5), (50, 4), (49, 3), (48, 2), (47, 1), (46, 0)]) (fun _ => rfl) ?_ ?_
        · skip
          refine VAll.snoc (i := 8) ?_ rfl rfl trivial ?_
          rotate_left
          · intro B z hI hL K E hK
            rw [hI]
            clear hI
            have t53 : B.tmps[53]? = some (.bool p7) := hL.at_ 7 (by decide) 53 rfl
            clear hL
            refine Box.mk ?_
            go_simp
            exact hK.out _ _ rfl rfl
          refine VAll.snoc (i := 7) ?_ rfl rfl trivial ?_
          rotate_left
          · intro B z hI hL K E hK
            rw [hI]
            clear hI
            have t49 : B.tmps[49]? = some (.bool c2) := hL.at_ 3 (by decide) 49 rfl
            have t52 : B.tmps[52]? = some (cond c2 (.bool c6) undef) := hL.at_ 6 (by decide) 52 rfl
            clear hL
            refine Box.mk ?_
            rcases Bool.eq_false_or_eq_true c2 with hs | hs
            · simp only [hs, cond_true, cond_false] at t49 t52
              go_simp
              exact hK.out _ _ rfl (by change _ = (.bool p7 : Value); rw [← P7.out]; simp [hs])
            · simp only [hs, cond_true, cond_false] at t49 t52
              go_simp
              exact hK.out _ _ rfl (by change _ = (.bool p7 : Value); rw [← P7.out]; simp [hs])
          refine VAll.snoc (i := 6) ?_ rfl rfl idle_t ?_
          rotate_left
          · intro B z hI hL hg K E hK
            rw [hI]
            clear hI
            have hg : (.bool c2 : Value) = .bool true := hg
            have he0 := want_b hg
            clear hg
            have t51 : B.tmps[51]? = some (cond c2 (.int .i64 m.term) undef) := hL.at_ 5 (by decide) 51 rfl
            clear hL
            simp only [he0, cond_true, cond_false] at t51
            refine Box.mk ?_
            go_simp
            with_reducible refine (RefLegal_any m.term y HWD.out.term.rng).mono ?_
            rintro e w5 ⟨rfl, rfl⟩
            rw [C6.out]
            go_simp
            exact hK.out _ _ rfl (by change _ = cond _ _ _; simp only [he0, cond_true, cond_false])
          refine VAll.snoc (i := 5) ?_ rfl rfl idle_t ?_
          rotate_left
          · intro B z hI hL hg K E hK
            rw [hI]
            clear hI
            have hg : (.bool c2 : Value) = .bool true := hg
            have he0 := want_b hg
            clear hg
            have t50 : B.tmps[50]? = some (cond c2 (.pointer (some ⟨w.heap.size, 9, none⟩)) undef) := hL.at_ 4 (by decide) 50 rfl
            clear hL
            simp only [he0, cond_true, cond_false] at t50
            refine Box.mk ?_
            go_simp
            exact hK.out _ _ rfl (by change _ = cond _ _ _; simp only [he0, cond_true, cond_false])
          refine VAll.snoc (i := 4) ?_ rfl rfl idle_t ?_
          rotate_left
          · intro B z hI hL hg K E hK
            rw [hI]
            clear hI
            have hg : (.bool c2 : Value) = .bool true := hg
            have he0 := want_b hg
            clear hg
            have t1 : B.tmps[1]? = some (.pointer (some ⟨w.heap.size, 0, none⟩)) := (hL.out 1 rfl).trans rfl
            clear hL
            refine Box.mk ?_
            go_simp
            exact hK.out _ _ rfl (by change _ = cond _ _ _; simp only [he0, cond_true, cond_false])
          refine VAll.snoc (i := 3) ?_ rfl rfl trivial ?_
          rotate_left
          · intro B z hI hL K E hK
            rw [hI]
            clear hI
            have t48 : B.tmps[48]? = some (.bool c2) := hL.at_ 2 (by decide) 48 rfl
            clear hL
            refine Box.mk ?_
            go_simp
            exact hK.out _ _ rfl rfl
          refine VAll.snoc (i := 2) ?_ rfl rfl trivial ?_
          rotate_left
          · intro B z hI hL K E hK
            rw [hI]
            clear hI
            have t47 : B.tmps[47]? = some (.int .i64 m.id) := hL.at_ 1 (by decide) 47 rfl
            clear hL
            refine Box.mk ?_
            go_simp
            with_reducible refine (RefCounter_any m.id y).mono ?_
            rintro e w5 ⟨rfl, rfl⟩
            rw [C2.out]
            go_simp
            exact hK.out _ _ rfl rfl
          refine VAll.snoc (i := 1) ?_ rfl rfl trivial ?_
          rotate_left
          · intro B z hI hL K E hK
            rw [hI]
            clear hI
            have t46 : B.tmps[46]? = some (.pointer (some ⟨w.heap.size, 10, none⟩)) := hL.at_ 0 (by decide) 46 rfl
            clear hL
            refine Box.mk ?_
            go_simp
            exact hK.out _ _ rfl rfl
          refine VAll.snoc (i := 0) ?_ rfl rfl trivial ?_
          rotate_left
          · intro B z hI hL K E hK
            rw [hI]
            clear hI
            have t1 : B.tmps[1]? = some (.pointer (some ⟨w.heap.size, 0, none⟩)) := (hL.out 1 rfl).trans rfl
            clear hL
            refine Box.mk ?_
            go_simp
            exact hK.out _ _ rfl rfl
          exact VAll.nil
        · intro vs z hI hall
          have e8 : vs 8 = .bool p7 := hall 8 (by decide)
          clear hall
          refine Box.mk ?_
          simp only [e8, ch, cq, allPut, puts, Act.put, List.setIfInBounds_toArray, List.set_cons_zero, List.set_cons_succ]
          subst hI
          have HE := Lib.hid (show p7 = (SM.count m.id && TM.legal m.term) by rw [← P7.out, ← C6.out, ← C2.out])
          have HW := Lib.hid (show WM.want m = p7 by rw [HE.out]; unfold WM.want; rw [if_neg (by rw [HVB.out]; decide), if_pos HVB.out])
          clear e8
          go_wp2_with fail
          go_ret
          exact ⟨ret_bool (HV.out.trans HW.out).symm, HX.out⟩
      by_cases v3 : m.verb = 3
      · skip
        rw [v3] at c6
        have HVB := Lib.hid v3
        clear v3 v2 v1
        have HW := Lib.hid (show WM.want m = SM.count m.id by unfold WM.want; rw [if_neg (by rw [HVB.out]; decide), if_neg (by rw [HVB.out]; decide), if_pos HVB.out])
        go_wp2_with fail
        refine (RefCounter_any m.id _).mono ?_
        rintro e w5 ⟨rfl, rfl⟩
        go_wp2_with fail
        go_ret
        exact ⟨ret_bool (HV.out.trans HW.out).symm, HX.out⟩
      have HW := Lib.hid (show WM.want m = false by unfold WM.want; rw [if_neg v1, if_neg v2, if_neg v3])
      have d1 : (m.verb == 1) = false := by simpa using v1
      have d2 : (m.verb == 2) = false := by simpa using v2
      have d3 : (m.verb == 3) = false := by simpa using v3
      clear v1 v2 v3
      go_wp2_with fail
      go_ret
      exact ⟨ret_bool (HV.out.trans HW.out).symm, HX.out⟩
theorem rep_no {m : Msg} (h : ((((!SM.count m.boot) || (!SM.count m.seq)) || decide ((m.code : Int) < 0)) || decide ((99 : Int) < m.code)) = true) : WM.mayReply m = false := by
  unfold WM.mayReply
  cases h1 : SM.count m.boot <;> cases h2 : SM.count m.seq <;> simp [h1, h2] at h ⊢
  intro k1 k2
  omega
theorem rep_yes {m : Msg} (h : ((((!SM.count m.boot) || (!SM.count m.seq)) || decide ((m.code : Int) < 0)) || decide ((99 : Int) < m.code)) = false) : WM.mayReply m = (decide (m.code ≠ 0) || (SM.count m.id && WM.give m)) := by
  unfold WM.mayReply
  cases h1 : SM.count m.boot <;> cases h2 : SM.count m.seq <;> simp [h1, h2] at h ⊢
  simp [h.1, h.2]
theorem rep_give {m : Msg} : ((SM.count m.id && SM.valid m.stamp) && (((m.term == 0) && (((m.stamp.length : Int)) == 0)) || (TM.legal m.term && decide ((0 : Int) < (m.stamp.length : Int))))) = (SM.count m.id && WM.give m) := by
  unfold WM.give
  by_cases hs : m.stamp = []
  · rw [if_pos hs, hs]
    have e : SM.valid [] = true := rfl
    rw [e]
    by_cases ht : m.term = 0 <;> simp [ht]
  · rw [if_neg hs]
    have hl : 0 < m.stamp.length := List.length_pos_iff.2 hs
    have e1 : (((m.stamp.length : Int)) == 0) = false := by simpa using hs
    have e2 : decide ((0 : Int) < (m.stamp.length : Int)) = true := decide_eq_true (by omega)
    rw [e1, e2, Bool.and_false, Bool.false_or, Bool.and_true, Bool.and_assoc, Bool.and_comm (SM.valid _)]
set_option maxHeartbeats 8000000 in
theorem r6_replies (A : Option Addr) (c : Nat) (m : Msg) (w : World) (hf : Fit6 w A c m) :
    Calls Try.prog 34 #[.agg (cellsM m (.slice A m.stamp.length c))] w fun e w' => e = .returned (.bool (WM.mayReply m)) ∧ Below w.heap.size w w' := by
  have HX := Lib.hid ((Below.refl _ w).alloc (Nat.le_refl _) (.cells (cellsM m (.slice A m.stamp.length c)) 28))
  have HK := Lib.hid (show MsgBlk (w.alloc (.cells (cellsM m (.slice A m.stamp.length c)) 28)) w.heap.size m (.slice A m.stamp.length c) from Whole.new w 28 (cellsM m (.slice A m.stamp.length c)))
  have HF := Lib.hid (hf.below HX.out)
  have HI := Lib.hid HF.out.ints
  have HWD := Lib.hid hf.wide
  have HLE := Lib.hid hf.le
  have HCP := Lib.hid hf.cap
  clear hf
  go_enter Try.func34, Try.ntmps34
  go_upto_region 1 with (fail)
  generalize w.alloc (.cells (cellsM m (.slice A m.stamp.length c)) 28) = w4 at HX HK HF HI ⊢
  obtain ⟨c0, c1, c2', c3, c4, c5, c6, c7, c8, c9, c10, c11, c12, c13, c14, c15⟩ := msg_cells HK.out
  obtain ⟨c2, h⟩ : ∃ t, t = SM.count m.boot := ⟨_, rfl⟩
  have C2 := Lib.hid h.symm
  clear h
  obtain ⟨n3, h⟩ : ∃ t, t = (!c2) := ⟨_, rfl⟩
  have N3 := Lib.hid h.symm
  clear h
  obtain ⟨c7, h⟩ : ∃ t, t = SM.count m.seq := ⟨_, rfl⟩
  have C7 := Lib.hid h.symm
  clear h
  obtain ⟨n8, h⟩ : ∃ t, t = (!c7) := ⟨_, rfl⟩
  have N8 := Lib.hid h.symm
  clear h
  obtain ⟨p9, h⟩ : ∃ t, t = (n3 || n8) := ⟨_, rfl⟩
  have P9 := Lib.hid h.symm
  clear h
  obtain ⟨t13, h⟩ : ∃ t, t = decide ((m.code : Int) < 0) := ⟨_, rfl⟩
  have T13 := Lib.hid h.symm
  clear h
  obtain ⟨p14, h⟩ : ∃ t, t = (p9 || t13) := ⟨_, rfl⟩
  have P14 := Lib.hid h.symm
  clear h
  obtain ⟨t18, h⟩ : ∃ t, t = decide ((99 : Int) < m.code) := ⟨_, rfl⟩
  have T18 := Lib.hid h.symm
  clear h
  obtain ⟨p19, h⟩ : ∃ t, t = (p14 || t18) := ⟨_, rfl⟩
  have P19 := Lib.hid h.symm
  clear h
  refine region_vseq [some 5, some 6, some 7, some 8, some 9, some 10, some 11, some 12, some 13, some 14, some 15, some 16, some 17, some 18, some 19, some 20, some 21, some 22, some 23, some 24] [.pointer (some ⟨w.heap.size, 3, none⟩), .int .i64 m.boot, .bool c2, .bool n3, .bool n3, cond n3 undef (.pointer (some ⟨w.heap.size, 4, none⟩)), cond n3 undef (.int .i64 m.seq), cond n3 undef (.bool c7), cond n3 undef (.bool n8), .bool p9, .bool p9, cond p9 undef (.pointer (some ⟨w.heap.size, 12, none⟩)), cond p9 undef (.int .i64 m.code), cond p9 undef (.bool t13), .bool p14, .bool p14, cond p14 undef (.pointer (some ⟨w.heap.size, 12, none⟩)), cond p14 undef (.int .i64 m.code), cond p14 undef (.bool t18), .bool p19] (fun y => y = w4) [[], [0], [0, 1], [0, 1, 2], [0, 1, 2, 3], [0, 1, 2, 3, 4], [0, 1, 2, 3, 4, 5], [0, 1, 2, 3, 4, 5, 6], [0, 1, 2, 3, 4, 5, 6, 7], [0, 1, 2, 3, 4, 5, 6, 7, 8], [0, 1, 2, 3, 4, 5, 6, 7, 8, 9], [0, 1, 2, 3, 4, 5, 6, 7, 8, 9, 10], [0, 1, 2, 3, 4, 5, 6, 7, 8, 9, 10, 11], [0, 1, 2, 3, 4, 5, 6, 7, 8, 9, 10, 11, 12], [0, 1, 2, 3, 4, 5, 6, 7, 8, 9, 10, 11, 12, 13], [0, 1, 2, 3, 4, 5, 6, 7, 8, 9, 10, 11, 12, 13, 14], [0, 1, 2, 3, 4, 5, 6, 7, 8, 9, 10, 11, 12, 13, 14, 15], [0, 1, 2, 3, 4, 5, 6, 7, 8, 9, 10, 11, 12, 13, 14, 15, 16], [0, 1, 2, 3, 4, 5, 6, 7, 8, 9, 10, 11, 12, 13, 14, 15, 16, 17], [0, 1, 2, 3, 4, 5, 6, 7, 8, 9, 10, 11, 12, 13, 14, 15, 16, 17, 18]] rfl (by kernel_rfl) (by kernel_rfl) (by kernel_rfl) (rfl) (Z := fun vs => ch _ vs 5 [19, 18, 17, 16, 15, 14, 13, 12, 11, 10, 9, 8, 7, 6, 5, 4, 3, 2, 1, 0]) (fun _ => rfl) ?_ ?_
  · skip
    refine VAll.snoc (i := 19) ?_ rfl rfl trivial ?_
    rotate_left
    · intro B y hI hL K E hK
      rw [hI]
      clear hI
      have t20 : B.tmps[20]? = some (.bool p14) := hL.at_ 15 (by decide) 20 rfl
      have t23 : B.tmps[23]? = some (cond p14 undef (.bool t18)) := hL.at_ 18 (by decide) 23 rfl
      clear hL
      refine Box.mk ?_
      rcases Bool.eq_false_or_eq_true p14 with hs | hs
      · simp only [hs, cond_true, cond_false] at t20 t23
        go_simp
        exact hK.out _ _ rfl (by change _ = (.bool p19 : Value); rw [← P19.out]; simp [hs])
      · simp only [hs, cond_true, cond_false] at t20 t23
        go_simp
        exact hK.out _ _ rfl (by change _ = (.bool p19 : Value); rw [← P19.out]; simp [hs])
    refine VAll.snoc (i := 18) ?_ rfl rfl idle_f ?_
    rotate_left
    · intro B y hI hL hg K E hK
      rw [hI]
      clear hI
      have hg : (.bool p14 : Value) = .bool false := hg
      have he0 := want_b hg
      clear hg
      have t22 : B.tmps[22]? = some (cond p14 undef (.int .i64 m.code)) := hL.at_ 17 (by decide) 22 rfl
      clear hL
      simp only [he0, cond_true, cond_false] at t22
      refine Box.mk ?_
      have hd := T18.out
      go_simp
      exact hK.out _ _ rfl (by change _ = cond _ _ _; simp only [he0, cond_true, cond_false])
    refine VAll.snoc (i := 17) ?_ rfl rfl idle_f ?_
    rotate_left
    · intro B y hI hL hg K E hK
      rw [hI]
      clear hI
      have hg : (.bool p14 : Value) = .bool false := hg
      have he0 := want_b hg
      clear hg
      have t21 : B.tmps[21]? = some (cond p14 undef (.pointer (some ⟨w.heap.size, 12, none⟩))) := hL.at_ 16 (by decide) 21 rfl
      clear hL
      simp only [he0, cond_true, cond_false] at t21
      refine Box.mk ?_
      go_simp
      exact hK.out _ _ rfl (by change _ = cond _ _ _; simp only [he0, cond_true, cond_false])
    refine VAll.snoc (i := 16) ?_ rfl rfl idle_f ?_
    rotate_left
    · intro B y hI hL hg K E hK
      rw [hI]
      clear hI
      have hg : (.bool p14 : Value) = .bool false := hg
      have he0 := want_b hg
      clear hg
      have t1 : B.tmps[1]? = some (.pointer (some ⟨w.heap.size, 0, none⟩)) := (hL.out 1 rfl).trans rfl
      clear hL
      refine Box.mk ?_
      go_simp
      exact hK.out _ _ rfl (by change _ = cond _ _ _; simp only [he0, cond_true, cond_false])
    refine VAll.snoc (i := 15) ?_ rfl rfl trivial ?_
    rotate_left
    · intro B y hI hL K E hK
      rw [hI]
      clear hI
      have t19 : B.tmps[19]? = some (.bool p14) := hL.at_ 14 (by decide) 19 rfl
      clear hL
      refine Box.mk ?_
      go_simp
      exact hK.out _ _ rfl rfl
    refine VAll.snoc (i := 14) ?_ rfl rfl trivial ?_
    rotate_left
    · intro B y hI hL K E hK
      rw [hI]
      clear hI
      have t15 : B.tmps[15]? = some (.bool p9) := hL.at_ 10 (by decide) 15 rfl
      have t18 : B.tmps[18]? = some (cond p9 undef (.bool t13)) := hL.at_ 13 (by decide) 18 rfl
      clear hL
      refine Box.mk ?_
      rcases Bool.eq_false_or_eq_true p9 with hs | hs
      · simp only [hs, cond_true, cond_false] at t15 t18
        go_simp
        exact hK.out _ _ rfl (by change _ = (.bool p14 : Value); rw [← P14.out]; simp [hs])
      · simp only [hs, cond_true, cond_false] at t15 t18
        go_simp
        exact hK.out _ _ rfl (by change _ = (.bool p14 : Value); rw [← P14.out]; simp [hs])
    refine VAll.snoc (i := 13) ?_ rfl rfl idle_f ?_
    rotate_left
    · intro B y hI hL hg K E hK
      rw [hI]
      clear hI
      have hg : (.bool p9 : Value) = .bool false := hg
      have he0 := want_b hg
      clear hg
      have t17 : B.tmps[17]? = some (cond p9 undef (.int .i64 m.code)) := hL.at_ 12 (by decide) 17 rfl
      clear hL
      simp only [he0, cond_true, cond_false] at t17
      refine Box.mk ?_
      have hd := T13.out
      go_simp
      exact hK.out _ _ rfl (by change _ = cond _ _ _; simp only [he0, cond_true, cond_false])
    refine VAll.snoc (i := 12) ?_ rfl rfl idle_f ?_
    rotate_left
    · intro B y hI hL hg K E hK
      rw [hI]
      clear hI
      have hg : (.bool p9 : Value) = .bool false := hg
      have he0 := want_b hg
      clear hg
      have t16 : B.tmps[16]? = some (cond p9 undef (.pointer (some ⟨w.heap.size, 12, none⟩))) := hL.at_ 11 (by decide) 16 rfl
      clear hL
      simp only [he0, cond_true, cond_false] at t16
      refine Box.mk ?_
      go_simp
      exact hK.out _ _ rfl (by change _ = cond _ _ _; simp only [he0, cond_true, cond_false])
    refine VAll.snoc (i := 11) ?_ rfl rfl idle_f ?_
    rotate_left
    · intro B y hI hL hg K E hK
      rw [hI]
      clear hI
      have hg : (.bool p9 : Value) = .bool false := hg
      have he0 := want_b hg
      clear hg
      have t1 : B.tmps[1]? = some (.pointer (some ⟨w.heap.size, 0, none⟩)) := (hL.out 1 rfl).trans rfl
      clear hL
      refine Box.mk ?_
      go_simp
      exact hK.out _ _ rfl (by change _ = cond _ _ _; simp only [he0, cond_true, cond_false])
    refine VAll.snoc (i := 10) ?_ rfl rfl trivial ?_
    rotate_left
    · intro B y hI hL K E hK
      rw [hI]
      clear hI
      have t14 : B.tmps[14]? = some (.bool p9) := hL.at_ 9 (by decide) 14 rfl
      clear hL
      refine Box.mk ?_
      go_simp
      exact hK.out _ _ rfl rfl
    refine VAll.snoc (i := 9) ?_ rfl rfl trivial ?_
    rotate_left
    · intro B y hI hL K E hK
      rw [hI]
      clear hI
      have t9 : B.tmps[9]? = some (.bool n3) := hL.at_ 4 (by decide) 9 rfl
      have t13 : B.tmps[13]? = some (cond n3 undef (.bool n8)) := hL.at_ 8 (by decide) 13 rfl
      clear hL
      refine Box.mk ?_
      rcases Bool.eq_false_or_eq_true n3 with hs | hs
      · simp only [hs, cond_true, cond_false] at t9 t13
        go_simp
        exact hK.out _ _ rfl (by change _ = (.bool p9 : Value); rw [← P9.out]; simp [hs])
      · simp only [hs, cond_true, cond_false] at t9 t13
        go_simp
        exact hK.out _ _ rfl (by change _ = (.bool p9 : Value); rw [← P9.out]; simp [hs])
    refine VAll.snoc (i := 8) ?_ rfl rfl idle_f ?_
    rotate_left
    · intro B y hI hL hg K E hK
      rw [hI]
      clear hI
      have hg : (.bool n3 : Value) = .bool false := hg
      have he0 := want_b hg
      clear hg
      have t12 : B.tmps[12]? = some (cond n3 undef (.bool c7)) := hL.at_ 7 (by decide) 12 rfl
      clear hL
      simp only [he0, cond_true, cond_false] at t12
      refine Box.mk ?_
      have hd := N8.out
      go_simp
      exact hK.out _ _ rfl (by change _ = cond _ _ _; simp only [he0, cond_true, cond_false])
    refine VAll.snoc (i := 7) ?_ rfl rfl idle_f ?_
    rotate_left
    · intro B y hI hL hg K E hK
      rw [hI]
      clear hI
      have hg : (.bool n3 : Value) = .bool false := hg
      have he0 := want_b hg
      clear hg
      have t11 : B.tmps[11]? = some (cond n3 undef (.int .i64 m.seq)) := hL.at_ 6 (by decide) 11 rfl
      clear hL
      simp only [he0, cond_true, cond_false] at t11
      refine Box.mk ?_
      go_simp
      with_reducible refine (RefCounter_any m.seq w4).mono ?_
      rintro e w5 ⟨rfl, rfl⟩
      rw [C7.out]
      go_simp
      exact hK.out _ _ rfl (by change _ = cond _ _ _; simp only [he0, cond_true, cond_false])
    refine VAll.snoc (i := 6) ?_ rfl rfl idle_f ?_
    rotate_left
    · intro B y hI hL hg K E hK
      rw [hI]
      clear hI
      have hg : (.bool n3 : Value) = .bool false := hg
      have he0 := want_b hg
      clear hg
      have t10 : B.tmps[10]? = some (cond n3 undef (.pointer (some ⟨w.heap.size, 4, none⟩))) := hL.at_ 5 (by decide) 10 rfl
      clear hL
      simp only [he0, cond_true, cond_false] at t10
      refine Box.mk ?_
      go_simp
      exact hK.out _ _ rfl (by change _ = cond _ _ _; simp only [he0, cond_true, cond_false])
    refine VAll.snoc (i := 5) ?_ rfl rfl idle_f ?_
    rotate_left
    · intro B y hI hL hg K E hK
      rw [hI]
      clear hI
      have hg : (.bool n3 : Value) = .bool false := hg
      have he0 := want_b hg
      clear hg
      have t1 : B.tmps[1]? = some (.pointer (some ⟨w.heap.size, 0, none⟩)) := (hL.out 1 rfl).trans rfl
      clear hL
      refine Box.mk ?_
      go_simp
      exact hK.out _ _ rfl (by change _ = cond _ _ _; simp only [he0, cond_true, cond_false])
    refine VAll.snoc (i := 4) ?_ rfl rfl trivial ?_
    rotate_left
    · intro B y hI hL K E hK
      rw [hI]
      clear hI
      have t8 : B.tmps[8]? = some (.bool n3) := hL.at_ 3 (by decide) 8 rfl
      clear hL
      refine Box.mk ?_
      go_simp
      exact hK.out _ _ rfl rfl
    refine VAll.snoc (i := 3) ?_ rfl rfl trivial ?_
    rotate_left
    · intro B y hI hL K E hK
      rw [hI]
      clear hI
      have t7 : B.tmps[7]? = some (.bool c2) := hL.at_ 2 (by decide) 7 rfl
      clear hL
      refine Box.mk ?_
      have hd := N3.out
      go_simp
      exact hK.out _ _ rfl rfl
    refine VAll.snoc (i := 2) ?_ rfl rfl trivial ?_
    rotate_left
    · intro B y hI hL K E hK
      rw [hI]
      clear hI
      have t6 : B.tmps[6]? = some (.int .i64 m.boot) := hL.at_ 1 (by decide) 6 rfl
      clear hL
      refine Box.mk ?_
      go_simp
      with_reducible refine (RefCounter_any m.boot w4).mono ?_
      rintro e w5 ⟨rfl, rfl⟩
      rw [C2.out]
      go_simp
      exact hK.out _ _ rfl rfl
    refine VAll.snoc (i := 1) ?_ rfl rfl trivial ?_
    rotate_left
    · intro B y hI hL K E hK
      rw [hI]
      clear hI
      have t5 : B.tmps[5]? = some (.pointer (some ⟨w.heap.size, 3, none⟩)) := hL.at_ 0 (by decide) 5 rfl
      clear hL
      refine Box.mk ?_
      go_simp
      exact hK.out _ _ rfl rfl
    refine VAll.snoc (i := 0) ?_ rfl rfl trivial ?_
    rotate_left
    · intro B y hI hL K E hK
      rw [hI]
      clear hI
      have t1 : B.tmps[1]? = some (.pointer (some ⟨w.heap.size, 0, none⟩)) := (hL.out 1 rfl).trans rfl
      clear hL
      refine Box.mk ?_
      go_simp
      exact hK.out _ _ rfl rfl
    exact VAll.nil
  · intro vs y hI hall
    have e19 : vs 19 = .bool p19 := hall 19 (by decide)
    clear hall
    refine Box.mk ?_
    simp only [e19, ch, cq, allPut, puts, Act.put, List.setIfInBounds_toArray, List.set_cons_zero, List.set_cons_succ]
    clear e19
    subst hI
    have HE := Lib.hid (show p19 = ((((!SM.count m.boot) || (!SM.count m.seq)) || decide ((m.code : Int) < 0)) || decide ((99 : Int) < m.code)) by rw [← P19.out, ← T18.out, ← P14.out, ← T13.out, ← P9.out, ← N8.out, ← C7.out, ← N3.out, ← C2.out])
    cases hv : p19 with
    | true =>
      have HV := Lib.hid (rep_no (m := m) (by have h := HE.out; rw [hv] at h; exact h.symm))
      clear hv
      go_wp2_with fail
      go_ret
      exact ⟨ret_bool HV.out.symm, HX.out⟩
    | false =>
      have HV := Lib.hid (rep_yes (m := m) (by have h := HE.out; rw [hv] at h; exact h.symm))
      clear hv HE
      by_cases hc : m.code = 0
      · skip
        have CZ := Lib.hid hc
        rw [hc] at c12
        clear hc
        go_upto_region 5 with (fail)
        rw [← CZ.out] at c12
        obtain ⟨ta2, h⟩ : ∃ t, t = ((m.term : Int) == 0) := ⟨_, rfl⟩
        have TA2 := Lib.hid h.symm
        clear h
        obtain ⟨ta7, h⟩ : ∃ t, t = (((m.stamp.length : Int) : Int) == 0) := ⟨_, rfl⟩
        have TA7 := Lib.hid h.symm
        clear h
        obtain ⟨pa8, h⟩ : ∃ t, t = (ta2 && ta7) := ⟨_, rfl⟩
        have PA8 := Lib.hid h.symm
        clear h
        refine region_vseq [some 28, some 29, some 30, some 31, some 32, some 33, some 34, some 35, some 36, some 3] [.pointer (some ⟨w.heap.size, 9, none⟩), .int .i64 m.term, .bool ta2, .bool ta2, cond ta2 (.pointer (some ⟨w.heap.size, 13, none⟩)) undef, cond ta2 (.slice A m.stamp.length c) undef, cond ta2 (.int .i64 (m.stamp.length : Int)) undef, cond ta2 (.bool ta7) undef, .bool pa8, .bool pa8] (fun y2 => y2 = y) [[], [0], [0, 1], [0, 1, 2], [0, 1, 2, 3], [0, 1, 2, 3, 4], [0, 1, 2, 3, 4, 5], [0, 1, 2, 3, 4, 5, 6], [0, 1, 2, 3, 4, 5, 6, 7], [0, 1, 2, 3, 4, 5, 6, 7, 8]] rfl (by kernel_rfl) (by kernel_rfl) (by kernel_rfl) (rfl) (Z := fun vs => cq _ vs [(3, 9), (36, 8), (35, 7), (34, 6), (33, 5), (32, 4), (31, 3), (30, 2), (29, 1), (28, 0)]) (fun _ => rfl) ?_ ?_
        · skip
          refine VAll.snoc (i := 9) ?_ rfl rfl trivial ?_
          rotate_left
          · intro B y2 hI hL K E hK
            rw [hI]
            clear hI
            have t36 : B.tmps[36]? = some (.bool pa8) := hL.at_ 8 (by decide) 36 rfl
            clear hL
            refine Box.mk ?_
            go_simp
            exact hK.out _ _ rfl rfl
          refine VAll.snoc (i := 8) ?_ rfl rfl trivial ?_
          rotate_left
          · intro B y2 hI hL K E hK
            rw [hI]
            clear hI
            have t31 : B.tmps[31]? = some (.bool ta2) := hL.at_ 3 (by decide) 31 rfl
            have t35 : B.tmps[35]? = some (cond ta2 (.bool ta7) undef) := hL.at_ 7 (by decide) 35 rfl
            clear hL
            refine Box.mk ?_
            rcases Bool.eq_false_or_eq_true ta2 with hs | hs
            · simp only [hs, cond_true, cond_false] at t31 t35
              go_simp
              exact hK.out _ _ rfl (by change _ = (.bool pa8 : Value); rw [← PA8.out]; simp [hs])
            · simp only [hs, cond_true, cond_false] at t31 t35
              go_simp
              exact hK.out _ _ rfl (by change _ = (.bool pa8 : Value); rw [← PA8.out]; simp [hs])
          refine VAll.snoc (i := 7) ?_ rfl rfl idle_t ?_
          rotate_left
          · intro B y2 hI hL hg K E hK
            rw [hI]
            clear hI
            have hg : (.bool ta2 : Value) = .bool true := hg
            have he0 := want_b hg
            clear hg
            have t34 : B.tmps[34]? = some (cond ta2 (.int .i64 (m.stamp.length : Int)) undef) := hL.at_ 6 (by decide) 34 rfl
            clear hL
            simp only [he0, cond_true, cond_false] at t34
            refine Box.mk ?_
            have hd := TA7.out
            go_simp
            exact hK.out _ _ rfl (by change _ = cond _ _ _; simp only [he0, cond_true, cond_false])
          refine VAll.snoc (i := 6) ?_ rfl rfl idle_t ?_
          rotate_left
          · intro B y2 hI hL hg K E hK
            rw [hI]
            clear hI
            have hg : (.bool ta2 : Value) = .bool true := hg
            have he0 := want_b hg
            clear hg
            have t33 : B.tmps[33]? = some (cond ta2 (.slice A m.stamp.length c) undef) := hL.at_ 5 (by decide) 33 rfl
            clear hL
            simp only [he0, cond_true, cond_false] at t33
            refine Box.mk ?_
            go_simp
            exact hK.out _ _ rfl (by change _ = cond _ _ _; simp only [he0, cond_true, cond_false])
          refine VAll.snoc (i := 5) ?_ rfl rfl idle_t ?_
          rotate_left
          · intro B y2 hI hL hg K E hK
            rw [hI]
            clear hI
            have hg : (.bool ta2 : Value) = .bool true := hg
            have he0 := want_b hg
            clear hg
            have t32 : B.tmps[32]? = some (cond ta2 (.pointer (some ⟨w.heap.size, 13, none⟩)) undef) := hL.at_ 4 (by decide) 32 rfl
            clear hL
            simp only [he0, cond_true, cond_false] at t32
            refine Box.mk ?_
            go_simp
            exact hK.out _ _ rfl (by change _ = cond _ _ _; simp only [he0, cond_true, cond_false])
          refine VAll.snoc (i := 4) ?_ rfl rfl idle_t ?_
          rotate_left
          · intro B y2 hI hL hg K E hK
            rw [hI]
            clear hI
            have hg : (.bool ta2 : Value) = .bool true := hg
            have he0 := want_b hg
            clear hg
            have t1 : B.tmps[1]? = some (.pointer (some ⟨w.heap.size, 0, none⟩)) := (hL.out 1 rfl).trans rfl
            clear hL
            refine Box.mk ?_
            go_simp
            exact hK.out _ _ rfl (by change _ = cond _ _ _; simp only [he0, cond_true, cond_false])
          refine VAll.snoc (i := 3) ?_ rfl rfl trivial ?_
          rotate_left
          · intro B y2 hI hL K E hK
            rw [hI]
            clear hI
            have t30 : B.tmps[30]? = some (.bool ta2) := hL.at_ 2 (by decide) 30 rfl
            clear hL
            refine Box.mk ?_
            go_simp
            exact hK.out _ _ rfl rfl
          refine VAll.snoc (i := 2) ?_ rfl rfl trivial ?_
          rotate_left
          · intro B y2 hI hL K E hK
            rw [hI]
            clear hI
            have t29 : B.tmps[29]? = some (.int .i64 m.term) := hL.at_ 1 (by decide) 29 rfl
            clear hL
            refine Box.mk ?_
            have hd := TA2.out
            go_simp
            exact hK.out _ _ rfl rfl
          refine VAll.snoc (i := 1) ?_ rfl rfl trivial ?_
          rotate_left
          · intro B y2 hI hL K E hK
            rw [hI]
            clear hI
            have t28 : B.tmps[28]? = some (.pointer (some ⟨w.heap.size, 9, none⟩)) := hL.at_ 0 (by decide) 28 rfl
            clear hL
            refine Box.mk ?_
            go_simp
            exact hK.out _ _ rfl rfl
          refine VAll.snoc (i := 0) ?_ rfl rfl trivial ?_
          rotate_left
          · intro B y2 hI hL K E hK
            rw [hI]
            clear hI
            have t1 : B.tmps[1]? = some (.pointer (some ⟨w.heap.size, 0, none⟩)) := (hL.out 1 rfl).trans rfl
            clear hL
            refine Box.mk ?_
            go_simp
            exact hK.out _ _ rfl rfl
          exact VAll.nil
        · intro vs y2 hI hall
          have e9 : vs 9 = .bool pa8 := hall 9 (by decide)
          clear hall
          refine Box.mk ?_
          simp only [e9, ch, cq, allPut, puts, Act.put, List.setIfInBounds_toArray, List.set_cons_zero, List.set_cons_succ]
          subst hI
          have HN := Lib.hid (show pa8 = (((m.term : Int) == 0) && (((m.stamp.length : Int) : Int) == 0)) by rw [← PA8.out, ← TA7.out, ← TA2.out])
          clear e9
          go_upto_region 6 with (fail)
          obtain ⟨cb2, h⟩ : ∃ t, t = TM.legal m.term := ⟨_, rfl⟩
          have CB2 := Lib.hid h.symm
          clear h
          obtain ⟨tb7, h⟩ : ∃ t, t = decide ((0 : Int) < (m.stamp.length : Int)) := ⟨_, rfl⟩
          have TB7 := Lib.hid h.symm
          clear h
          obtain ⟨pb8, h⟩ : ∃ t, t = (cb2 && tb7) := ⟨_, rfl⟩
          have PB8 := Lib.hid h.symm
          clear h
          refine region_vseq [some 37, some 38, some 39, some 40, some 41, some 42, some 43, some 44, some 45, some 4] [.pointer (some ⟨w.heap.size, 9, none⟩), .int .i64 m.term, .bool cb2, .bool cb2, cond cb2 (.pointer (some ⟨w.heap.size, 13, none⟩)) undef, cond cb2 (.slice A m.stamp.length c) undef, cond cb2 (.int .i64 (m.stamp.length : Int)) undef, cond cb2 (.bool tb7) undef, .bool pb8, .bool pb8] (fun y3 => y3 = y2) [[], [0], [0, 1], [0, 1, 2], [0, 1, 2, 3], [0, 1, 2, 3, 4], [0, 1, 2, 3, 4, 5], [0, 1, 2, 3, 4, 5, 6], [0, 1, 2, 3, 4, 5, 6, 7], [0, 1, 2, 3, 4, 5, 6, 7, 8]] rfl (by kernel_rfl) (by kernel_rfl) (by kernel_rfl) (rfl) (Z := fun vs => cq _ vs [(4, 9), (45, 8), (44, 7), (43, 6), (42, 5), (41, 4), (40, 3), (39, 2), (38, 1), (37, 0)]) (fun _ => rfl) ?_ ?_
          · skip
            refine VAll.snoc (i := 9) ?_ rfl rfl trivial ?_
            rotate_left
            · intro B y3 hI hL K E hK
              rw [hI]
              clear hI
              have t45 : B.tmps[45]? = some (.bool pb8) := hL.at_ 8 (by decide) 45 rfl
              clear hL
              refine Box.mk ?_
              go_simp
              exact hK.out _ _ rfl rfl
            refine VAll.snoc (i := 8) ?_ rfl rfl trivial ?_
            rotate_left
            · intro B y3 hI hL K E hK
              rw [hI]
              clear hI
              have t40 : B.tmps[40]? = some (.bool cb2) := hL.at_ 3 (by decide) 40 rfl
              have t44 : B.tmps[44]? = some (cond cb2 (.bool tb7) undef) := hL.at_ 7 (by decide) 44 rfl
              clear hL
              refine Box.mk ?_
              rcases Bool.eq_false_or_eq_true cb2 with hs | hs
              · simp only [hs, cond_true, cond_false] at t40 t44
                go_simp
                exact hK.out _ _ rfl (by change _ = (.bool pb8 : Value); rw [← PB8.out]; simp [hs])
              · simp only [hs, cond_true, cond_false] at t40 t44
                go_simp
                exact hK.out _ _ rfl (by change _ = (.bool pb8 : Value); rw [← PB8.out]; simp [hs])
            refine VAll.snoc (i := 7) ?_ rfl rfl idle_t ?_
            rotate_left
            · intro B y3 hI hL hg K E hK
              rw [hI]
              clear hI
              have hg : (.bool cb2 : Value) = .bool true := hg
              have he0 := want_b hg
              clear hg
              have t43 : B.tmps[43]? = some (cond cb2 (.int .i64 (m.stamp.length : Int)) undef) := hL.at_ 6 (by decide) 43 rfl
              clear hL
              simp only [he0, cond_true, cond_false] at t43
              refine Box.mk ?_
              have hd := TB7.out
              have hd2 : decide (0 < m.stamp.length) = tb7 := by rw [← TB7.out]; simp
              go_simp
              exact hK.out _ _ rfl (by change _ = cond _ _ _; simp only [he0, cond_true, cond_false])
            refine VAll.snoc (i := 6) ?_ rfl rfl idle_t ?_
            rotate_left
            · intro B y3 hI hL hg K E hK
              rw [hI]
              clear hI
              have hg : (.bool cb2 : Value) = .bool true := hg
              have he0 := want_b hg
              clear hg
              have t42 : B.tmps[42]? = some (cond cb2 (.slice A m.stamp.length c) undef) := hL.at_ 5 (by decide) 42 rfl
              clear hL
              simp only [he0, cond_true, cond_false] at t42
              refine Box.mk ?_
              go_simp
              exact hK.out _ _ rfl (by change _ = cond _ _ _; simp only [he0, cond_true, cond_false])
            refine VAll.snoc (i := 5) ?_ rfl rfl idle_t ?_
            rotate_left
            · intro B y3 hI hL hg K E hK
              rw [hI]
              clear hI
              have hg : (.bool cb2 : Value) = .bool true := hg
              have he0 := want_b hg
              clear hg
              have t41 : B.tmps[41]? = some (cond cb2 (.pointer (some ⟨w.heap.size, 13, none⟩)) undef) := hL.at_ 4 (by decide) 41 rfl
              clear hL
              simp only [he0, cond_true, cond_false] at t41
              refine Box.mk ?_
              go_simp
              exact hK.out _ _ rfl (by change _ = cond _ _ _; simp only [he0, cond_true, cond_false])
            refine VAll.snoc (i := 4) ?_ rfl rfl idle_t ?_
            rotate_left
            · intro B y3 hI hL hg K E hK
              rw [hI]
              clear hI
              have hg : (.bool cb2 : Value) = .bool true := hg
              have he0 := want_b hg
              clear hg
              have t1 : B.tmps[1]? = some (.pointer (some ⟨w.heap.size, 0, none⟩)) := (hL.out 1 rfl).trans rfl
              clear hL
              refine Box.mk ?_
              go_simp
              exact hK.out _ _ rfl (by change _ = cond _ _ _; simp only [he0, cond_true, cond_false])
            refine VAll.snoc (i := 3) ?_ rfl rfl trivial ?_
            rotate_left
            · intro B y3 hI hL K E hK
              rw [hI]
              clear hI
              have t39 : B.tmps[39]? = some (.bool cb2) := hL.at_ 2 (by decide) 39 rfl
              clear hL
              refine Box.mk ?_
              go_simp
              exact hK.out _ _ rfl rfl
            refine VAll.snoc (i := 2) ?_ rfl rfl trivial ?_
            rotate_left
            · intro B y3 hI hL K E hK
              rw [hI]
              clear hI
              have t38 : B.tmps[38]? = some (.int .i64 m.term) := hL.at_ 1 (by decide) 38 rfl
              clear hL
              refine Box.mk ?_
              go_simp
              with_reducible refine (RefLegal_any m.term y2 HWD.out.term.rng).mono ?_
              rintro e w5 ⟨rfl, rfl⟩
              rw [CB2.out]
              go_simp
              exact hK.out _ _ rfl rfl
            refine VAll.snoc (i := 1) ?_ rfl rfl trivial ?_
            rotate_left
            · intro B y3 hI hL K E hK
              rw [hI]
              clear hI
              have t37 : B.tmps[37]? = some (.pointer (some ⟨w.heap.size, 9, none⟩)) := hL.at_ 0 (by decide) 37 rfl
              clear hL
              refine Box.mk ?_
              go_simp
              exact hK.out _ _ rfl rfl
            refine VAll.snoc (i := 0) ?_ rfl rfl trivial ?_
            rotate_left
            · intro B y3 hI hL K E hK
              rw [hI]
              clear hI
              have t1 : B.tmps[1]? = some (.pointer (some ⟨w.heap.size, 0, none⟩)) := (hL.out 1 rfl).trans rfl
              clear hL
              refine Box.mk ?_
              go_simp
              exact hK.out _ _ rfl rfl
            exact VAll.nil
          · intro vs y3 hI hall
            have e9 : vs 9 = .bool pb8 := hall 9 (by decide)
            clear hall
            refine Box.mk ?_
            simp only [e9, ch, cq, allPut, puts, Act.put, List.setIfInBounds_toArray, List.set_cons_zero, List.set_cons_succ]
            subst hI
            have HSO := Lib.hid (show pb8 = (TM.legal m.term && decide ((0 : Int) < (m.stamp.length : Int))) by rw [← PB8.out, ← TB7.out, ← CB2.out])
            skip
            skip
            clear e9
            go_upto_region 7 with (fail)
            obtain ⟨cc2, h⟩ : ∃ t, t = SM.count m.id := ⟨_, rfl⟩
            have CC2 := Lib.hid h.symm
            clear h
            obtain ⟨cc6, h⟩ : ∃ t, t = SM.valid m.stamp := ⟨_, rfl⟩
            have CC6 := Lib.hid h.symm
            clear h
            obtain ⟨pc7, h⟩ : ∃ t, t = (cc2 && cc6) := ⟨_, rfl⟩
            have PC7 := Lib.hid h.symm
            clear h
            obtain ⟨pc12, h⟩ : ∃ t, t = (pa8 || pb8) := ⟨_, rfl⟩
            have PC12 := Lib.hid h.symm
            clear h
            obtain ⟨pc13, h⟩ : ∃ t, t = (pc7 && pc12) := ⟨_, rfl⟩
            have PC13 := Lib.hid h.symm
            clear h
            refine region_vseq [some 46, some 47, some 48, some 49, some 50, some 51, some 52, some 53, some 54, some 55, some 56, some 57, some 58, some 59, some 2] [.pointer (some ⟨w.heap.size, 10, none⟩), .int .i64 m.id, .bool cc2, .bool cc2, cond cc2 (.pointer (some ⟨w.heap.size, 13, none⟩)) undef, cond cc2 (.slice A m.stamp.length c) undef, cond cc2 (.bool cc6) undef, .bool pc7, .bool pc7, cond pc7 (.bool pa8) undef, cond pc7 (.bool pa8) undef, cond pc7 (cond pa8 undef (.bool pb8)) undef, cond pc7 (.bool pc12) undef, .bool pc13, .bool pc13] (fun y4 => y4 = y3) [[], [0], [0, 1], [0, 1, 2], [0, 1, 2, 3], [0, 1, 2, 3, 4], [0, 1, 2, 3, 4, 5], [0, 1, 2, 3, 4, 5, 6], [0, 1, 2, 3, 4, 5, 6, 7], [0, 1, 2, 3, 4, 5, 6, 7, 8], [0, 1, 2, 3, 4, 5, 6, 7, 8, 9], [0, 1, 2, 3, 4, 5, 6, 7, 8, 9, 10], [0, 1, 2, 3, 4, 5, 6, 7, 8, 9, 10, 11], [0, 1, 2, 3, 4, 5, 6, 7, 8, 9, 10, 11, 12], [0, 1, 2, 3, 4, 5, 6, 7, 8, 9, 10, 11, 12, 13]] rfl (by kernel_rfl) (by kernel_rfl) (by kernel_rfl) (rfl) (Z := fun vs => cq _ vs [(2, 14), (59, 13), (58, 12), (57, 11), (56, 10), (55, 9), (54, 8), (53, 7), (52, 6), (51, 5), (50, 4), (49, 3), (48, 2), (47, 1), (46, 0)]) (fun _ => rfl) ?_ ?_
            · skip
              refine VAll.snoc (i := 14) ?_ rfl rfl trivial ?_
              rotate_left
              · intro B y4 hI hL K E hK
                rw [hI]
                clear hI
                have t59 : B.tmps[59]? = some (.bool pc13) := hL.at_ 13 (by decide) 59 rfl
                clear hL
                refine Box.mk ?_
                go_simp
                exact hK.out _ _ rfl rfl
              refine VAll.snoc (i := 13) ?_ rfl rfl trivial ?_
              rotate_left
              · intro B y4 hI hL K E hK
                rw [hI]
                clear hI
                have t54 : B.tmps[54]? = some (.bool pc7) := hL.at_ 8 (by decide) 54 rfl
                have t58 : B.tmps[58]? = some (cond pc7 (.bool pc12) undef) := hL.at_ 12 (by decide) 58 rfl
                clear hL
                refine Box.mk ?_
                rcases Bool.eq_false_or_eq_true pc7 with hs | hs
                · simp only [hs, cond_true, cond_false] at t54 t58
                  go_simp
                  exact hK.out _ _ rfl (by change _ = (.bool pc13 : Value); rw [← PC13.out]; simp [hs])
                · simp only [hs, cond_true, cond_false] at t54 t58
                  go_simp
                  exact hK.out _ _ rfl (by change _ = (.bool pc13 : Value); rw [← PC13.out]; simp [hs])
              refine VAll.snoc (i := 12) ?_ rfl rfl idle_t ?_
              rotate_left
              · intro B y4 hI hL hg K E hK
                rw [hI]
                clear hI
                have hg : (.bool pc7 : Value) = .bool true := hg
                have he0 := want_b hg
                clear hg
                have t56 : B.tmps[56]? = some (cond pc7 (.bool pa8) undef) := hL.at_ 10 (by decide) 56 rfl
                have t57 : B.tmps[57]? = some (cond pc7 (cond pa8 undef (.bool pb8)) undef) := hL.at_ 11 (by decide) 57 rfl
                clear hL
                simp only [he0, cond_true, cond_false] at t56 t57
                refine Box.mk ?_
                rcases Bool.eq_false_or_eq_true pa8 with hs | hs
                · simp only [hs, cond_true, cond_false] at t56 t57
                  go_simp
                  exact hK.out _ _ rfl (by change _ = (cond pc7 (.bool pc12) undef : Value); rw [← PC12.out]; simp [he0, hs])
                · simp only [hs, cond_true, cond_false] at t56 t57
                  go_simp
                  exact hK.out _ _ rfl (by change _ = (cond pc7 (.bool pc12) undef : Value); rw [← PC12.out]; simp [he0, hs])
              refine VAll.snoc (i := 11) ?_ rfl rfl (idle_in_t idle_f) ?_
              rotate_left
              · intro B y4 hI hL hg K E hK
                rw [hI]
                clear hI
                have hg : (cond pc7 (.bool pa8) undef : Value) = .bool false := hg
                obtain ⟨he0, hg⟩ := want_t hg
                have he1 := want_b hg
                clear hg
                have t4 : B.tmps[4]? = some (.bool pb8) := (hL.out 4 rfl).trans rfl
                clear hL
                refine Box.mk ?_
                go_simp
                exact hK.out _ _ rfl (by change _ = cond _ _ _; simp only [he0, he1, cond_true, cond_false])
              refine VAll.snoc (i := 10) ?_ rfl rfl idle_t ?_
              rotate_left
              · intro B y4 hI hL hg K E hK
                rw [hI]
                clear hI
                have hg : (.bool pc7 : Value) = .bool true := hg
                have he0 := want_b hg
                clear hg
                have t55 : B.tmps[55]? = some (cond pc7 (.bool pa8) undef) := hL.at_ 9 (by decide) 55 rfl
                clear hL
                simp only [he0, cond_true, cond_false] at t55
                refine Box.mk ?_
                go_simp
                exact hK.out _ _ rfl (by change _ = cond _ _ _; simp only [he0, cond_true, cond_false])
              refine VAll.snoc (i := 9) ?_ rfl rfl idle_t ?_
              rotate_left
              · intro B y4 hI hL hg K E hK
                rw [hI]
                clear hI
                have hg : (.bool pc7 : Value) = .bool true := hg
                have he0 := want_b hg
                clear hg
                have t3 : B.tmps[3]? = some (.bool pa8) := (hL.out 3 rfl).trans rfl
                clear hL
                refine Box.mk ?_
                go_simp
                exact hK.out _ _ rfl (by change _ = cond _ _ _; simp only [he0, cond_true, cond_false])
              refine VAll.snoc (i := 8) ?_ rfl rfl trivial ?_
              rotate_left
              · intro B y4 hI hL K E hK
                rw [hI]
                clear hI
                have t53 : B.tmps[53]? = some (.bool pc7) := hL.at_ 7 (by decide) 53 rfl
                clear hL
                refine Box.mk ?_
                go_simp
                exact hK.out _ _ rfl rfl
              refine VAll.snoc (i := 7) ?_ rfl rfl trivial ?_
              rotate_left
              · intro B y4 hI hL K E hK
                rw [hI]
                clear hI
                have t49 : B.tmps[49]? = some (.bool cc2) := hL.at_ 3 (by decide) 49 rfl
                have t52 : B.tmps[52]? = some (cond cc2 (.bool cc6) undef) := hL.at_ 6 (by decide) 52 rfl
                clear hL
                refine Box.mk ?_
                rcases Bool.eq_false_or_eq_true cc2 with hs | hs
                · simp only [hs, cond_true, cond_false] at t49 t52
                  go_simp
                  exact hK.out _ _ rfl (by change _ = (.bool pc7 : Value); rw [← PC7.out]; simp [hs])
                · simp only [hs, cond_true, cond_false] at t49 t52
                  go_simp
                  exact hK.out _ _ rfl (by change _ = (.bool pc7 : Value); rw [← PC7.out]; simp [hs])
              refine VAll.snoc (i := 6) ?_ rfl rfl idle_t ?_
              rotate_left
              · intro B y4 hI hL hg K E hK
                rw [hI]
                clear hI
                have hg : (.bool cc2 : Value) = .bool true := hg
                have he0 := want_b hg
                clear hg
                have t51 : B.tmps[51]? = some (cond cc2 (.slice A m.stamp.length c) undef) := hL.at_ 5 (by decide) 51 rfl
                clear hL
                simp only [he0, cond_true, cond_false] at t51
                refine Box.mk ?_
                go_simp
                with_reducible refine (St.RefValid_any A c m.stamp y3 (HI.out) HLE.out HCP.out).mono ?_
                rintro e w5 ⟨rfl, rfl⟩
                rw [CC6.out]
                go_simp
                exact hK.out _ _ rfl (by change _ = cond _ _ _; simp only [he0, cond_true, cond_false])
              refine VAll.snoc (i := 5) ?_ rfl rfl idle_t ?_
              rotate_left
              · intro B y4 hI hL hg K E hK
                rw [hI]
                clear hI
                have hg : (.bool cc2 : Value) = .bool true := hg
                have he0 := want_b hg
                clear hg
                have t50 : B.tmps[50]? = some (cond cc2 (.pointer (some ⟨w.heap.size, 13, none⟩)) undef) := hL.at_ 4 (by decide) 50 rfl
                clear hL
                simp only [he0, cond_true, cond_false] at t50
                refine Box.mk ?_
                go_simp
                exact hK.out _ _ rfl (by change _ = cond _ _ _; simp only [he0, cond_true, cond_false])
              refine VAll.snoc (i := 4) ?_ rfl rfl idle_t ?_
              rotate_left
              · intro B y4 hI hL hg K E hK
                rw [hI]
                clear hI
                have hg : (.bool cc2 : Value) = .bool true := hg
                have he0 := want_b hg
                clear hg
                have t1 : B.tmps[1]? = some (.pointer (some ⟨w.heap.size, 0, none⟩)) := (hL.out 1 rfl).trans rfl
                clear hL
                refine Box.mk ?_
                go_simp
                exact hK.out _ _ rfl (by change _ = cond _ _ _; simp only [he0, cond_true, cond_false])
              refine VAll.snoc (i := 3) ?_ rfl rfl trivial ?_
              rotate_left
              · intro B y4 hI hL K E hK
                rw [hI]
                clear hI
                have t48 : B.tmps[48]? = some (.bool cc2) := hL.at_ 2 (by decide) 48 rfl
                clear hL
                refine Box.mk ?_
                go_simp
                exact hK.out _ _ rfl rfl
              refine VAll.snoc (i := 2) ?_ rfl rfl trivial ?_
              rotate_left
              · intro B y4 hI hL K E hK
                rw [hI]
                clear hI
                have t47 : B.tmps[47]? = some (.int .i64 m.id) := hL.at_ 1 (by decide) 47 rfl
                clear hL
                refine Box.mk ?_
                go_simp
                with_reducible refine (RefCounter_any m.id y3).mono ?_
                rintro e w5 ⟨rfl, rfl⟩
                rw [CC2.out]
                go_simp
                exact hK.out _ _ rfl rfl
              refine VAll.snoc (i := 1) ?_ rfl rfl trivial ?_
              rotate_left
              · intro B y4 hI hL K E hK
                rw [hI]
                clear hI
                have t46 : B.tmps[46]? = some (.pointer (some ⟨w.heap.size, 10, none⟩)) := hL.at_ 0 (by decide) 46 rfl
                clear hL
                refine Box.mk ?_
                go_simp
                exact hK.out _ _ rfl rfl
              refine VAll.snoc (i := 0) ?_ rfl rfl trivial ?_
              rotate_left
              · intro B y4 hI hL K E hK
                rw [hI]
                clear hI
                have t1 : B.tmps[1]? = some (.pointer (some ⟨w.heap.size, 0, none⟩)) := (hL.out 1 rfl).trans rfl
                clear hL
                refine Box.mk ?_
                go_simp
                exact hK.out _ _ rfl rfl
              exact VAll.nil
            · intro vs y4 hI hall
              have e14 : vs 14 = .bool pc13 := hall 14 (by decide)
              clear hall
              refine Box.mk ?_
              simp only [e14, ch, cq, allPut, puts, Act.put, List.setIfInBounds_toArray, List.set_cons_zero, List.set_cons_succ]
              subst hI
              have HE := Lib.hid (show pc13 = ((SM.count m.id && SM.valid m.stamp) && (pa8 || pb8)) by rw [← PC13.out, ← PC12.out, ← PC7.out, ← CC6.out, ← CC2.out])
              have HW := Lib.hid (show WM.mayReply m = pc13 by rw [HV.out, HE.out, HN.out, HSO.out, rep_give, CZ.out]; rfl)
              clear e14
              go_wp2_with fail
              go_ret
              exact ⟨ret_bool HW.out.symm, HX.out⟩
      · have HW := Lib.hid (show WM.mayReply m = true by rw [HV.out, decide_eq_true hc]; rfl)
        have d1 : (m.code != 0) = true := by simpa using hc
        clear hc
        go_wp2_with fail
        go_ret
        exact ⟨ret_bool HW.out.symm, HX.out⟩
end Go.Proofs.Ytboflkadabagfaa
namespace Go.Proofs.Ytboflkadabagfaa
open Go.RowKit
open Oct (BytesAt u8s)
open WM (Msg)
set_option linter.unusedVariables false
set_option linter.unusedSimpArgs false
set_option maxRecDepth 100000
theorem val_no {m : Msg} (h : (((!decide (WM.used m = m)) || (!WM.node m.frm)) || (m.frm == m.dst)) = true) : WM.valid m = false := by
  unfold WM.valid WM.may WM.mayGo
  cases h1 : WM.node m.frm
  · simp
  · by_cases h2 : WM.used m = m
    · simp only [h1, h2, decide_true, Bool.not_true, Bool.false_or, beq_iff_eq] at h
      have hn := WM.node_rng h1
      by_cases hk : m.kind = 5
      · have : WM.gate m.dst = false := by
          cases hg : WM.gate m.dst
          · rfl
          · have := WM.gate_rng hg; omega
        simp [hk, this]
      · have hk' : ¬ m.kind = 5 := hk
        simp [hk', h]
    · simp [h2]
theorem val_yes {m : Msg} (h : (((!decide (WM.used m = m)) || (!WM.node m.frm)) || (m.frm == m.dst)) = false) : WM.used m = m ∧ WM.valid m = ((if m.kind = 5 then WM.gate m.dst else WM.node m.dst) && WM.mayPart m) := by
  cases h1 : WM.node m.frm
  · rw [h1] at h; simp at h
  · by_cases h2 : WM.used m = m
    · refine ⟨h2, ?_⟩
      simp only [h1, h2, decide_true, Bool.not_true, Bool.false_or, beq_eq_false_iff_ne] at h
      unfold WM.valid WM.may WM.mayGo
      have h' : decide (m.dst ≠ m.frm) = true := decide_eq_true (fun e => h e.symm)
      rw [h1, h', h2]
      simp
    · simp [h2] at h
theorem val_five {m : Msg} (hk : m.kind = 5) : ((if m.kind = 5 then WM.gate m.dst else WM.node m.dst) && WM.mayPart m) = ((((decide ((8 : Int) ≤ m.dst) && decide ((m.dst : Int) < 12)) && PM.okB m.path.data.toList) && okMode m.mode) && SM.valid m.stamp) := by
  unfold WM.mayPart
  simp only [hk, if_true]
  rw [if_neg (by decide), if_neg (by decide), if_neg (by decide), if_neg (by decide)]
  show ((decide (8 ≤ m.dst) && decide (m.dst < 12)) && (PM.okB m.path.data.toList && (okMode m.mode && SM.valid m.stamp))) = _
  simp only [Bool.and_assoc]
theorem val_done {m : Msg} (hu : WM.used m = m) (hk : m.kind = 3 ∨ m.kind = 4) : WM.mayPart m = (((SM.count m.id && WM.node m.origin) && SM.count m.number) && PM.okB m.path.data.toList) := by
  rcases hk with hk | hk
  · unfold WM.mayPart WM.mayRecall WM.mayDone WM.p
    simp [hk, Bool.and_assoc]
  · have hp : m.path = WM.zero.path := by
      have e := congrArg Msg.path hu
      rw [← e]
      unfold WM.used
      simp [hk]
    have ho : PM.okB m.path.data.toList = true := by rw [hp]; decide
    rw [ho]
    unfold WM.mayPart WM.mayDone
    simp [hk, Bool.and_assoc]
theorem val_none {m : Msg} (h1 : m.kind ≠ 1) (h2 : m.kind ≠ 2) (h3 : m.kind ≠ 3) (h4 : m.kind ≠ 4) (h5 : m.kind ≠ 5) : WM.mayPart m = false := by
  unfold WM.mayPart
  simp [h1, h2, h3, h4, h5]
set_option maxHeartbeats 8000000 in
theorem r6_Valid (A : Option Addr) (c : Nat) (m : Msg) (w : World) (hf : Fit6 w A c m) :
    Calls Try.prog 12 #[.agg (cellsM m (.slice A m.stamp.length c))] w fun e w' => e = .returned (.bool (WM.valid m)) ∧ Below w.heap.size w w' := by
  have HX := Lib.hid ((Below.refl _ w).alloc (Nat.le_refl _) (.cells (cellsM m (.slice A m.stamp.length c)) 28))
  have HK := Lib.hid (show MsgBlk (w.alloc (.cells (cellsM m (.slice A m.stamp.length c)) 28)) w.heap.size m (.slice A m.stamp.length c) from Whole.new w 28 (cellsM m (.slice A m.stamp.length c)))
  have HF := Lib.hid (hf.below HX.out)
  have HI := Lib.hid HF.out.ints
  have HWD := Lib.hid hf.wide
  have HLE := Lib.hid hf.le
  have HCP := Lib.hid hf.cap
  clear hf
  go_enter Try.func12, Try.ntmps12
  go_upto_region 1 with (fail)
  generalize w.alloc (.cells (cellsM m (.slice A m.stamp.length c)) 28) = w4 at HX HK HF HI ⊢
  obtain ⟨c3, h⟩ : ∃ t, t = decide (WM.used m = m) := ⟨_, rfl⟩
  have C3 := Lib.hid h.symm
  clear h
  obtain ⟨n4, h⟩ : ∃ t, t = (!c3) := ⟨_, rfl⟩
  have N4 := Lib.hid h.symm
  clear h
  obtain ⟨c8, h⟩ : ∃ t, t = WM.node m.frm := ⟨_, rfl⟩
  have C8 := Lib.hid h.symm
  clear h
  obtain ⟨n9, h⟩ : ∃ t, t = (!c8) := ⟨_, rfl⟩
  have N9 := Lib.hid h.symm
  clear h
  obtain ⟨p10, h⟩ : ∃ t, t = (n4 || n9) := ⟨_, rfl⟩
  have P10 := Lib.hid h.symm
  clear h
  obtain ⟨t16, h⟩ : ∃ t, t = ((m.frm : Int) == m.dst) := ⟨_, rfl⟩
  have T16 := Lib.hid h.symm
  clear h
  obtain ⟨p17, h⟩ : ∃ t, t = (p10 || t16) := ⟨_, rfl⟩
  have P17 := Lib.hid h.symm
  clear h
  refine region_vany [some 4, some 5, some 6, some 7, some 8, some 9, some 10, some 11, some 12, some 13, some 14, some 15, some 16, some 17, some 18, some 19, some 20, some 21] [.agg (cellsM m (.slice A m.stamp.length c)), .agg (cellsM (WM.used m) (.slice (ua m A) (WM.used m).stamp.length (uc m c))), .agg (cellsM m (.slice A m.stamp.length c)), .bool c3, .bool n4, .bool n4, cond n4 undef (.pointer (some ⟨w.heap.size, 1, none⟩)), cond n4 undef (.int .i64 m.frm), cond n4 undef (.bool c8), cond n4 undef (.bool n9), .bool p10, .bool p10, cond p10 undef (.pointer (some ⟨w.heap.size, 1, none⟩)), cond p10 undef (.int .i64 m.frm), cond p10 undef (.pointer (some ⟨w.heap.size, 2, none⟩)), cond p10 undef (.int .i64 m.dst), cond p10 undef (.bool t16), .bool p17] (fun y => Below w4.heap.size w4 y) [[], [0], [], [0, 1, 2], [0, 1, 2, 3], [0, 1, 2, 3, 4], [0, 1, 2, 3, 4, 5], [0, 1, 2, 3, 4, 5, 6], [0, 1, 2, 3, 4, 5, 6, 7], [0, 1, 2, 3, 4, 5, 6, 7, 8], [0, 1, 2, 3, 4, 5, 6, 7, 8, 9], [0, 1, 2, 3, 4, 5, 6, 7, 8, 9, 10], [0, 1, 2, 3, 4, 5, 6, 7, 8, 9, 10, 11], [0, 1, 2, 3, 4, 5, 6, 7, 8, 9, 10, 11, 12], [0, 1, 2, 3, 4, 5, 6, 7, 8, 9, 10, 11], [0, 1, 2, 3, 4, 5, 6, 7, 8, 9, 10, 11, 14], [0, 1, 2, 3, 4, 5, 6, 7, 8, 9, 10, 11, 12, 13, 14, 15], [0, 1, 2, 3, 4, 5, 6, 7, 8, 9, 10, 11, 12, 13, 14, 15, 16]] (by kernel_rfl) rfl (by kernel_rfl) (by kernel_rfl) (by kernel_rfl) ((Below.refl _ _).drew) (Z := fun vs => ch _ vs 4 [17, 16, 15, 14, 13, 12, 11, 10, 9, 8, 7, 6, 5, 4, 3, 2, 1, 0]) (fun _ => rfl) ?_ ?_
  · skip
    refine VAll.snoc (i := 17) ?_ rfl rfl trivial ?_
    rotate_left
    · intro B y hI hL K E hK
      have hB := hI
      have t15 : B.tmps[15]? = some (.bool p10) := hL.at_ 11 (by decide) 15 rfl
      have t20 : B.tmps[20]? = some (cond p10 undef (.bool t16)) := hL.at_ 16 (by decide) 20 rfl
      clear hL
      refine Box.mk ?_
      rcases Bool.eq_false_or_eq_true p10 with hs | hs
      · simp only [hs, cond_true, cond_false] at t15 t20
        go_simp
        exact hK.out _ _ hB (by change _ = (.bool p17 : Value); rw [← P17.out]; simp [hs])
      · simp only [hs, cond_true, cond_false] at t15 t20
        go_simp
        exact hK.out _ _ hB (by change _ = (.bool p17 : Value); rw [← P17.out]; simp [hs])
    refine VAll.snoc (i := 16) ?_ rfl rfl idle_f ?_
    rotate_left
    · intro B y hI hL hg K E hK
      have hB := hI
      have hg : (.bool p10 : Value) = .bool false := hg
      have he0 := want_b hg
      clear hg
      have t17 : B.tmps[17]? = some (cond p10 undef (.int .i64 m.frm)) := hL.at_ 13 (by decide) 17 rfl
      have t19 : B.tmps[19]? = some (cond p10 undef (.int .i64 m.dst)) := hL.at_ 15 (by decide) 19 rfl
      clear hL
      simp only [he0, cond_true, cond_false] at t17 t19
      refine Box.mk ?_
      have hd := T16.out
      go_simp
      exact hK.out _ _ hB (by change _ = cond _ _ _; simp only [he0, cond_true, cond_false])
    refine VAll.snoc (i := 15) ?_ rfl rfl idle_f ?_
    rotate_left
    · intro B y hI hL hg K E hK
      have hB := hI
      have hg : (.bool p10 : Value) = .bool false := hg
      have he0 := want_b hg
      clear hg
      have t18 : B.tmps[18]? = some (cond p10 undef (.pointer (some ⟨w.heap.size, 2, none⟩))) := hL.at_ 14 (by decide) 18 rfl
      clear hL
      simp only [he0, cond_true, cond_false] at t18
      refine Box.mk ?_
      have z := ((Mod.of_below hB []).whole HK.out (by simp)).cell 2
      unfold cellsM at z
      go_simp
      exact hK.out _ _ hB (by change _ = cond _ _ _; simp only [he0, cond_true, cond_false])
    refine VAll.snoc (i := 14) ?_ rfl rfl idle_f ?_
    rotate_left
    · intro B y hI hL hg K E hK
      have hB := hI
      have hg : (.bool p10 : Value) = .bool false := hg
      have he0 := want_b hg
      clear hg
      have t1 : B.tmps[1]? = some (.pointer (some ⟨w.heap.size, 0, none⟩)) := (hL.out 1 rfl).trans rfl
      clear hL
      refine Box.mk ?_
      go_simp
      exact hK.out _ _ hB (by change _ = cond _ _ _; simp only [he0, cond_true, cond_false])
    refine VAll.snoc (i := 13) ?_ rfl rfl idle_f ?_
    rotate_left
    · intro B y hI hL hg K E hK
      have hB := hI
      have hg : (.bool p10 : Value) = .bool false := hg
      have he0 := want_b hg
      clear hg
      have t16 : B.tmps[16]? = some (cond p10 undef (.pointer (some ⟨w.heap.size, 1, none⟩))) := hL.at_ 12 (by decide) 16 rfl
      clear hL
      simp only [he0, cond_true, cond_false] at t16
      refine Box.mk ?_
      have z := ((Mod.of_below hB []).whole HK.out (by simp)).cell 1
      unfold cellsM at z
      go_simp
      exact hK.out _ _ hB (by change _ = cond _ _ _; simp only [he0, cond_true, cond_false])
    refine VAll.snoc (i := 12) ?_ rfl rfl idle_f ?_
    rotate_left
    · intro B y hI hL hg K E hK
      have hB := hI
      have hg : (.bool p10 : Value) = .bool false := hg
      have he0 := want_b hg
      clear hg
      have t1 : B.tmps[1]? = some (.pointer (some ⟨w.heap.size, 0, none⟩)) := (hL.out 1 rfl).trans rfl
      clear hL
      refine Box.mk ?_
      go_simp
      exact hK.out _ _ hB (by change _ = cond _ _ _; simp only [he0, cond_true, cond_false])
    refine VAll.snoc (i := 11) ?_ rfl rfl trivial ?_
    rotate_left
    · intro B y hI hL K E hK
      have hB := hI
      have t14 : B.tmps[14]? = some (.bool p10) := hL.at_ 10 (by decide) 14 rfl
      clear hL
      refine Box.mk ?_
      go_simp
      exact hK.out _ _ hB rfl
    refine VAll.snoc (i := 10) ?_ rfl rfl trivial ?_
    rotate_left
    · intro B y hI hL K E hK
      have hB := hI
      have t9 : B.tmps[9]? = some (.bool n4) := hL.at_ 5 (by decide) 9 rfl
      have t13 : B.tmps[13]? = some (cond n4 undef (.bool n9)) := hL.at_ 9 (by decide) 13 rfl
      clear hL
      refine Box.mk ?_
      rcases Bool.eq_false_or_eq_true n4 with hs | hs
      · simp only [hs, cond_true, cond_false] at t9 t13
        go_simp
        exact hK.out _ _ hB (by change _ = (.bool p10 : Value); rw [← P10.out]; simp [hs])
      · simp only [hs, cond_true, cond_false] at t9 t13
        go_simp
        exact hK.out _ _ hB (by change _ = (.bool p10 : Value); rw [← P10.out]; simp [hs])
    refine VAll.snoc (i := 9) ?_ rfl rfl idle_f ?_
    rotate_left
    · intro B y hI hL hg K E hK
      have hB := hI
      have hg : (.bool n4 : Value) = .bool false := hg
      have he0 := want_b hg
      clear hg
      have t12 : B.tmps[12]? = some (cond n4 undef (.bool c8)) := hL.at_ 8 (by decide) 12 rfl
      clear hL
      simp only [he0, cond_true, cond_false] at t12
      refine Box.mk ?_
      have hd := N9.out
      go_simp
      exact hK.out _ _ hB (by change _ = cond _ _ _; simp only [he0, cond_true, cond_false])
    refine VAll.snoc (i := 8) ?_ rfl rfl idle_f ?_
    rotate_left
    · intro B y hI hL hg K E hK
      have hB := hI
      have hg : (.bool n4 : Value) = .bool false := hg
      have he0 := want_b hg
      clear hg
      have t11 : B.tmps[11]? = some (cond n4 undef (.int .i64 m.frm)) := hL.at_ 7 (by decide) 11 rfl
      clear hL
      simp only [he0, cond_true, cond_false] at t11
      refine Box.mk ?_
      go_simp
      with_reducible refine (RefNode_any m.frm y).mono ?_
      rintro e w5 ⟨rfl, rfl⟩
      rw [C8.out]
      go_simp
      exact hK.out _ _ hB (by change _ = cond _ _ _; simp only [he0, cond_true, cond_false])
    refine VAll.snoc (i := 7) ?_ rfl rfl idle_f ?_
    rotate_left
    · intro B y hI hL hg K E hK
      have hB := hI
      have hg : (.bool n4 : Value) = .bool false := hg
      have he0 := want_b hg
      clear hg
      have t10 : B.tmps[10]? = some (cond n4 undef (.pointer (some ⟨w.heap.size, 1, none⟩))) := hL.at_ 6 (by decide) 10 rfl
      clear hL
      simp only [he0, cond_true, cond_false] at t10
      refine Box.mk ?_
      have z := ((Mod.of_below hB []).whole HK.out (by simp)).cell 1
      unfold cellsM at z
      go_simp
      exact hK.out _ _ hB (by change _ = cond _ _ _; simp only [he0, cond_true, cond_false])
    refine VAll.snoc (i := 6) ?_ rfl rfl idle_f ?_
    rotate_left
    · intro B y hI hL hg K E hK
      have hB := hI
      have hg : (.bool n4 : Value) = .bool false := hg
      have he0 := want_b hg
      clear hg
      have t1 : B.tmps[1]? = some (.pointer (some ⟨w.heap.size, 0, none⟩)) := (hL.out 1 rfl).trans rfl
      clear hL
      refine Box.mk ?_
      go_simp
      exact hK.out _ _ hB (by change _ = cond _ _ _; simp only [he0, cond_true, cond_false])
    refine VAll.snoc (i := 5) ?_ rfl rfl trivial ?_
    rotate_left
    · intro B y hI hL K E hK
      have hB := hI
      have t8 : B.tmps[8]? = some (.bool n4) := hL.at_ 4 (by decide) 8 rfl
      clear hL
      refine Box.mk ?_
      go_simp
      exact hK.out _ _ hB rfl
    refine VAll.snoc (i := 4) ?_ rfl rfl trivial ?_
    rotate_left
    · intro B y hI hL K E hK
      have hB := hI
      have t7 : B.tmps[7]? = some (.bool c3) := hL.at_ 3 (by decide) 7 rfl
      clear hL
      refine Box.mk ?_
      have hd := N4.out
      go_simp
      exact hK.out _ _ hB rfl
    refine VAll.snoc (i := 3) ?_ rfl rfl trivial ?_
    rotate_left
    · intro B y hI hL K E hK
      have hB := hI
      have t5 : B.tmps[5]? = some (.agg (cellsM (WM.used m) (.slice (ua m A) (WM.used m).stamp.length (uc m c)))) := hL.at_ 1 (by decide) 5 rfl
      have t6 : B.tmps[6]? = some (.agg (cellsM m (.slice A m.stamp.length c))) := hL.at_ 2 (by decide) 6 rfl
      clear hL
      refine Box.mk ?_
      go_simp
      with_reducible refine (r6_Same (ua m A) A (uc m c) c (WM.used m) m y (used_fit HF.out hB).1 ((HI.out).below hB) (used_fit HF.out hB).2.1 HLE.out (used_fit HF.out hB).2.2 HCP.out).mono ?_
      rintro e w5 ⟨rfl, hb⟩
      rw [C3.out]
      go_simp
      exact hK.out _ _ (below_on hB hb) rfl
    refine VAll.snoc (i := 2) ?_ rfl rfl trivial ?_
    rotate_left
    · intro B y hI hL K E hK
      have hB := hI
      have t1 : B.tmps[1]? = some (.pointer (some ⟨w.heap.size, 0, none⟩)) := (hL.out 1 rfl).trans rfl
      clear hL
      refine Box.mk ?_
      refine wp_load_mid 28 (.tmp 1) rfl (w.heap.size) 0 (by simp [Act.eval, t1]) (cellsM m (.slice A m.stamp.length c)).toList _ (msg_range ((Mod.of_below hB []).whole HK.out (by simp))) Try.underlying28 rfl (by kernel_rfl) ?_
      exact hK.out _ _ hB rfl
    refine VAll.snoc (i := 1) ?_ rfl rfl trivial ?_
    rotate_left
    · intro B y hI hL K E hK
      have hB := hI
      have t4 : B.tmps[4]? = some (.agg (cellsM m (.slice A m.stamp.length c))) := hL.at_ 0 (by decide) 4 rfl
      clear hL
      refine Box.mk ?_
      go_simp
      with_reducible refine (r6_used A c m y (HF.out.below hB)).mono ?_
      rintro e w5 ⟨rfl, hb⟩
      go_simp
      exact hK.out _ _ (below_on hB hb) rfl
    refine VAll.snoc (i := 0) ?_ rfl rfl trivial ?_
    rotate_left
    · intro B y hI hL K E hK
      have hB := hI
      have t1 : B.tmps[1]? = some (.pointer (some ⟨w.heap.size, 0, none⟩)) := (hL.out 1 rfl).trans rfl
      clear hL
      refine Box.mk ?_
      refine wp_load_mid 28 (.tmp 1) rfl (w.heap.size) 0 (by simp [Act.eval, t1]) (cellsM m (.slice A m.stamp.length c)).toList _ (msg_range ((Mod.of_below hB []).whole HK.out (by simp))) Try.underlying28 rfl (by kernel_rfl) ?_
      exact hK.out _ _ hB rfl
    exact VAll.nil
  · intro vs y hI hall
    have hB := hI
    have e17 : vs 17 = .bool p17 := hall 17 (by decide)
    clear hall
    refine Box.mk ?_
    simp only [e17, ch, cq, allPut, puts, Act.put, List.setIfInBounds_toArray, List.set_cons_zero, List.set_cons_succ]
    clear e17
    have HE := Lib.hid (show p17 = (((!decide (WM.used m = m)) || (!WM.node m.frm)) || ((m.frm : Int) == m.dst)) by rw [← P17.out, ← T16.out, ← P10.out, ← N9.out, ← C8.out, ← N4.out, ← C3.out])
    have HX2 := Lib.hid (below_on HX.out hB)
    have HF2 := Lib.hid (HF.out.below hB)
    have HK2 := Lib.hid (show MsgBlk y w.heap.size m (.slice A m.stamp.length c) from (Mod.of_below hB []).whole HK.out (by simp))
    clear hB HX HF HK HI
    cases hv : p17 with
    | true =>
      have HV := Lib.hid (val_no (m := m) (by have h := HE.out; rw [hv] at h; exact h.symm))
      clear hv
      go_wp2_with fail
      go_ret
      exact ⟨ret_bool HV.out.symm, HX2.out⟩
    | false =>
      have HUV := Lib.hid (val_yes (m := m) (by have h := HE.out; rw [hv] at h; exact h.symm))
      have HU := Lib.hid HUV.out.1
      have HV := Lib.hid HUV.out.2
      clear hv HE HUV
      obtain ⟨c0, c1, c2', c3, c4, c5, c6, c7, c8, c9, c10, c11, c12, c13, c14, c15⟩ := msg_cells HK2.out
      by_cases hk : m.kind = 5
      · skip
        have HKK := Lib.hid hk
        rw [hk] at c0
        clear hk
        go_wp2_with fail
        refine (RValid_any m.path _ HWD.out.path).mono ?_
        rintro e w5 ⟨rfl, hb5⟩
        have HX5 := Lib.hid (below_on HX2.out hb5)
        have HK5 := Lib.hid ((Mod.of_below hb5 []).whole HK2.out (by simp))
        have HI5 := Lib.hid (HF2.out.ints.below hb5)
        clear hb5 HK2 HX2 HF2
        clear c0 c1 c2' c3 c4 c5 c6 c7 c8 c9 c10 c11 c12 c13 c14 c15
        obtain ⟨c0, c1, c2', c3, c4, c5, c6, c7, c8, c9, c10, c11, c12, c13, c14, c15⟩ := msg_cells HK5.out
        generalize hpa : PM.okB m.path.data.toList = cp
        have HPA := Lib.hid hpa
        clear hpa
        go_upto_region 5 with (fail)
        obtain ⟨t2, h⟩ : ∃ t, t = decide ((8 : Int) ≤ m.dst) := ⟨_, rfl⟩
        have T2 := Lib.hid h.symm
        clear h
        obtain ⟨t6, h⟩ : ∃ t, t = decide ((m.dst : Int) < 12) := ⟨_, rfl⟩
        have T6 := Lib.hid h.symm
        clear h
        obtain ⟨p7, h⟩ : ∃ t, t = (t2 && t6) := ⟨_, rfl⟩
        have P7 := Lib.hid h.symm
        clear h
        obtain ⟨p10, h⟩ : ∃ t, t = (p7 && cp) := ⟨_, rfl⟩
        have P10 := Lib.hid h.symm
        clear h
        obtain ⟨c14, h⟩ : ∃ t, t = okMode m.mode := ⟨_, rfl⟩
        have C14 := Lib.hid h.symm
        clear h
        obtain ⟨p15, h⟩ : ∃ t, t = (p10 && c14) := ⟨_, rfl⟩
        have P15 := Lib.hid h.symm
        clear h
        obtain ⟨c19, h⟩ : ∃ t, t = SM.valid m.stamp := ⟨_, rfl⟩
        have C19 := Lib.hid h.symm
        clear h
        obtain ⟨p20, h⟩ : ∃ t, t = (p15 && c19) := ⟨_, rfl⟩
        have P20 := Lib.hid h.symm
        clear h
        refine region_vseq [some 28, some 29, some 30, some 31, some 32, some 33, some 34, some 35, some 36, some 37, some 38, some 39, some 40, some 41, some 42, some 43, some 44, some 45, some 46, some 47, some 48, some 2] [.pointer (some ⟨w.heap.size, 2, none⟩), .int .i64 m.dst, .bool t2, .bool t2, cond t2 (.pointer (some ⟨w.heap.size, 2, none⟩)) undef, cond t2 (.int .i64 m.dst) undef, cond t2 (.bool t6) undef, .bool p7, .bool p7, cond p7 (.bool cp) undef, .bool p10, .bool p10, cond p10 (.pointer (some ⟨w.heap.size, 8, none⟩)) undef, cond p10 (.int .i64 m.mode) undef, cond p10 (.bool c14) undef, .bool p15, .bool p15, cond p15 (.pointer (some ⟨w.heap.size, 13, none⟩)) undef, cond p15 (.slice A m.stamp.length c) undef, cond p15 (.bool c19) undef, .bool p20, .bool p20] (fun z => z = w5) [[], [0], [0, 1], [0, 1, 2], [0, 1, 2, 3], [0, 1, 2, 3, 4], [0, 1, 2, 3, 4, 5], [0, 1, 2, 3, 4, 5, 6], [0, 1, 2, 3, 4, 5, 6, 7], [0, 1, 2, 3, 4, 5, 6, 7, 8], [0, 1, 2, 3, 4, 5, 6, 7, 8, 9], [0, 1, 2, 3, 4, 5, 6, 7, 8, 9, 10], [0, 1, 2, 3, 4, 5, 6, 7, 8, 9, 10, 11], [0, 1, 2, 3, 4, 5, 6, 7, 8, 9, 10, 11, 12], [0, 1, 2, 3, 4, 5, 6, 7, 8, 9, 10, 11, 12, 13], [0, 1, 2, 3, 4, 5, 6, 7, 8, 9, 10, 11, 12, 13, 14], [0, 1, 2, 3, 4, 5, 6, 7, 8, 9, 10, 11, 12, 13, 14, 15], [0, 1, 2, 3, 4, 5, 6, 7, 8, 9, 10, 11, 12, 13, 14, 15, 16], [0, 1, 2, 3, 4, 5, 6, 7, 8, 9, 10, 11, 12, 13, 14, 15, 16, 17], [0, 1, 2, 3, 4, 5, 6, 7, 8, 9, 10, 11, 12, 13, 14, 15, 16, 17, 18], [0, 1, 2, 3, 4, 5, 6, 7, 8, 9, 10, 11, 12, 13, 14, 15, 16, 17, 18, 19], [0, 1, 2, 3, 4, 5, 6, 7, 8, 9, 10, 11, 12, 13, 14, 15, 16, 17, 18, 19, 20]] rfl (by kernel_rfl) (by kernel_rfl) (by kernel_rfl) (rfl) (Z := fun vs => cq _ vs [(2, 21), (48, 20), (47, 19), (46, 18), (45, 17), (44, 16), (43, 15), (42, 14), (41, 13), (40, 12), (39, 11), (38, 10), (37, 9), (36, 8), (35, 7), (34, 6), (33, 5), (32, 4), (31, 3), (30, 2), (29, 1), (28, 0)]) (fun _ => rfl) ?_ ?_
        · skip
          refine VAll.snoc (i := 21) ?_ rfl rfl trivial ?_
          rotate_left
          · intro B z hI hL K E hK
            rw [hI]
            clear hI
            have t48 : B.tmps[48]? = some (.bool p20) := hL.at_ 20 (by decide) 48 rfl
            clear hL
            refine Box.mk ?_
            go_simp
            exact hK.out _ _ rfl rfl
          refine VAll.snoc (i := 20) ?_ rfl rfl trivial ?_
          rotate_left
          · intro B z hI hL K E hK
            rw [hI]
            clear hI
            have t44 : B.tmps[44]? = some (.bool p15) := hL.at_ 16 (by decide) 44 rfl
            have t47 : B.tmps[47]? = some (cond p15 (.bool c19) undef) := hL.at_ 19 (by decide) 47 rfl
            clear hL
            refine Box.mk ?_
            rcases Bool.eq_false_or_eq_true p15 with hs | hs
            · simp only [hs, cond_true, cond_false] at t44 t47
              go_simp
              exact hK.out _ _ rfl (by change _ = (.bool p20 : Value); rw [← P20.out]; simp [hs])
            · simp only [hs, cond_true, cond_false] at t44 t47
              go_simp
              exact hK.out _ _ rfl (by change _ = (.bool p20 : Value); rw [← P20.out]; simp [hs])
          refine VAll.snoc (i := 19) ?_ rfl rfl idle_t ?_
          rotate_left
          · intro B z hI hL hg K E hK
            rw [hI]
            clear hI
            have hg : (.bool p15 : Value) = .bool true := hg
            have he0 := want_b hg
            clear hg
            have t46 : B.tmps[46]? = some (cond p15 (.slice A m.stamp.length c) undef) := hL.at_ 18 (by decide) 46 rfl
            clear hL
            simp only [he0, cond_true, cond_false] at t46
            refine Box.mk ?_
            go_simp
            with_reducible refine (St.RefValid_any A c m.stamp w5 (HI5.out) HLE.out HCP.out).mono ?_
            rintro e w5 ⟨rfl, rfl⟩
            rw [C19.out]
            go_simp
            exact hK.out _ _ rfl (by change _ = cond _ _ _; simp only [he0, cond_true, cond_false])
          refine VAll.snoc (i := 18) ?_ rfl rfl idle_t ?_
          rotate_left
          · intro B z hI hL hg K E hK
            rw [hI]
            clear hI
            have hg : (.bool p15 : Value) = .bool true := hg
            have he0 := want_b hg
            clear hg
            have t45 : B.tmps[45]? = some (cond p15 (.pointer (some ⟨w.heap.size, 13, none⟩)) undef) := hL.at_ 17 (by decide) 45 rfl
            clear hL
            simp only [he0, cond_true, cond_false] at t45
            refine Box.mk ?_
            go_simp
            exact hK.out _ _ rfl (by change _ = cond _ _ _; simp only [he0, cond_true, cond_false])
          refine VAll.snoc (i := 17) ?_ rfl rfl idle_t ?_
          rotate_left
          · intro B z hI hL hg K E hK
            rw [hI]
            clear hI
            have hg : (.bool p15 : Value) = .bool true := hg
            have he0 := want_b hg
            clear hg
            have t1 : B.tmps[1]? = some (.pointer (some ⟨w.heap.size, 0, none⟩)) := (hL.out 1 rfl).trans rfl
            clear hL
            refine Box.mk ?_
            go_simp
            exact hK.out _ _ rfl (by change _ = cond _ _ _; simp only [he0, cond_true, cond_false])
          refine VAll.snoc (i := 16) ?_ rfl rfl trivial ?_
          rotate_left
          · intro B z hI hL K E hK
            rw [hI]
            clear hI
            have t43 : B.tmps[43]? = some (.bool p15) := hL.at_ 15 (by decide) 43 rfl
            clear hL
            refine Box.mk ?_
            go_simp
            exact hK.out _ _ rfl rfl
          refine VAll.snoc (i := 15) ?_ rfl rfl trivial ?_
          rotate_left
          · intro B z hI hL K E hK
            rw [hI]
            clear hI
            have t39 : B.tmps[39]? = some (.bool p10) := hL.at_ 11 (by decide) 39 rfl
            have t42 : B.tmps[42]? = some (cond p10 (.bool c14) undef) := hL.at_ 14 (by decide) 42 rfl
            clear hL
            refine Box.mk ?_
            rcases Bool.eq_false_or_eq_true p10 with hs | hs
            · simp only [hs, cond_true, cond_false] at t39 t42
              go_simp
              exact hK.out _ _ rfl (by change _ = (.bool p15 : Value); rw [← P15.out]; simp [hs])
            · simp only [hs, cond_true, cond_false] at t39 t42
              go_simp
              exact hK.out _ _ rfl (by change _ = (.bool p15 : Value); rw [← P15.out]; simp [hs])
          refine VAll.snoc (i := 14) ?_ rfl rfl idle_t ?_
          rotate_left
          · intro B z hI hL hg K E hK
            rw [hI]
            clear hI
            have hg : (.bool p10 : Value) = .bool true := hg
            have he0 := want_b hg
            clear hg
            have t41 : B.tmps[41]? = some (cond p10 (.int .i64 m.mode) undef) := hL.at_ 13 (by decide) 41 rfl
            clear hL
            simp only [he0, cond_true, cond_false] at t41
            refine Box.mk ?_
            go_simp
            with_reducible refine (Mode_any m.mode w5).mono ?_
            rintro e w5 ⟨rfl, rfl⟩
            rw [C14.out]
            go_simp
            exact hK.out _ _ rfl (by change _ = cond _ _ _; simp only [he0, cond_true, cond_false])
          refine VAll.snoc (i := 13) ?_ rfl rfl idle_t ?_
          rotate_left
          · intro B z hI hL hg K E hK
            rw [hI]
            clear hI
            have hg : (.bool p10 : Value) = .bool true := hg
            have he0 := want_b hg
            clear hg
            have t40 : B.tmps[40]? = some (cond p10 (.pointer (some ⟨w.heap.size, 8, none⟩)) undef) := hL.at_ 12 (by decide) 40 rfl
            clear hL
            simp only [he0, cond_true, cond_false] at t40
            refine Box.mk ?_
            go_simp
            exact hK.out _ _ rfl (by change _ = cond _ _ _; simp only [he0, cond_true, cond_false])
          refine VAll.snoc (i := 12) ?_ rfl rfl idle_t ?_
          rotate_left
          · intro B z hI hL hg K E hK
            rw [hI]
            clear hI
            have hg : (.bool p10 : Value) = .bool true := hg
            have he0 := want_b hg
            clear hg
            have t1 : B.tmps[1]? = some (.pointer (some ⟨w.heap.size, 0, none⟩)) := (hL.out 1 rfl).trans rfl
            clear hL
            refine Box.mk ?_
            go_simp
            exact hK.out _ _ rfl (by change _ = cond _ _ _; simp only [he0, cond_true, cond_false])
          refine VAll.snoc (i := 11) ?_ rfl rfl trivial ?_
          rotate_left
          · intro B z hI hL K E hK
            rw [hI]
            clear hI
            have t38 : B.tmps[38]? = some (.bool p10) := hL.at_ 10 (by decide) 38 rfl
            clear hL
            refine Box.mk ?_
            go_simp
            exact hK.out _ _ rfl rfl
          refine VAll.snoc (i := 10) ?_ rfl rfl trivial ?_
          rotate_left
          · intro B z hI hL K E hK
            rw [hI]
            clear hI
            have t36 : B.tmps[36]? = some (.bool p7) := hL.at_ 8 (by decide) 36 rfl
            have t37 : B.tmps[37]? = some (cond p7 (.bool cp) undef) := hL.at_ 9 (by decide) 37 rfl
            clear hL
            refine Box.mk ?_
            rcases Bool.eq_false_or_eq_true p7 with hs | hs
            · simp only [hs, cond_true, cond_false] at t36 t37
              go_simp
              exact hK.out _ _ rfl (by change _ = (.bool p10 : Value); rw [← P10.out]; simp [hs])
            · simp only [hs, cond_true, cond_false] at t36 t37
              go_simp
              exact hK.out _ _ rfl (by change _ = (.bool p10 : Value); rw [← P10.out]; simp [hs])
          refine VAll.snoc (i := 9) ?_ rfl rfl idle_t ?_
          rotate_left
          · intro B z hI hL hg K E hK
            rw [hI]
            clear hI
            have hg : (.bool p7 : Value) = .bool true := hg
            have he0 := want_b hg
            clear hg
            have t3 : B.tmps[3]? = some (.bool cp) := (hL.out 3 rfl).trans rfl
            clear hL
            refine Box.mk ?_
            go_simp
            exact hK.out _ _ rfl (by change _ = cond _ _ _; simp only [he0, cond_true, cond_false])
          refine VAll.snoc (i := 8) ?_ rfl rfl trivial ?_
          rotate_left
          · intro B z hI hL K E hK
            rw [hI]
            clear hI
            have t35 : B.tmps[35]? = some (.bool p7) := hL.at_ 7 (by decide) 35 rfl
            clear hL
            refine Box.mk ?_
            go_simp
            exact hK.out _ _ rfl rfl
          refine VAll.snoc (i := 7) ?_ rfl rfl trivial ?_
          rotate_left
          · intro B z hI hL K E hK
            rw [hI]
            clear hI
            have t31 : B.tmps[31]? = some (.bool t2) := hL.at_ 3 (by decide) 31 rfl
            have t34 : B.tmps[34]? = some (cond t2 (.bool t6) undef) := hL.at_ 6 (by decide) 34 rfl
            clear hL
            refine Box.mk ?_
            rcases Bool.eq_false_or_eq_true t2 with hs | hs
            · simp only [hs, cond_true, cond_false] at t31 t34
              go_simp
              exact hK.out _ _ rfl (by change _ = (.bool p7 : Value); rw [← P7.out]; simp [hs])
            · simp only [hs, cond_true, cond_false] at t31 t34
              go_simp
              exact hK.out _ _ rfl (by change _ = (.bool p7 : Value); rw [← P7.out]; simp [hs])
          refine VAll.snoc (i := 6) ?_ rfl rfl idle_t ?_
          rotate_left
          · intro B z hI hL hg K E hK
            rw [hI]
            clear hI
            have hg : (.bool t2 : Value) = .bool true := hg
            have he0 := want_b hg
            clear hg
            have t33 : B.tmps[33]? = some (cond t2 (.int .i64 m.dst) undef) := hL.at_ 5 (by decide) 33 rfl
            clear hL
            simp only [he0, cond_true, cond_false] at t33
            refine Box.mk ?_
            have hd := T6.out
            go_simp
            exact hK.out _ _ rfl (by change _ = cond _ _ _; simp only [he0, cond_true, cond_false])
          refine VAll.snoc (i := 5) ?_ rfl rfl idle_t ?_
          rotate_left
          · intro B z hI hL hg K E hK
            rw [hI]
            clear hI
            have hg : (.bool t2 : Value) = .bool true := hg
            have he0 := want_b hg
            clear hg
            have t32 : B.tmps[32]? = some (cond t2 (.pointer (some ⟨w.heap.size, 2, none⟩)) undef) := hL.at_ 4 (by decide) 32 rfl
            clear hL
            simp only [he0, cond_true, cond_false] at t32
            refine Box.mk ?_
            go_simp
            exact hK.out _ _ rfl (by change _ = cond _ _ _; simp only [he0, cond_true, cond_false])
          refine VAll.snoc (i := 4) ?_ rfl rfl idle_t ?_
          rotate_left
          · intro B z hI hL hg K E hK
            rw [hI]
            clear hI
            have hg : (.bool t2 : Value) = .bool true := hg
            have he0 := want_b hg
            clear hg
            have t1 : B.tmps[1]? = some (.pointer (some ⟨w.heap.size, 0, none⟩)) := (hL.out 1 rfl).trans rfl
            clear hL
            refine Box.mk ?_
            go_simp
            exact hK.out _ _ rfl (by change _ = cond _ _ _; simp only [he0, cond_true, cond_false])
          refine VAll.snoc (i := 3) ?_ rfl rfl trivial ?_
          rotate_left
          · intro B z hI hL K E hK
            rw [hI]
            clear hI
            have t30 : B.tmps[30]? = some (.bool t2) := hL.at_ 2 (by decide) 30 rfl
            clear hL
            refine Box.mk ?_
            go_simp
            exact hK.out _ _ rfl rfl
          refine VAll.snoc (i := 2) ?_ rfl rfl trivial ?_
          rotate_left
          · intro B z hI hL K E hK
            rw [hI]
            clear hI
            have t29 : B.tmps[29]? = some (.int .i64 m.dst) := hL.at_ 1 (by decide) 29 rfl
            clear hL
            refine Box.mk ?_
            have hd := T2.out
            go_simp
            exact hK.out _ _ rfl rfl
          refine VAll.snoc (i := 1) ?_ rfl rfl trivial ?_
          rotate_left
          · intro B z hI hL K E hK
            rw [hI]
            clear hI
            have t28 : B.tmps[28]? = some (.pointer (some ⟨w.heap.size, 2, none⟩)) := hL.at_ 0 (by decide) 28 rfl
            clear hL
            refine Box.mk ?_
            go_simp
            exact hK.out _ _ rfl rfl
          refine VAll.snoc (i := 0) ?_ rfl rfl trivial ?_
          rotate_left
          · intro B z hI hL K E hK
            rw [hI]
            clear hI
            have t1 : B.tmps[1]? = some (.pointer (some ⟨w.heap.size, 0, none⟩)) := (hL.out 1 rfl).trans rfl
            clear hL
            refine Box.mk ?_
            go_simp
            exact hK.out _ _ rfl rfl
          exact VAll.nil
        · intro vs z hI hall
          have e21 : vs 21 = .bool p20 := hall 21 (by decide)
          clear hall
          refine Box.mk ?_
          simp only [e21, ch, cq, allPut, puts, Act.put, List.setIfInBounds_toArray, List.set_cons_zero, List.set_cons_succ]
          subst hI
          have HE := Lib.hid (show p20 = ((((decide ((8 : Int) ≤ m.dst) && decide ((m.dst : Int) < 12)) && cp) && okMode m.mode) && SM.valid m.stamp) by rw [← P20.out, ← C19.out, ← P15.out, ← C14.out, ← P10.out, ← P7.out, ← T6.out, ← T2.out])
          have HW := Lib.hid (show WM.valid m = p20 by rw [HV.out, val_five HKK.out, HPA.out, HE.out])
          clear e21
          go_wp2_with fail
          go_ret
          exact ⟨ret_bool HW.out.symm, HX5.out⟩
      have HNK := Lib.hid hk
      have d5 : (m.kind == 5) = false := by simpa using hk
      clear hk
      go_wp2_with fail
      refine (RefNode_any m.dst _).mono ?_
      rintro e w5 ⟨rfl, rfl⟩
      cases hn : WM.node m.dst with
      | false =>
        have HW := Lib.hid (show WM.valid m = false by rw [HV.out, if_neg HNK.out, hn]; rfl)
        clear hn
        go_wp2_with fail
        go_ret
        exact ⟨ret_bool HW.out.symm, HX2.out⟩
      | true =>
        have HND := Lib.hid hn
        clear hn
        by_cases h1 : m.kind = 1
        · have HW := Lib.hid (show WM.valid m = WM.mayAsk m by rw [HV.out, if_neg HNK.out, HND.out, Bool.true_and]; unfold WM.mayPart; simp [h1])
          rw [h1] at c0
          clear h1
          have HLD := Lib.hid (msg_range HK2.out)
          go_wp2_with (refine wpList_load_mid rfl 28 (.tmp 1) rfl w.heap.size 0 rfl (cellsM m (.slice A m.stamp.length c)).toList _ HLD.out Try.underlying28 rfl (by kernel_rfl) ?_)
          refine (r6_asks A c m _ HF2.out).mono ?_
          rintro e w6 ⟨rfl, hb6⟩
          have HX6 := Lib.hid (below_on HX2.out hb6)
          clear hb6
          go_wp2_with fail
          go_ret
          exact ⟨ret_bool HW.out.symm, HX6.out⟩
        by_cases h2 : m.kind = 2
        · have HW := Lib.hid (show WM.valid m = WM.mayReply m by rw [HV.out, if_neg HNK.out, HND.out, Bool.true_and]; unfold WM.mayPart; simp [h2])
          rw [h2] at c0
          clear h2
          have HLD := Lib.hid (msg_range HK2.out)
          go_wp2_with (refine wpList_load_mid rfl 28 (.tmp 1) rfl w.heap.size 0 rfl (cellsM m (.slice A m.stamp.length c)).toList _ HLD.out Try.underlying28 rfl (by kernel_rfl) ?_)
          refine (r6_replies A c m _ HF2.out).mono ?_
          rintro e w6 ⟨rfl, hb6⟩
          have HX6 := Lib.hid (below_on HX2.out hb6)
          clear hb6
          go_wp2_with fail
          go_ret
          exact ⟨ret_bool HW.out.symm, HX6.out⟩
        by_cases h3 : m.kind = 3
        · have HKD := Lib.hid (show m.kind = 3 ∨ m.kind = 4 from .inl h3)
          rw [h3] at c0
          clear h3
          go_upto_region 15 with (fail)
          clear c0 c1 c2' c3 c4 c5 c6 c7 c8 c9 c10 c11 c12 c13 c14 c15
          obtain ⟨cd2, h⟩ : ∃ t, t = SM.count m.id := ⟨_, rfl⟩
          have CD2 := Lib.hid h.symm
          clear h
          obtain ⟨cd6, h⟩ : ∃ t, t = WM.node m.origin := ⟨_, rfl⟩
          have CD6 := Lib.hid h.symm
          clear h
          obtain ⟨pd7, h⟩ : ∃ t, t = (cd2 && cd6) := ⟨_, rfl⟩
          have PD7 := Lib.hid h.symm
          clear h
          obtain ⟨cd11, h⟩ : ∃ t, t = SM.count m.number := ⟨_, rfl⟩
          have CD11 := Lib.hid h.symm
          clear h
          obtain ⟨pd12, h⟩ : ∃ t, t = (pd7 && cd11) := ⟨_, rfl⟩
          have PD12 := Lib.hid h.symm
          clear h
          obtain ⟨cd16, h⟩ : ∃ t, t = PM.okB m.path.data.toList := ⟨_, rfl⟩
          have CD16 := Lib.hid h.symm
          clear h
          obtain ⟨pd17, h⟩ : ∃ t, t = (pd12 && cd16) := ⟨_, rfl⟩
          have PD17 := Lib.hid h.symm
          clear h
          refine region_vseq [some 66, some 67, some 68, some 69, some 70, some 71, some 72, some 73, some 74, some 75, some 76, some 77, some 78, some 79, some 80, some 81, some 82, some 83, some 2] [.pointer (some ⟨w.heap.size, 10, none⟩), .int .i64 m.id, .bool cd2, .bool cd2, cond cd2 (.pointer (some ⟨w.heap.size, 14, none⟩)) undef, cond cd2 (.int .i64 m.origin) undef, cond cd2 (.bool cd6) undef, .bool pd7, .bool pd7, cond pd7 (.pointer (some ⟨w.heap.size, 15, none⟩)) undef, cond pd7 (.int .i64 m.number) undef, cond pd7 (.bool cd11) undef, .bool pd12, .bool pd12, cond pd12 (.pointer (some ⟨w.heap.size, 7, none⟩)) undef, cond pd12 (.string m.path) undef, cond pd12 (.bool cd16) undef, .bool pd17, .bool pd17] (fun z => Below y.heap.size y z) [[], [0], [0, 1], [0, 1, 2], [0, 1, 2, 3], [0, 1, 2, 3, 4], [0, 1, 2, 3, 4, 5], [0, 1, 2, 3, 4, 5, 6], [0, 1, 2, 3, 4, 5, 6, 7], [0, 1, 2, 3, 4, 5, 6, 7, 8], [0, 1, 2, 3, 4, 5, 6, 7, 8, 9], [0, 1, 2, 3, 4, 5, 6, 7, 8, 9, 10], [0, 1, 2, 3, 4, 5, 6, 7, 8, 9, 10, 11], [0, 1, 2, 3, 4, 5, 6, 7, 8, 9, 10, 11, 12], [0, 1, 2, 3, 4, 5, 6, 7, 8, 9, 10, 11, 12, 13], [0, 1, 2, 3, 4, 5, 6, 7, 8, 9, 10, 11, 12, 13, 14], [0, 1, 2, 3, 4, 5, 6, 7, 8, 9, 10, 11, 12, 13, 14, 15], [0, 1, 2, 3, 4, 5, 6, 7, 8, 9, 10, 11, 12, 13, 14, 15, 16], [0, 1, 2, 3, 4, 5, 6, 7, 8, 9, 10, 11, 12, 13, 14, 15, 16, 17]] rfl (by kernel_rfl) (by kernel_rfl) (by kernel_rfl) (Below.refl _ _) (Z := fun vs => cq _ vs [(2, 18), (83, 17), (82, 16), (81, 15), (80, 14), (79, 13), (78, 12), (77, 11), (76, 10), (75, 9), (74, 8), (73, 7), (72, 6), (71, 5), (70, 4), (69, 3), (68, 2), (67, 1), (66, 0)]) (fun _ => rfl) ?_ ?_
          · skip
            refine VAll.snoc (i := 18) ?_ rfl rfl trivial ?_
            rotate_left
            · intro B z hI hL K E hK
              have hB := hI
              have t83 : B.tmps[83]? = some (.bool pd17) := hL.at_ 17 (by decide) 83 rfl
              clear hL
              refine Box.mk ?_
              go_simp
              exact hK.out _ _ hB rfl
            refine VAll.snoc (i := 17) ?_ rfl rfl trivial ?_
            rotate_left
            · intro B z hI hL K E hK
              have hB := hI
              have t79 : B.tmps[79]? = some (.bool pd12) := hL.at_ 13 (by decide) 79 rfl
              have t82 : B.tmps[82]? = some (cond pd12 (.bool cd16) undef) := hL.at_ 16 (by decide) 82 rfl
              clear hL
              refine Box.mk ?_
              rcases Bool.eq_false_or_eq_true pd12 with hs | hs
              · simp only [hs, cond_true, cond_false] at t79 t82
                go_simp
                exact hK.out _ _ hB (by change _ = (.bool pd17 : Value); rw [← PD17.out]; simp [hs])
              · simp only [hs, cond_true, cond_false] at t79 t82
                go_simp
                exact hK.out _ _ hB (by change _ = (.bool pd17 : Value); rw [← PD17.out]; simp [hs])
            refine VAll.snoc (i := 16) ?_ rfl rfl idle_t ?_
            rotate_left
            · intro B z hI hL hg K E hK
              have hB := hI
              have hg : (.bool pd12 : Value) = .bool true := hg
              have he0 := want_b hg
              clear hg
              have t81 : B.tmps[81]? = some (cond pd12 (.string m.path) undef) := hL.at_ 15 (by decide) 81 rfl
              clear hL
              simp only [he0, cond_true, cond_false] at t81
              refine Box.mk ?_
              go_simp
              with_reducible refine (RValid_any m.path z HWD.out.path).mono ?_
              rintro e w5 ⟨rfl, hb⟩
              rw [CD16.out]
              go_simp
              exact hK.out _ _ (below_on hB hb) (by change _ = cond _ _ _; simp only [he0, cond_true, cond_false])
            refine VAll.snoc (i := 15) ?_ rfl rfl idle_t ?_
            rotate_left
            · intro B z hI hL hg K E hK
              have hB := hI
              have hg : (.bool pd12 : Value) = .bool true := hg
              have he0 := want_b hg
              clear hg
              have t80 : B.tmps[80]? = some (cond pd12 (.pointer (some ⟨w.heap.size, 7, none⟩)) undef) := hL.at_ 14 (by decide) 80 rfl
              clear hL
              simp only [he0, cond_true, cond_false] at t80
              refine Box.mk ?_
              have q := ((Mod.of_below hB []).whole HK2.out (by simp)).cell 7
              unfold cellsM at q
              go_simp
              exact hK.out _ _ hB (by change _ = cond _ _ _; simp only [he0, cond_true, cond_false])
            refine VAll.snoc (i := 14) ?_ rfl rfl idle_t ?_
            rotate_left
            · intro B z hI hL hg K E hK
              have hB := hI
              have hg : (.bool pd12 : Value) = .bool true := hg
              have he0 := want_b hg
              clear hg
              have t1 : B.tmps[1]? = some (.pointer (some ⟨w.heap.size, 0, none⟩)) := (hL.out 1 rfl).trans rfl
              clear hL
              refine Box.mk ?_
              go_simp
              exact hK.out _ _ hB (by change _ = cond _ _ _; simp only [he0, cond_true, cond_false])
            refine VAll.snoc (i := 13) ?_ rfl rfl trivial ?_
            rotate_left
            · intro B z hI hL K E hK
              have hB := hI
              have t78 : B.tmps[78]? = some (.bool pd12) := hL.at_ 12 (by decide) 78 rfl
              clear hL
              refine Box.mk ?_
              go_simp
              exact hK.out _ _ hB rfl
            refine VAll.snoc (i := 12) ?_ rfl rfl trivial ?_
            rotate_left
            · intro B z hI hL K E hK
              have hB := hI
              have t74 : B.tmps[74]? = some (.bool pd7) := hL.at_ 8 (by decide) 74 rfl
              have t77 : B.tmps[77]? = some (cond pd7 (.bool cd11) undef) := hL.at_ 11 (by decide) 77 rfl
              clear hL
              refine Box.mk ?_
              rcases Bool.eq_false_or_eq_true pd7 with hs | hs
              · simp only [hs, cond_true, cond_false] at t74 t77
                go_simp
                exact hK.out _ _ hB (by change _ = (.bool pd12 : Value); rw [← PD12.out]; simp [hs])
              · simp only [hs, cond_true, cond_false] at t74 t77
                go_simp
                exact hK.out _ _ hB (by change _ = (.bool pd12 : Value); rw [← PD12.out]; simp [hs])
            refine VAll.snoc (i := 11) ?_ rfl rfl idle_t ?_
            rotate_left
            · intro B z hI hL hg K E hK
              have hB := hI
              have hg : (.bool pd7 : Value) = .bool true := hg
              have he0 := want_b hg
              clear hg
              have t76 : B.tmps[76]? = some (cond pd7 (.int .i64 m.number) undef) := hL.at_ 10 (by decide) 76 rfl
              clear hL
              simp only [he0, cond_true, cond_false] at t76
              refine Box.mk ?_
              go_simp
              with_reducible refine (RefCounter_any m.number z).mono ?_
              rintro e w5 ⟨rfl, rfl⟩
              rw [CD11.out]
              go_simp
              exact hK.out _ _ hB (by change _ = cond _ _ _; simp only [he0, cond_true, cond_false])
            refine VAll.snoc (i := 10) ?_ rfl rfl idle_t ?_
            rotate_left
            · intro B z hI hL hg K E hK
              have hB := hI
              have hg : (.bool pd7 : Value) = .bool true := hg
              have he0 := want_b hg
              clear hg
              have t75 : B.tmps[75]? = some (cond pd7 (.pointer (some ⟨w.heap.size, 15, none⟩)) undef) := hL.at_ 9 (by decide) 75 rfl
              clear hL
              simp only [he0, cond_true, cond_false] at t75
              refine Box.mk ?_
              have q := ((Mod.of_below hB []).whole HK2.out (by simp)).cell 15
              unfold cellsM at q
              go_simp
              exact hK.out _ _ hB (by change _ = cond _ _ _; simp only [he0, cond_true, cond_false])
            refine VAll.snoc (i := 9) ?_ rfl rfl idle_t ?_
            rotate_left
            · intro B z hI hL hg K E hK
              have hB := hI
              have hg : (.bool pd7 : Value) = .bool true := hg
              have he0 := want_b hg
              clear hg
              have t1 : B.tmps[1]? = some (.pointer (some ⟨w.heap.size, 0, none⟩)) := (hL.out 1 rfl).trans rfl
              clear hL
              refine Box.mk ?_
              go_simp
              exact hK.out _ _ hB (by change _ = cond _ _ _; simp only [he0, cond_true, cond_false])
            refine VAll.snoc (i := 8) ?_ rfl rfl trivial ?_
            rotate_left
            · intro B z hI hL K E hK
              have hB := hI
              have t73 : B.tmps[73]? = some (.bool pd7) := hL.at_ 7 (by decide) 73 rfl
              clear hL
              refine Box.mk ?_
              go_simp
              exact hK.out _ _ hB rfl
            refine VAll.snoc (i := 7) ?_ rfl rfl trivial ?_
            rotate_left
            · intro B z hI hL K E hK
              have hB := hI
              have t69 : B.tmps[69]? = some (.bool cd2) := hL.at_ 3 (by decide) 69 rfl
              have t72 : B.tmps[72]? = some (cond cd2 (.bool cd6) undef) := hL.at_ 6 (by decide) 72 rfl
              clear hL
              refine Box.mk ?_
              rcases Bool.eq_false_or_eq_true cd2 with hs | hs
              · simp only [hs, cond_true, cond_false] at t69 t72
                go_simp
                exact hK.out _ _ hB (by change _ = (.bool pd7 : Value); rw [← PD7.out]; simp [hs])
              · simp only [hs, cond_true, cond_false] at t69 t72
                go_simp
                exact hK.out _ _ hB (by change _ = (.bool pd7 : Value); rw [← PD7.out]; simp [hs])
            refine VAll.snoc (i := 6) ?_ rfl rfl idle_t ?_
            rotate_left
            · intro B z hI hL hg K E hK
              have hB := hI
              have hg : (.bool cd2 : Value) = .bool true := hg
              have he0 := want_b hg
              clear hg
              have t71 : B.tmps[71]? = some (cond cd2 (.int .i64 m.origin) undef) := hL.at_ 5 (by decide) 71 rfl
              clear hL
              simp only [he0, cond_true, cond_false] at t71
              refine Box.mk ?_
              go_simp
              with_reducible refine (RefNode_any m.origin z).mono ?_
              rintro e w5 ⟨rfl, rfl⟩
              rw [CD6.out]
              go_simp
              exact hK.out _ _ hB (by change _ = cond _ _ _; simp only [he0, cond_true, cond_false])
            refine VAll.snoc (i := 5) ?_ rfl rfl idle_t ?_
            rotate_left
            · intro B z hI hL hg K E hK
              have hB := hI
              have hg : (.bool cd2 : Value) = .bool true := hg
              have he0 := want_b hg
              clear hg
              have t70 : B.tmps[70]? = some (cond cd2 (.pointer (some ⟨w.heap.size, 14, none⟩)) undef) := hL.at_ 4 (by decide) 70 rfl
              clear hL
              simp only [he0, cond_true, cond_false] at t70
              refine Box.mk ?_
              have q := ((Mod.of_below hB []).whole HK2.out (by simp)).cell 14
              unfold cellsM at q
              go_simp
              exact hK.out _ _ hB (by change _ = cond _ _ _; simp only [he0, cond_true, cond_false])
            refine VAll.snoc (i := 4) ?_ rfl rfl idle_t ?_
            rotate_left
            · intro B z hI hL hg K E hK
              have hB := hI
              have hg : (.bool cd2 : Value) = .bool true := hg
              have he0 := want_b hg
              clear hg
              have t1 : B.tmps[1]? = some (.pointer (some ⟨w.heap.size, 0, none⟩)) := (hL.out 1 rfl).trans rfl
              clear hL
              refine Box.mk ?_
              go_simp
              exact hK.out _ _ hB (by change _ = cond _ _ _; simp only [he0, cond_true, cond_false])
            refine VAll.snoc (i := 3) ?_ rfl rfl trivial ?_
            rotate_left
            · intro B z hI hL K E hK
              have hB := hI
              have t68 : B.tmps[68]? = some (.bool cd2) := hL.at_ 2 (by decide) 68 rfl
              clear hL
              refine Box.mk ?_
              go_simp
              exact hK.out _ _ hB rfl
            refine VAll.snoc (i := 2) ?_ rfl rfl trivial ?_
            rotate_left
            · intro B z hI hL K E hK
              have hB := hI
              have t67 : B.tmps[67]? = some (.int .i64 m.id) := hL.at_ 1 (by decide) 67 rfl
              clear hL
              refine Box.mk ?_
              go_simp
              with_reducible refine (RefCounter_any m.id z).mono ?_
              rintro e w5 ⟨rfl, rfl⟩
              rw [CD2.out]
              go_simp
              exact hK.out _ _ hB rfl
            refine VAll.snoc (i := 1) ?_ rfl rfl trivial ?_
            rotate_left
            · intro B z hI hL K E hK
              have hB := hI
              have t66 : B.tmps[66]? = some (.pointer (some ⟨w.heap.size, 10, none⟩)) := hL.at_ 0 (by decide) 66 rfl
              clear hL
              refine Box.mk ?_
              have q := ((Mod.of_below hB []).whole HK2.out (by simp)).cell 10
              unfold cellsM at q
              go_simp
              exact hK.out _ _ hB rfl
            refine VAll.snoc (i := 0) ?_ rfl rfl trivial ?_
            rotate_left
            · intro B z hI hL K E hK
              have hB := hI
              have t1 : B.tmps[1]? = some (.pointer (some ⟨w.heap.size, 0, none⟩)) := (hL.out 1 rfl).trans rfl
              clear hL
              refine Box.mk ?_
              go_simp
              exact hK.out _ _ hB rfl
            exact VAll.nil
          · intro vs z hI hall
            have hB := hI
            have e18 : vs 18 = .bool pd17 := hall 18 (by decide)
            clear hall
            refine Box.mk ?_
            simp only [e18, ch, cq, allPut, puts, Act.put, List.setIfInBounds_toArray, List.set_cons_zero, List.set_cons_succ]
            have hz := hB
            have HE := Lib.hid (show pd17 = (((SM.count m.id && WM.node m.origin) && SM.count m.number) && PM.okB m.path.data.toList) by rw [← PD17.out, ← CD16.out, ← PD12.out, ← CD11.out, ← PD7.out, ← CD6.out, ← CD2.out])
            have HW := Lib.hid (show WM.valid m = pd17 by rw [HV.out, if_neg HNK.out, HND.out, Bool.true_and, val_done HU.out HKD.out, HE.out])
            have HX9 := Lib.hid (below_on HX2.out hz)
            clear hz
            clear e18
            go_wp2_with fail
            go_ret
            exact ⟨ret_bool HW.out.symm, HX9.out⟩
        by_cases h4 : m.kind = 4
        · have HKD := Lib.hid (show m.kind = 3 ∨ m.kind = 4 from .inr h4)
          rw [h4] at c0
          clear h4
          go_upto_region 15 with (fail)
          clear c0 c1 c2' c3 c4 c5 c6 c7 c8 c9 c10 c11 c12 c13 c14 c15
          obtain ⟨cd2, h⟩ : ∃ t, t = SM.count m.id := ⟨_, rfl⟩
          have CD2 := Lib.hid h.symm
          clear h
          obtain ⟨cd6, h⟩ : ∃ t, t = WM.node m.origin := ⟨_, rfl⟩
          have CD6 := Lib.hid h.symm
          clear h
          obtain ⟨pd7, h⟩ : ∃ t, t = (cd2 && cd6) := ⟨_, rfl⟩
          have PD7 := Lib.hid h.symm
          clear h
          obtain ⟨cd11, h⟩ : ∃ t, t = SM.count m.number := ⟨_, rfl⟩
          have CD11 := Lib.hid h.symm
          clear h
          obtain ⟨pd12, h⟩ : ∃ t, t = (pd7 && cd11) := ⟨_, rfl⟩
          have PD12 := Lib.hid h.symm
          clear h
          obtain ⟨cd16, h⟩ : ∃ t, t = PM.okB m.path.data.toList := ⟨_, rfl⟩
          have CD16 := Lib.hid h.symm
          clear h
          obtain ⟨pd17, h⟩ : ∃ t, t = (pd12 && cd16) := ⟨_, rfl⟩
          have PD17 := Lib.hid h.symm
          clear h
          refine region_vseq [some 66, some 67, some 68, some 69, some 70, some 71, some 72, some 73, some 74, some 75, some 76, some 77, some 78, some 79, some 80, some 81, some 82, some 83, some 2] [.pointer (some ⟨w.heap.size, 10, none⟩), .int .i64 m.id, .bool cd2, .bool cd2, cond cd2 (.pointer (some ⟨w.heap.size, 14, none⟩)) undef, cond cd2 (.int .i64 m.origin) undef, cond cd2 (.bool cd6) undef, .bool pd7, .bool pd7, cond pd7 (.pointer (some ⟨w.heap.size, 15, none⟩)) undef, cond pd7 (.int .i64 m.number) undef, cond pd7 (.bool cd11) undef, .bool pd12, .bool pd12, cond pd12 (.pointer (some ⟨w.heap.size, 7, none⟩)) undef, cond pd12 (.string m.path) undef, cond pd12 (.bool cd16) undef, .bool pd17, .bool pd17] (fun z => Below y.heap.size y z) [[], [0], [0, 1], [0, 1, 2], [0, 1, 2, 3], [0, 1, 2, 3, 4], [0, 1, 2, 3, 4, 5], [0, 1, 2, 3, 4, 5, 6], [0, 1, 2, 3, 4, 5, 6, 7], [0, 1, 2, 3, 4, 5, 6, 7, 8], [0, 1, 2, 3, 4, 5, 6, 7, 8, 9], [0, 1, 2, 3, 4, 5, 6, 7, 8, 9, 10], [0, 1, 2, 3, 4, 5, 6, 7, 8, 9, 10, 11], [0, 1, 2, 3, 4, 5, 6, 7, 8, 9, 10, 11, 12], [0, 1, 2, 3, 4, 5, 6, 7, 8, 9, 10, 11, 12, 13], [0, 1, 2, 3, 4, 5, 6, 7, 8, 9, 10, 11, 12, 13, 14], [0, 1, 2, 3, 4, 5, 6, 7, 8, 9, 10, 11, 12, 13, 14, 15], [0, 1, 2, 3, 4, 5, 6, 7, 8, 9, 10, 11, 12, 13, 14, 15, 16], [0, 1, 2, 3, 4, 5, 6, 7, 8, 9, 10, 11, 12, 13, 14, 15, 16, 17]] rfl (by kernel_rfl) (by kernel_rfl) (by kernel_rfl) (Below.refl _ _) (Z := fun vs => cq _ vs [(2, 18), (83, 17), (82, 16), (81, 15), (80, 14), (79, 13), (78, 12), (77, 11), (76, 10), (75, 9), (74, 8), (73, 7), (72, 6), (71, 5), (70, 4), (69, 3), (68, 2), (67, 1), (66, 0)]) (fun _ => rfl) ?_ ?_
          · skip
            refine VAll.snoc (i := 18) ?_ rfl rfl trivial ?_
            rotate_left
            · intro B z hI hL K E hK
              have hB := hI
              have t83 : B.tmps[83]? = some (.bool pd17) := hL.at_ 17 (by decide) 83 rfl
              clear hL
              refine Box.mk ?_
              go_simp
              exact hK.out _ _ hB rfl
            refine VAll.snoc (i := 17) ?_ rfl rfl trivial ?_
            rotate_left
            · intro B z hI hL K E hK
              have hB := hI
              have t79 : B.tmps[79]? = some (.bool pd12) := hL.at_ 13 (by decide) 79 rfl
              have t82 : B.tmps[82]? = some (cond pd12 (.bool cd16) undef) := hL.at_ 16 (by decide) 82 rfl
              clear hL
              refine Box.mk ?_
              rcases Bool.eq_false_or_eq_true pd12 with hs | hs
              · simp only [hs, cond_true, cond_false] at t79 t82
                go_simp
                exact hK.out _ _ hB (by change _ = (.bool pd17 : Value); rw [← PD17.out]; simp [hs])
              · simp only [hs, cond_true, cond_false] at t79 t82
                go_simp
                exact hK.out _ _ hB (by change _ = (.bool pd17 : Value); rw [← PD17.out]; simp [hs])
            refine VAll.snoc (i := 16) ?_ rfl rfl idle_t ?_
            rotate_left
            · intro B z hI hL hg K E hK
              have hB := hI
              have hg : (.bool pd12 : Value) = .bool true := hg
              have he0 := want_b hg
              clear hg
              have t81 : B.tmps[81]? = some (cond pd12 (.string m.path) undef) := hL.at_ 15 (by decide) 81 rfl
              clear hL
              simp only [he0, cond_true, cond_false] at t81
              refine Box.mk ?_
              go_simp
              with_reducible refine (RValid_any m.path z HWD.out.path).mono ?_
              rintro e w5 ⟨rfl, hb⟩
              rw [CD16.out]
              go_simp
              exact hK.out _ _ (below_on hB hb) (by change _ = cond _ _ _; simp only [he0, cond_true, cond_false])
            refine VAll.snoc (i := 15) ?_ rfl rfl idle_t ?_
            rotate_left
            · intro B z hI hL hg K E hK
              have hB := hI
              have hg : (.bool pd12 : Value) = .bool true := hg
              have he0 := want_b hg
              clear hg
              have t80 : B.tmps[80]? = some (cond pd12 (.pointer (some ⟨w.heap.size, 7, none⟩)) undef) := hL.at_ 14 (by decide) 80 rfl
              clear hL
              simp only [he0, cond_true, cond_false] at t80
              refine Box.mk ?_
              have q := ((Mod.of_below hB []).whole HK2.out (by simp)).cell 7
              unfold cellsM at q
              go_simp
              exact hK.out _ _ hB (by change _ = cond _ _ _; simp only [he0, cond_true, cond_false])
            refine VAll.snoc (i := 14) ?_ rfl rfl idle_t ?_
            rotate_left
            · intro B z hI hL hg K E hK
              have hB := hI
              have hg : (.bool pd12 : Value) = .bool true := hg
              have he0 := want_b hg
              clear hg
              have t1 : B.tmps[1]? = some (.pointer (some ⟨w.heap.size, 0, none⟩)) := (hL.out 1 rfl).trans rfl
              clear hL
              refine Box.mk ?_
              go_simp
              exact hK.out _ _ hB (by change _ = cond _ _ _; simp only [he0, cond_true, cond_false])
            refine VAll.snoc (i := 13) ?_ rfl rfl trivial ?_
            rotate_left
            · intro B z hI hL K E hK
              have hB := hI
              have t78 : B.tmps[78]? = some (.bool pd12) := hL.at_ 12 (by decide) 78 rfl
              clear hL
              refine Box.mk ?_
              go_simp
              exact hK.out _ _ hB rfl
            refine VAll.snoc (i := 12) ?_ rfl rfl trivial ?_
            rotate_left
            · intro B z hI hL K E hK
              have hB := hI
              have t74 : B.tmps[74]? = some (.bool pd7) := hL.at_ 8 (by decide) 74 rfl
              have t77 : B.tmps[77]? = some (cond pd7 (.bool cd11) undef) := hL.at_ 11 (by decide) 77 rfl
              clear hL
              refine Box.mk ?_
              rcases Bool.eq_false_or_eq_true pd7 with hs | hs
              · simp only [hs, cond_true, cond_false] at t74 t77
                go_simp
                exact hK.out _ _ hB (by change _ = (.bool pd12 : Value); rw [← PD12.out]; simp [hs])
              · simp only [hs, cond_true, cond_false] at t74 t77
                go_simp
                exact hK.out _ _ hB (by change _ = (.bool pd12 : Value); rw [← PD12.out]; simp [hs])
            refine VAll.snoc (i := 11) ?_ rfl rfl idle_t ?_
            rotate_left
            · intro B z hI hL hg K E hK
              have hB := hI
              have hg : (.bool pd7 : Value) = .bool true := hg
              have he0 := want_b hg
              clear hg
              have t76 : B.tmps[76]? = some (cond pd7 (.int .i64 m.number) undef) := hL.at_ 10 (by decide) 76 rfl
              clear hL
              simp only [he0, cond_true, cond_false] at t76
              refine Box.mk ?_
              go_simp
              with_reducible refine (RefCounter_any m.number z).mono ?_
              rintro e w5 ⟨rfl, rfl⟩
              rw [CD11.out]
              go_simp
              exact hK.out _ _ hB (by change _ = cond _ _ _; simp only [he0, cond_true, cond_false])
            refine VAll.snoc (i := 10) ?_ rfl rfl idle_t ?_
            rotate_left
            · intro B z hI hL hg K E hK
              have hB := hI
              have hg : (.bool pd7 : Value) = .bool true := hg
              have he0 := want_b hg
              clear hg
              have t75 : B.tmps[75]? = some (cond pd7 (.pointer (some ⟨w.heap.size, 15, none⟩)) undef) := hL.at_ 9 (by decide) 75 rfl
              clear hL
              simp only [he0, cond_true, cond_false] at t75
              refine Box.mk ?_
              have q := ((Mod.of_below hB []).whole HK2.out (by simp)).cell 15
              unfold cellsM at q
              go_simp
              exact hK.out _ _ hB (by change _ = cond _ _ _; simp only [he0, cond_true, cond_false])
            refine VAll.snoc (i := 9) ?_ rfl rfl idle_t ?_
            rotate_left
            · intro B z hI hL hg K E hK
              have hB := hI
              have hg : (.bool pd7 : Value) = .bool true := hg
              have he0 := want_b hg
              clear hg
              have t1 : B.tmps[1]? = some (.pointer (some ⟨w.heap.size, 0, none⟩)) := (hL.out 1 rfl).trans rfl
              clear hL
              refine Box.mk ?_
              go_simp
              exact hK.out _ _ hB (by change _ = cond _ _ _; simp only [he0, cond_true, cond_false])
            refine VAll.snoc (i := 8) ?_ rfl rfl trivial ?_
            rotate_left
            · intro B z hI hL K E hK
              have hB := hI
              have t73 : B.tmps[73]? = some (.bool pd7) := hL.at_ 7 (by decide) 73 rfl
              clear hL
              refine Box.mk ?_
              go_simp
              exact hK.out _ _ hB rfl
            refine VAll.snoc (i := 7) ?_ rfl rfl trivial ?_
            rotate_left
            · intro B z hI hL K E hK
              have hB := hI
              have t69 : B.tmps[69]? = some (.bool cd2) := hL.at_ 3 (by decide) 69 rfl
              have t72 : B.tmps[72]? = some (cond cd2 (.bool cd6) undef) := hL.at_ 6 (by decide) 72 rfl
              clear hL
              refine Box.mk ?_
              rcases Bool.eq_false_or_eq_true cd2 with hs | hs
              · simp only [hs, cond_true, cond_false] at t69 t72
                go_simp
                exact hK.out _ _ hB (by change _ = (.bool pd7 : Value); rw [← PD7.out]; simp [hs])
              · simp only [hs, cond_true, cond_false] at t69 t72
                go_simp
                exact hK.out _ _ hB (by change _ = (.bool pd7 : Value); rw [← PD7.out]; simp [hs])
            refine VAll.snoc (i := 6) ?_ rfl rfl idle_t ?_
            rotate_left
            · intro B z hI hL hg K E hK
              have hB := hI
              have hg : (.bool cd2 : Value) = .bool true := hg
              have he0 := want_b hg
              clear hg
              have t71 : B.tmps[71]? = some (cond cd2 (.int .i64 m.origin) undef) := hL.at_ 5 (by decide) 71 rfl
              clear hL
              simp only [he0, cond_true, cond_false] at t71
              refine Box.mk ?_
              go_simp
              with_reducible refine (RefNode_any m.origin z).mono ?_
              rintro e w5 ⟨rfl, rfl⟩
              rw [CD6.out]
              go_simp
              exact hK.out _ _ hB (by change _ = cond _ _ _; simp only [he0, cond_true, cond_false])
            refine VAll.snoc (i := 5) ?_ rfl rfl idle_t ?_
            rotate_left
            · intro B z hI hL hg K E hK
              have hB := hI
              have hg : (.bool cd2 : Value) = .bool true := hg
              have he0 := want_b hg
              clear hg
              have t70 : B.tmps[70]? = some (cond cd2 (.pointer (some ⟨w.heap.size, 14, none⟩)) undef) := hL.at_ 4 (by decide) 70 rfl
              clear hL
              simp only [he0, cond_true, cond_false] at t70
              refine Box.mk ?_
              have q := ((Mod.of_below hB []).whole HK2.out (by simp)).cell 14
              unfold cellsM at q
              go_simp
              exact hK.out _ _ hB (by change _ = cond _ _ _; simp only [he0, cond_true, cond_false])
            refine VAll.snoc (i := 4) ?_ rfl rfl idle_t ?_
            rotate_left
            · intro B z hI hL hg K E hK
              have hB := hI
              have hg : (.bool cd2 : Value) = .bool true := hg
              have he0 := want_b hg
              clear hg
              have t1 : B.tmps[1]? = some (.pointer (some ⟨w.heap.size, 0, none⟩)) := (hL.out 1 rfl).trans rfl
              clear hL
              refine Box.mk ?_
              go_simp
              exact hK.out _ _ hB (by change _ = cond _ _ _; simp only [he0, cond_true, cond_false])
            refine VAll.snoc (i := 3) ?_ rfl rfl trivial ?_
            rotate_left
            · intro B z hI hL K E hK
              have hB := hI
              have t68 : B.tmps[68]? = some (.bool cd2) := hL.at_ 2 (by decide) 68 rfl
              clear hL
              refine Box.mk ?_
              go_simp
              exact hK.out _ _ hB rfl
            refine VAll.snoc (i := 2) ?_ rfl rfl trivial ?_
            rotate_left
            · intro B z hI hL K E hK
              have hB := hI
              have t67 : B.tmps[67]? = some (.int .i64 m.id) := hL.at_ 1 (by decide) 67 rfl
              clear hL
              refine Box.mk ?_
              go_simp
              with_reducible refine (RefCounter_any m.id z).mono ?_
              rintro e w5 ⟨rfl, rfl⟩
              rw [CD2.out]
              go_simp
              exact hK.out _ _ hB rfl
            refine VAll.snoc (i := 1) ?_ rfl rfl trivial ?_
            rotate_left
            · intro B z hI hL K E hK
              have hB := hI
              have t66 : B.tmps[66]? = some (.pointer (some ⟨w.heap.size, 10, none⟩)) := hL.at_ 0 (by decide) 66 rfl
              clear hL
              refine Box.mk ?_
              have q := ((Mod.of_below hB []).whole HK2.out (by simp)).cell 10
              unfold cellsM at q
              go_simp
              exact hK.out _ _ hB rfl
            refine VAll.snoc (i := 0) ?_ rfl rfl trivial ?_
            rotate_left
            · intro B z hI hL K E hK
              have hB := hI
              have t1 : B.tmps[1]? = some (.pointer (some ⟨w.heap.size, 0, none⟩)) := (hL.out 1 rfl).trans rfl
              clear hL
              refine Box.mk ?_
              go_simp
              exact hK.out _ _ hB rfl
            exact VAll.nil
          · intro vs z hI hall
            have hB := hI
            have e18 : vs 18 = .bool pd17 := hall 18 (by decide)
            clear hall
            refine Box.mk ?_
            simp only [e18, ch, cq, allPut, puts, Act.put, List.setIfInBounds_toArray, List.set_cons_zero, List.set_cons_succ]
            have hz := hB
            have HE := Lib.hid (show pd17 = (((SM.count m.id && WM.node m.origin) && SM.count m.number) && PM.okB m.path.data.toList) by rw [← PD17.out, ← CD16.out, ← PD12.out, ← CD11.out, ← PD7.out, ← CD6.out, ← CD2.out])
            have HW := Lib.hid (show WM.valid m = pd17 by rw [HV.out, if_neg HNK.out, HND.out, Bool.true_and, val_done HU.out HKD.out, HE.out])
            have HX9 := Lib.hid (below_on HX2.out hz)
            clear hz
            clear e18
            go_wp2_with fail
            go_ret
            exact ⟨ret_bool HW.out.symm, HX9.out⟩
        have HW := Lib.hid (show WM.valid m = false by rw [HV.out, val_none h1 h2 h3 h4 HNK.out, Bool.and_false])
        have k1 : (m.kind == 1) = false := by simpa using h1
        have k2 : (m.kind == 2) = false := by simpa using h2
        have k3 : (m.kind == 3) = false := by simpa using h3
        have k4 : (m.kind == 4) = false := by simpa using h4
        clear h1 h2 h3 h4
        go_wp2_with fail
        go_ret
        exact ⟨ret_bool HW.out.symm, HX2.out⟩
end Go.Proofs.Ytboflkadabagfaa
