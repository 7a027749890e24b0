/- Two messages: the document's call. -/
import Derived.Test.YtbjemihcbbiiaaaWireF
import Derived.Test.YtbjemihcbbiiaaaWireA
import Derived.Test.YtbjemihcbbiiaaaEV
namespace Go.Proofs.Ytbjemihcbbiiaaa
open Go.RowKit
open Oct (BytesAt u8s)
open WM (Msg)
set_option linter.unusedVariables false
set_option linter.unusedSimpArgs false
set_option maxRecDepth 100000
theorem path_beq {x y : ByteArray} : (x.toList == y.toList) = decide (x = y) := by
  rw [Bool.eq_iff_iff]
  simp only [beq_iff_eq, decide_eq_true_eq]
  constructor
  · intro e
    rw [Lib.toList_data, Lib.toList_data] at e
    exact ByteArray.ext (by simpa using congrArg List.toArray e)
  · intro e
    rw [e]
theorem beq_dec {α : Type} [DecidableEq α] {x y : α} : (x == y) = decide (x = y) := by
  rw [Bool.eq_iff_iff]
  simp
set_option maxHeartbeats 8000000 in
theorem r6_Same (A B : Option Addr) (c d : Nat) (a b : Msg) (w : World) (hA : IntsAt w A a.stamp) (hB : IntsAt w B b.stamp) (ha : a.stamp.length ≤ c) (hb : b.stamp.length ≤ d) (hc : c ≤ 9223372036854775807) (hd : d ≤ 9223372036854775807) :
    Calls Try.prog 19 #[.agg (cellsM a (.slice A a.stamp.length c)), .agg (cellsM b (.slice B b.stamp.length d))] w fun e w' => e = .returned (.bool (decide (a = b))) ∧ Below w.heap.size w w' := by
  have HX := Lib.hid (((Below.refl _ w).alloc (Nat.le_refl _) (.cells (cellsM a (.slice A a.stamp.length c)) 32)).alloc (by simp) (.cells (cellsM b (.slice B b.stamp.length d)) 32))
  have HKA := Lib.hid ((Whole.new w 32 (cellsM a (.slice A a.stamp.length c))).alloc (.cells (cellsM b (.slice B b.stamp.length d)) 32))
  have HKB := Lib.hid (show Whole ((w.alloc (.cells (cellsM a (.slice A a.stamp.length c)) 32)).alloc (.cells (cellsM b (.slice B b.stamp.length d)) 32)) (w.heap.size + 1) 32 (cellsM b (.slice B b.stamp.length d)) from by have h := Whole.new (w.alloc (.cells (cellsM a (.slice A a.stamp.length c)) 32)) 32 (cellsM b (.slice B b.stamp.length d)); have e : (w.alloc (.cells (cellsM a (.slice A a.stamp.length c)) 32)).heap.size = w.heap.size + 1 := (by simp); rw [e] at h; exact h)
  have HA := Lib.hid (hA.below HX.out)
  have HB := Lib.hid (hB.below HX.out)
  clear hA hB
  go_enter Try.func19, Try.ntmps19
  go_upto_region 1 with (fail)
  generalize (w.alloc (.cells (cellsM a (.slice A a.stamp.length c)) 32)).alloc (.cells (cellsM b (.slice B b.stamp.length d)) 32) = w4 at HX HKA HKB HA HB ⊢
  have ca := HKA.out.cell 13
  have cb := HKB.out.cell 13
  unfold cellsM at ca cb
  go_wp2_with fail
  refine (SameInts_any A B c d a.stamp b.stamp _ HA.out HB.out ha hb hc hd).mono ?_
  rintro e w5 ⟨rfl, hb5⟩
  clear ca cb
  have HX5 := Lib.hid (below_on HX.out hb5)
  have HKA5 := Lib.hid ((Mod.of_below hb5 []).whole HKA.out (by simp))
  have HKB5 := Lib.hid ((Mod.of_below hb5 []).whole HKB.out (by simp))
  clear hb5 HX HKA HKB HA HB
  by_cases hs : a.stamp = b.stamp
  · rw [decide_eq_true hs]
    have HS := Lib.hid hs
    clear hs
    go_upto_region 3 with (fail)
    obtain ⟨a0, a1, a2, a3, a4, a5, a6, a7, a8, a9, a10, a11, a12, a13, a14, a15⟩ := msg_cells HKA5.out
    obtain ⟨b0, b1, b2, b3, b4, b5, b6, b7, b8, b9, b10, b11, b12, b13, b14, b15⟩ := msg_cells HKB5.out
    clear a13 b13
    obtain ⟨t0, h0⟩ : ∃ t, t = (a.kind == b.kind) := ⟨_, rfl⟩
    have H0 := Lib.hid h0.symm
    obtain ⟨t1, h1⟩ : ∃ t, t = (a.frm == b.frm) := ⟨_, rfl⟩
    have H1 := Lib.hid h1.symm
    obtain ⟨t2, h2⟩ : ∃ t, t = (a.dst == b.dst) := ⟨_, rfl⟩
    have H2 := Lib.hid h2.symm
    obtain ⟨t3, h3⟩ : ∃ t, t = (a.boot == b.boot) := ⟨_, rfl⟩
    have H3 := Lib.hid h3.symm
    obtain ⟨t4, h4⟩ : ∃ t, t = (a.seq == b.seq) := ⟨_, rfl⟩
    have H4 := Lib.hid h4.symm
    obtain ⟨t5, h5⟩ : ∃ t, t = (a.low == b.low) := ⟨_, rfl⟩
    have H5 := Lib.hid h5.symm
    obtain ⟨t6, h6⟩ : ∃ t, t = (a.verb == b.verb) := ⟨_, rfl⟩
    have H6 := Lib.hid h6.symm
    obtain ⟨t7, h7⟩ : ∃ t, t = (a.path.toList == b.path.toList) := ⟨_, rfl⟩
    have H7 := Lib.hid h7.symm
    obtain ⟨t8, h8⟩ : ∃ t, t = (a.mode == b.mode) := ⟨_, rfl⟩
    have H8 := Lib.hid h8.symm
    obtain ⟨t9, h9⟩ : ∃ t, t = (a.term == b.term) := ⟨_, rfl⟩
    have H9 := Lib.hid h9.symm
    obtain ⟨t10, h10⟩ : ∃ t, t = (a.id == b.id) := ⟨_, rfl⟩
    have H10 := Lib.hid h10.symm
    obtain ⟨t11, h11⟩ : ∃ t, t = (a.fresh == b.fresh) := ⟨_, rfl⟩
    have H11 := Lib.hid h11.symm
    obtain ⟨t12, h12⟩ : ∃ t, t = (a.code == b.code) := ⟨_, rfl⟩
    have H12 := Lib.hid h12.symm
    obtain ⟨t13, h13⟩ : ∃ t, t = (a.origin == b.origin) := ⟨_, rfl⟩
    have H13 := Lib.hid h13.symm
    obtain ⟨t14, h14⟩ : ∃ t, t = (a.number == b.number) := ⟨_, rfl⟩
    have H14 := Lib.hid h14.symm
    obtain ⟨p1, q1⟩ : ∃ t, t = (t0 && t1) := ⟨_, rfl⟩
    have P1 := Lib.hid q1.symm
    obtain ⟨p2, q2⟩ : ∃ t, t = (p1 && t2) := ⟨_, rfl⟩
    have P2 := Lib.hid q2.symm
    obtain ⟨p3, q3⟩ : ∃ t, t = (p2 && t3) := ⟨_, rfl⟩
    have P3 := Lib.hid q3.symm
    obtain ⟨p4, q4⟩ : ∃ t, t = (p3 && t4) := ⟨_, rfl⟩
    have P4 := Lib.hid q4.symm
    obtain ⟨p5, q5⟩ : ∃ t, t = (p4 && t5) := ⟨_, rfl⟩
    have P5 := Lib.hid q5.symm
    obtain ⟨p6, q6⟩ : ∃ t, t = (p5 && t6) := ⟨_, rfl⟩
    have P6 := Lib.hid q6.symm
    obtain ⟨p7, q7⟩ : ∃ t, t = (p6 && t7) := ⟨_, rfl⟩
    have P7 := Lib.hid q7.symm
    obtain ⟨p8, q8⟩ : ∃ t, t = (p7 && t8) := ⟨_, rfl⟩
    have P8 := Lib.hid q8.symm
    obtain ⟨p9, q9⟩ : ∃ t, t = (p8 && t9) := ⟨_, rfl⟩
    have P9 := Lib.hid q9.symm
    obtain ⟨p10, q10⟩ : ∃ t, t = (p9 && t10) := ⟨_, rfl⟩
    have P10 := Lib.hid q10.symm
    obtain ⟨p11, q11⟩ : ∃ t, t = (p10 && t11) := ⟨_, rfl⟩
    have P11 := Lib.hid q11.symm
    obtain ⟨p12, q12⟩ : ∃ t, t = (p11 && t12) := ⟨_, rfl⟩
    have P12 := Lib.hid q12.symm
    obtain ⟨p13, q13⟩ : ∃ t, t = (p12 && t13) := ⟨_, rfl⟩
    have P13 := Lib.hid q13.symm
    obtain ⟨p14, q14⟩ : ∃ t, t = (p13 && t14) := ⟨_, rfl⟩
    have P14 := Lib.hid q14.symm
    clear h0 h1 h2 h3 h4 h5 h6 h7 h8 h9 h10 h11 h12 h13 h14 q1 q2 q3 q4 q5 q6 q7 q8 q9 q10 q11 q12 q13 q14
    have HE := Lib.hid (show p14 = decide (a = b) by
      rw [← P14.out, ← P13.out, ← P12.out, ← P11.out, ← P10.out, ← P9.out, ← P8.out, ← P7.out, ← P6.out, ← P5.out, ← P4.out, ← P3.out, ← P2.out, ← P1.out, ← H0.out, ← H1.out, ← H2.out, ← H3.out, ← H4.out, ← H5.out, ← H6.out, ← H7.out, ← H8.out, ← H9.out, ← H10.out, ← H11.out, ← H12.out, ← H13.out, ← H14.out]
      rw [Bool.eq_iff_iff]
      simp only [path_beq, beq_dec, Bool.and_eq_true, decide_eq_true_eq]
      have hs := HS.out
      constructor
      · rintro ⟨⟨⟨⟨⟨⟨⟨⟨⟨⟨⟨⟨⟨⟨h0, h1⟩, h2⟩, h3⟩, h4⟩, h5⟩, h6⟩, h7⟩, h8⟩, h9⟩, h10⟩, h11⟩, h12⟩, h13⟩, h14⟩
        cases a
        cases b
        simp_all
      · rintro rfl
        simp)
    refine region_vseq [some 11, some 12, some 13, some 14, some 15, some 16, some 17, some 18, some 19, some 20, some 21, some 22, some 23, some 24, some 25, some 26, some 27, some 28, some 29, some 30, some 31, some 32, some 33, some 34, some 35, some 36, some 37, some 38, some 39, some 40, some 41, some 42, some 43, some 44, some 45, some 46, some 47, some 48, some 49, some 50, some 51, some 52, some 53, some 54, some 55, some 56, some 57, some 58, some 59, some 60, some 61, some 62, some 63, some 64, some 65, some 66, some 67, some 68, some 69, some 70, some 71, some 72, some 73, some 74, some 75, some 76, some 77, some 78, some 79, some 80, some 81, some 82, some 83, some 84, some 85, some 86, some 87, some 88, some 89, some 90, some 91, some 92, some 93, some 94, some 95, some 96, some 97, some 98, some 99, some 100, some 101, some 102, some 103, some 104, some 105, some 106, some 107, some 108, some 109, some 110, some 111, some 112, some 113, some 4] [.pointer (some ⟨w.heap.size, 0, none⟩), .int .i64 a.kind, .pointer (some ⟨w.heap.size + 1, 0, none⟩), .int .i64 b.kind, .bool t0, .bool t0, cond t0 (.pointer (some ⟨w.heap.size, 1, none⟩)) undef, cond t0 (.int .i64 a.frm) undef, cond t0 (.pointer (some ⟨w.heap.size + 1, 1, none⟩)) undef, cond t0 (.int .i64 b.frm) undef, cond t0 (.bool t1) undef, .bool p1, .bool p1, cond p1 (.pointer (some ⟨w.heap.size, 2, none⟩)) undef, cond p1 (.int .i64 a.dst) undef, cond p1 (.pointer (some ⟨w.heap.size + 1, 2, none⟩)) undef, cond p1 (.int .i64 b.dst) undef, cond p1 (.bool t2) undef, .bool p2, .bool p2, cond p2 (.pointer (some ⟨w.heap.size, 3, none⟩)) undef, cond p2 (.int .i64 a.boot) undef, cond p2 (.pointer (some ⟨w.heap.size + 1, 3, none⟩)) undef, cond p2 (.int .i64 b.boot) undef, cond p2 (.bool t3) undef, .bool p3, .bool p3, cond p3 (.pointer (some ⟨w.heap.size, 4, none⟩)) undef, cond p3 (.int .i64 a.seq) undef, cond p3 (.pointer (some ⟨w.heap.size + 1, 4, none⟩)) undef, cond p3 (.int .i64 b.seq) undef, cond p3 (.bool t4) undef, .bool p4, .bool p4, cond p4 (.pointer (some ⟨w.heap.size, 5, none⟩)) undef, cond p4 (.int .i64 a.low) undef, cond p4 (.pointer (some ⟨w.heap.size + 1, 5, none⟩)) undef, cond p4 (.int .i64 b.low) undef, cond p4 (.bool t5) undef, .bool p5, .bool p5, cond p5 (.pointer (some ⟨w.heap.size, 6, none⟩)) undef, cond p5 (.int .i64 a.verb) undef, cond p5 (.pointer (some ⟨w.heap.size + 1, 6, none⟩)) undef, cond p5 (.int .i64 b.verb) undef, cond p5 (.bool t6) undef, .bool p6, .bool p6, cond p6 (.pointer (some ⟨w.heap.size, 7, none⟩)) undef, cond p6 (.string a.path) undef, cond p6 (.pointer (some ⟨w.heap.size + 1, 7, none⟩)) undef, cond p6 (.string b.path) undef, cond p6 (.bool t7) undef, .bool p7, .bool p7, cond p7 (.pointer (some ⟨w.heap.size, 8, none⟩)) undef, cond p7 (.int .i64 a.mode) undef, cond p7 (.pointer (some ⟨w.heap.size + 1, 8, none⟩)) undef, cond p7 (.int .i64 b.mode) undef, cond p7 (.bool t8) undef, .bool p8, .bool p8, cond p8 (.pointer (some ⟨w.heap.size, 9, none⟩)) undef, cond p8 (.int .i64 a.term) undef, cond p8 (.pointer (some ⟨w.heap.size + 1, 9, none⟩)) undef, cond p8 (.int .i64 b.term) undef, cond p8 (.bool t9) undef, .bool p9, .bool p9, cond p9 (.pointer (some ⟨w.heap.size, 10, none⟩)) undef, cond p9 (.int .i64 a.id) undef, cond p9 (.pointer (some ⟨w.heap.size + 1, 10, none⟩)) undef, cond p9 (.int .i64 b.id) undef, cond p9 (.bool t10) undef, .bool p10, .bool p10, cond p10 (.pointer (some ⟨w.heap.size, 11, none⟩)) undef, cond p10 (.bool a.fresh) undef, cond p10 (.pointer (some ⟨w.heap.size + 1, 11, none⟩)) undef, cond p10 (.bool b.fresh) undef, cond p10 (.bool t11) undef, .bool p11, .bool p11, cond p11 (.pointer (some ⟨w.heap.size, 12, none⟩)) undef, cond p11 (.int .i64 a.code) undef, cond p11 (.pointer (some ⟨w.heap.size + 1, 12, none⟩)) undef, cond p11 (.int .i64 b.code) undef, cond p11 (.bool t12) undef, .bool p12, .bool p12, cond p12 (.pointer (some ⟨w.heap.size, 14, none⟩)) undef, cond p12 (.int .i64 a.origin) undef, cond p12 (.pointer (some ⟨w.heap.size + 1, 14, none⟩)) undef, cond p12 (.int .i64 b.origin) undef, cond p12 (.bool t13) undef, .bool p13, .bool p13, cond p13 (.pointer (some ⟨w.heap.size, 15, none⟩)) undef, cond p13 (.int .i64 a.number) undef, cond p13 (.pointer (some ⟨w.heap.size + 1, 15, none⟩)) undef, cond p13 (.int .i64 b.number) undef, cond p13 (.bool t14) undef, .bool p14, .bool p14] (fun y => y = w5) [[], [0], [], [2], [0, 1, 2, 3], [0, 1, 2, 3, 4], [0, 1, 2, 3, 4, 5], [0, 1, 2, 3, 4, 5, 6], [0, 1, 2, 3, 4, 5], [0, 1, 2, 3, 4, 5, 8], [0, 1, 2, 3, 4, 5, 6, 7, 8, 9], [0, 1, 2, 3, 4, 5, 6, 7, 8, 9, 10], [0, 1, 2, 3, 4, 5, 6, 7, 8, 9, 10, 11], [0, 1, 2, 3, 4, 5, 6, 7, 8, 9, 10, 11, 12], [0, 1, 2, 3, 4, 5, 6, 7, 8, 9, 10, 11, 12, 13], [0, 1, 2, 3, 4, 5, 6, 7, 8, 9, 10, 11, 12], [0, 1, 2, 3, 4, 5, 6, 7, 8, 9, 10, 11, 12, 15], [0, 1, 2, 3, 4, 5, 6, 7, 8, 9, 10, 11, 12, 13, 14, 15, 16], [0, 1, 2, 3, 4, 5, 6, 7, 8, 9, 10, 11, 12, 13, 14, 15, 16, 17], [0, 1, 2, 3, 4, 5, 6, 7, 8, 9, 10, 11, 12, 13, 14, 15, 16, 17, 18], [0, 1, 2, 3, 4, 5, 6, 7, 8, 9, 10, 11, 12, 13, 14, 15, 16, 17, 18, 19], [0, 1, 2, 3, 4, 5, 6, 7, 8, 9, 10, 11, 12, 13, 14, 15, 16, 17, 18, 19, 20], [0, 1, 2, 3, 4, 5, 6, 7, 8, 9, 10, 11, 12, 13, 14, 15, 16, 17, 18, 19], [0, 1, 2, 3, 4, 5, 6, 7, 8, 9, 10, 11, 12, 13, 14, 15, 16, 17, 18, 19, 22], [0, 1, 2, 3, 4, 5, 6, 7, 8, 9, 10, 11, 12, 13, 14, 15, 16, 17, 18, 19, 20, 21, 22, 23], [0, 1, 2, 3, 4, 5, 6, 7, 8, 9, 10, 11, 12, 13, 14, 15, 16, 17, 18, 19, 20, 21, 22, 23, 24], [0, 1, 2, 3, 4, 5, 6, 7, 8, 9, 10, 11, 12, 13, 14, 15, 16, 17, 18, 19, 20, 21, 22, 23, 24, 25], [0, 1, 2, 3, 4, 5, 6, 7, 8, 9, 10, 11, 12, 13, 14, 15, 16, 17, 18, 19, 20, 21, 22, 23, 24, 25, 26], [0, 1, 2, 3, 4, 5, 6, 7, 8, 9, 10, 11, 12, 13, 14, 15, 16, 17, 18, 19, 20, 21, 22, 23, 24, 25, 26, 27], [0, 1, 2, 3, 4, 5, 6, 7, 8, 9, 10, 11, 12, 13, 14, 15, 16, 17, 18, 19, 20, 21, 22, 23, 24, 25, 26], [0, 1, 2, 3, 4, 5, 6, 7, 8, 9, 10, 11, 12, 13, 14, 15, 16, 17, 18, 19, 20, 21, 22, 23, 24, 25, 26, 29], [0, 1, 2, 3, 4, 5, 6, 7, 8, 9, 10, 11, 12, 13, 14, 15, 16, 17, 18, 19, 20, 21, 22, 23, 24, 25, 26, 27, 28, 29, 30], [0, 1, 2, 3, 4, 5, 6, 7, 8, 9, 10, 11, 12, 13, 14, 15, 16, 17, 18, 19, 20, 21, 22, 23, 24, 25, 26, 27, 28, 29, 30, 31], [0, 1, 2, 3, 4, 5, 6, 7, 8, 9, 10, 11, 12, 13, 14, 15, 16, 17, 18, 19, 20, 21, 22, 23, 24, 25, 26, 27, 28, 29, 30, 31, 32], [0, 1, 2, 3, 4, 5, 6, 7, 8, 9, 10, 11, 12, 13, 14, 15, 16, 17, 18, 19, 20, 21, 22, 23, 24, 25, 26, 27, 28, 29, 30, 31, 32, 33], [0, 1, 2, 3, 4, 5, 6, 7, 8, 9, 10, 11, 12, 13, 14, 15, 16, 17, 18, 19, 20, 21, 22, 23, 24, 25, 26, 27, 28, 29, 30, 31, 32, 33, 34], [0, 1, 2, 3, 4, 5, 6, 7, 8, 9, 10, 11, 12, 13, 14, 15, 16, 17, 18, 19, 20, 21, 22, 23, 24, 25, 26, 27, 28, 29, 30, 31, 32, 33], [0, 1, 2, 3, 4, 5, 6, 7, 8, 9, 10, 11, 12, 13, 14, 15, 16, 17, 18, 19, 20, 21, 22, 23, 24, 25, 26, 27, 28, 29, 30, 31, 32, 33, 36], [0, 1, 2, 3, 4, 5, 6, 7, 8, 9, 10, 11, 12, 13, 14, 15, 16, 17, 18, 19, 20, 21, 22, 23, 24, 25, 26, 27, 28, 29, 30, 31, 32, 33, 34, 35, 36, 37], [0, 1, 2, 3, 4, 5, 6, 7, 8, 9, 10, 11, 12, 13, 14, 15, 16, 17, 18, 19, 20, 21, 22, 23, 24, 25, 26, 27, 28, 29, 30, 31, 32, 33, 34, 35, 36, 37, 38], [0, 1, 2, 3, 4, 5, 6, 7, 8, 9, 10, 11, 12, 13, 14, 15, 16, 17, 18, 19, 20, 21, 22, 23, 24, 25, 26, 27, 28, 29, 30, 31, 32, 33, 34, 35, 36, 37, 38, 39], [0, 1, 2, 3, 4, 5, 6, 7, 8, 9, 10, 11, 12, 13, 14, 15, 16, 17, 18, 19, 20, 21, 22, 23, 24, 25, 26, 27, 28, 29, 30, 31, 32, 33, 34, 35, 36, 37, 38, 39, 40], [0, 1, 2, 3, 4, 5, 6, 7, 8, 9, 10, 11, 12, 13, 14, 15, 16, 17, 18, 19, 20, 21, 22, 23, 24, 25, 26, 27, 28, 29, 30, 31, 32, 33, 34, 35, 36, 37, 38, 39, 40, 41], [0, 1, 2, 3, 4, 5, 6, 7, 8, 9, 10, 11, 12, 13, 14, 15, 16, 17, 18, 19, 20, 21, 22, 23, 24, 25, 26, 27, 28, 29, 30, 31, 32, 33, 34, 35, 36, 37, 38, 39, 40], [0, 1, 2, 3, 4, 5, 6, 7, 8, 9, 10, 11, 12, 13, 14, 15, 16, 17, 18, 19, 20, 21, 22, 23, 24, 25, 26, 27, 28, 29, 30, 31, 32, 33, 34, 35, 36, 37, 38, 39, 40, 43], [0, 1, 2, 3, 4, 5, 6, 7, 8, 9, 10, 11, 12, 13, 14, 15, 16, 17, 18, 19, 20, 21, 22, 23, 24, 25, 26, 27, 28, 29, 30, 31, 32, 33, 34, 35, 36, 37, 38, 39, 40, 41, 42, 43, 44], [0, 1, 2, 3, 4, 5, 6, 7, 8, 9, 10, 11, 12, 13, 14, 15, 16, 17, 18, 19, 20, 21, 22, 23, 24, 25, 26, 27, 28, 29, 30, 31, 32, 33, 34, 35, 36, 37, 38, 39, 40, 41, 42, 43, 44, 45], [0, 1, 2, 3, 4, 5, 6, 7, 8, 9, 10, 11, 12, 13, 14, 15, 16, 17, 18, 19, 20, 21, 22, 23, 24, 25, 26, 27, 28, 29, 30, 31, 32, 33, 34, 35, 36, 37, 38, 39, 40, 41, 42, 43, 44, 45, 46], [0, 1, 2, 3, 4, 5, 6, 7, 8, 9, 10, 11, 12, 13, 14, 15, 16, 17, 18, 19, 20, 21, 22, 23, 24, 25, 26, 27, 28, 29, 30, 31, 32, 33, 34, 35, 36, 37, 38, 39, 40, 41, 42, 43, 44, 45, 46, 47], [0, 1, 2, 3, 4, 5, 6, 7, 8, 9, 10, 11, 12, 13, 14, 15, 16, 17, 18, 19, 20, 21, 22, 23, 24, 25, 26, 27, 28, 29, 30, 31, 32, 33, 34, 35, 36, 37, 38, 39, 40, 41, 42, 43, 44, 45, 46, 47, 48], [0, 1, 2, 3, 4, 5, 6, 7, 8, 9, 10, 11, 12, 13, 14, 15, 16, 17, 18, 19, 20, 21, 22, 23, 24, 25, 26, 27, 28, 29, 30, 31, 32, 33, 34, 35, 36, 37, 38, 39, 40, 41, 42, 43, 44, 45, 46, 47], [0, 1, 2, 3, 4, 5, 6, 7, 8, 9, 10, 11, 12, 13, 14, 15, 16, 17, 18, 19, 20, 21, 22, 23, 24, 25, 26, 27, 28, 29, 30, 31, 32, 33, 34, 35, 36, 37, 38, 39, 40, 41, 42, 43, 44, 45, 46, 47, 50], [0, 1, 2, 3, 4, 5, 6, 7, 8, 9, 10, 11, 12, 13, 14, 15, 16, 17, 18, 19, 20, 21, 22, 23, 24, 25, 26, 27, 28, 29, 30, 31, 32, 33, 34, 35, 36, 37, 38, 39, 40, 41, 42, 43, 44, 45, 46, 47, 48, 49, 50, 51], [0, 1, 2, 3, 4, 5, 6, 7, 8, 9, 10, 11, 12, 13, 14, 15, 16, 17, 18, 19, 20, 21, 22, 23, 24, 25, 26, 27, 28, 29, 30, 31, 32, 33, 34, 35, 36, 37, 38, 39, 40, 41, 42, 43, 44, 45, 46, 47, 48, 49, 50, 51, 52], [0, 1, 2, 3, 4, 5, 6, 7, 8, 9, 10, 11, 12, 13, 14, 15, 16, 17, 18, 19, 20, 21, 22, 23, 24, 25, 26, 27, 28, 29, 30, 31, 32, 33, 34, 35, 36, 37, 38, 39, 40, 41, 42, 43, 44, 45, 46, 47, 48, 49, 50, 51, 52, 53], [0, 1, 2, 3, 4, 5, 6, 7, 8, 9, 10, 11, 12, 13, 14, 15, 16, 17, 18, 19, 20, 21, 22, 23, 24, 25, 26, 27, 28, 29, 30, 31, 32, 33, 34, 35, 36, 37, 38, 39, 40, 41, 42, 43, 44, 45, 46, 47, 48, 49, 50, 51, 52, 53, 54], [0, 1, 2, 3, 4, 5, 6, 7, 8, 9, 10, 11, 12, 13, 14, 15, 16, 17, 18, 19, 20, 21, 22, 23, 24, 25, 26, 27, 28, 29, 30, 31, 32, 33, 34, 35, 36, 37, 38, 39, 40, 41, 42, 43, 44, 45, 46, 47, 48, 49, 50, 51, 52, 53, 54, 55], [0, 1, 2, 3, 4, 5, 6, 7, 8, 9, 10, 11, 12, 13, 14, 15, 16, 17, 18, 19, 20, 21, 22, 23, 24, 25, 26, 27, 28, 29, 30, 31, 32, 33, 34, 35, 36, 37, 38, 39, 40, 41, 42, 43, 44, 45, 46, 47, 48, 49, 50, 51, 52, 53, 54], [0, 1, 2, 3, 4, 5, 6, 7, 8, 9, 10, 11, 12, 13, 14, 15, 16, 17, 18, 19, 20, 21, 22, 23, 24, 25, 26, 27, 28, 29, 30, 31, 32, 33, 34, 35, 36, 37, 38, 39, 40, 41, 42, 43, 44, 45, 46, 47, 48, 49, 50, 51, 52, 53, 54, 57], [0, 1, 2, 3, 4, 5, 6, 7, 8, 9, 10, 11, 12, 13, 14, 15, 16, 17, 18, 19, 20, 21, 22, 23, 24, 25, 26, 27, 28, 29, 30, 31, 32, 33, 34, 35, 36, 37, 38, 39, 40, 41, 42, 43, 44, 45, 46, 47, 48, 49, 50, 51, 52, 53, 54, 55, 56, 57, 58], [0, 1, 2, 3, 4, 5, 6, 7, 8, 9, 10, 11, 12, 13, 14, 15, 16, 17, 18, 19, 20, 21, 22, 23, 24, 25, 26, 27, 28, 29, 30, 31, 32, 33, 34, 35, 36, 37, 38, 39, 40, 41, 42, 43, 44, 45, 46, 47, 48, 49, 50, 51, 52, 53, 54, 55, 56, 57, 58, 59], [0, 1, 2, 3, 4, 5, 6, 7, 8, 9, 10, 11, 12, 13, 14, 15, 16, 17, 18, 19, 20, 21, 22, 23, 24, 25, 26, 27, 28, 29, 30, 31, 32, 33, 34, 35, 36, 37, 38, 39, 40, 41, 42, 43, 44, 45, 46, 47, 48, 49, 50, 51, 52, 53, 54, 55, 56, 57, 58, 59, 60], [0, 1, 2, 3, 4, 5, 6, 7, 8, 9, 10, 11, 12, 13, 14, 15, 16, 17, 18, 19, 20, 21, 22, 23, 24, 25, 26, 27, 28, 29, 30, 31, 32, 33, 34, 35, 36, 37, 38, 39, 40, 41, 42, 43, 44, 45, 46, 47, 48, 49, 50, 51, 52, 53, 54, 55, 56, 57, 58, 59, 60, 61], [0, 1, 2, 3, 4, 5, 6, 7, 8, 9, 10, 11, 12, 13, 14, 15, 16, 17, 18, 19, 20, 21, 22, 23, 24, 25, 26, 27, 28, 29, 30, 31, 32, 33, 34, 35, 36, 37, 38, 39, 40, 41, 42, 43, 44, 45, 46, 47, 48, 49, 50, 51, 52, 53, 54, 55, 56, 57, 58, 59, 60, 61, 62], [0, 1, 2, 3, 4, 5, 6, 7, 8, 9, 10, 11, 12, 13, 14, 15, 16, 17, 18, 19, 20, 21, 22, 23, 24, 25, 26, 27, 28, 29, 30, 31, 32, 33, 34, 35, 36, 37, 38, 39, 40, 41, 42, 43, 44, 45, 46, 47, 48, 49, 50, 51, 52, 53, 54, 55, 56, 57, 58, 59, 60, 61], [0, 1, 2, 3, 4, 5, 6, 7, 8, 9, 10, 11, 12, 13, 14, 15, 16, 17, 18, 19, 20, 21, 22, 23, 24, 25, 26, 27, 28, 29, 30, 31, 32, 33, 34, 35, 36, 37, 38, 39, 40, 41, 42, 43, 44, 45, 46, 47, 48, 49, 50, 51, 52, 53, 54, 55, 56, 57, 58, 59, 60, 61, 64], [0, 1, 2, 3, 4, 5, 6, 7, 8, 9, 10, 11, 12, 13, 14, 15, 16, 17, 18, 19, 20, 21, 22, 23, 24, 25, 26, 27, 28, 29, 30, 31, 32, 33, 34, 35, 36, 37, 38, 39, 40, 41, 42, 43, 44, 45, 46, 47, 48, 49, 50, 51, 52, 53, 54, 55, 56, 57, 58, 59, 60, 61, 62, 63, 64, 65], [0, 1, 2, 3, 4, 5, 6, 7, 8, 9, 10, 11, 12, 13, 14, 15, 16, 17, 18, 19, 20, 21, 22, 23, 24, 25, 26, 27, 28, 29, 30, 31, 32, 33, 34, 35, 36, 37, 38, 39, 40, 41, 42, 43, 44, 45, 46, 47, 48, 49, 50, 51, 52, 53, 54, 55, 56, 57, 58, 59, 60, 61, 62, 63, 64, 65, 66], [0, 1, 2, 3, 4, 5, 6, 7, 8, 9, 10, 11, 12, 13, 14, 15, 16, 17, 18, 19, 20, 21, 22, 23, 24, 25, 26, 27, 28, 29, 30, 31, 32, 33, 34, 35, 36, 37, 38, 39, 40, 41, 42, 43, 44, 45, 46, 47, 48, 49, 50, 51, 52, 53, 54, 55, 56, 57, 58, 59, 60, 61, 62, 63, 64, 65, 66, 67], [0, 1, 2, 3, 4, 5, 6, 7, 8, 9, 10, 11, 12, 13, 14, 15, 16, 17, 18, 19, 20, 21, 22, 23, 24, 25, 26, 27, 28, 29, 30, 31, 32, 33, 34, 35, 36, 37, 38, 39, 40, 41, 42, 43, 44, 45, 46, 47, 48, 49, 50, 51, 52, 53, 54, 55, 56, 57, 58, 59, 60, 61, 62, 63, 64, 65, 66, 67, 68], [0, 1, 2, 3, 4, 5, 6, 7, 8, 9, 10, 11, 12, 13, 14, 15, 16, 17, 18, 19, 20, 21, 22, 23, 24, 25, 26, 27, 28, 29, 30, 31, 32, 33, 34, 35, 36, 37, 38, 39, 40, 41, 42, 43, 44, 45, 46, 47, 48, 49, 50, 51, 52, 53, 54, 55, 56, 57, 58, 59, 60, 61, 62, 63, 64, 65, 66, 67, 68, 69], [0, 1, 2, 3, 4, 5, 6, 7, 8, 9, 10, 11, 12, 13, 14, 15, 16, 17, 18, 19, 20, 21, 22, 23, 24, 25, 26, 27, 28, 29, 30, 31, 32, 33, 34, 35, 36, 37, 38, 39, 40, 41, 42, 43, 44, 45, 46, 47, 48, 49, 50, 51, 52, 53, 54, 55, 56, 57, 58, 59, 60, 61, 62, 63, 64, 65, 66, 67, 68], [0, 1, 2, 3, 4, 5, 6, 7, 8, 9, 10, 11, 12, 13, 14, 15, 16, 17, 18, 19, 20, 21, 22, 23, 24, 25, 26, 27, 28, 29, 30, 31, 32, 33, 34, 35, 36, 37, 38, 39, 40, 41, 42, 43, 44, 45, 46, 47, 48, 49, 50, 51, 52, 53, 54, 55, 56, 57, 58, 59, 60, 61, 62, 63, 64, 65, 66, 67, 68, 71], [0, 1, 2, 3, 4, 5, 6, 7, 8, 9, 10, 11, 12, 13, 14, 15, 16, 17, 18, 19, 20, 21, 22, 23, 24, 25, 26, 27, 28, 29, 30, 31, 32, 33, 34, 35, 36, 37, 38, 39, 40, 41, 42, 43, 44, 45, 46, 47, 48, 49, 50, 51, 52, 53, 54, 55, 56, 57, 58, 59, 60, 61, 62, 63, 64, 65, 66, 67, 68, 69, 70, 71, 72], [0, 1, 2, 3, 4, 5, 6, 7, 8, 9, 10, 11, 12, 13, 14, 15, 16, 17, 18, 19, 20, 21, 22, 23, 24, 25, 26, 27, 28, 29, 30, 31, 32, 33, 34, 35, 36, 37, 38, 39, 40, 41, 42, 43, 44, 45, 46, 47, 48, 49, 50, 51, 52, 53, 54, 55, 56, 57, 58, 59, 60, 61, 62, 63, 64, 65, 66, 67, 68, 69, 70, 71, 72, 73], [0, 1, 2, 3, 4, 5, 6, 7, 8, 9, 10, 11, 12, 13, 14, 15, 16, 17, 18, 19, 20, 21, 22, 23, 24, 25, 26, 27, 28, 29, 30, 31, 32, 33, 34, 35, 36, 37, 38, 39, 40, 41, 42, 43, 44, 45, 46, 47, 48, 49, 50, 51, 52, 53, 54, 55, 56, 57, 58, 59, 60, 61, 62, 63, 64, 65, 66, 67, 68, 69, 70, 71, 72, 73, 74], [0, 1, 2, 3, 4, 5, 6, 7, 8, 9, 10, 11, 12, 13, 14, 15, 16, 17, 18, 19, 20, 21, 22, 23, 24, 25, 26, 27, 28, 29, 30, 31, 32, 33, 34, 35, 36, 37, 38, 39, 40, 41, 42, 43, 44, 45, 46, 47, 48, 49, 50, 51, 52, 53, 54, 55, 56, 57, 58, 59, 60, 61, 62, 63, 64, 65, 66, 67, 68, 69, 70, 71, 72, 73, 74, 75], [0, 1, 2, 3, 4, 5, 6, 7, 8, 9, 10, 11, 12, 13, 14, 15, 16, 17, 18, 19, 20, 21, 22, 23, 24, 25, 26, 27, 28, 29, 30, 31, 32, 33, 34, 35, 36, 37, 38, 39, 40, 41, 42, 43, 44, 45, 46, 47, 48, 49, 50, 51, 52, 53, 54, 55, 56, 57, 58, 59, 60, 61, 62, 63, 64, 65, 66, 67, 68, 69, 70, 71, 72, 73, 74, 75, 76], [0, 1, 2, 3, 4, 5, 6, 7, 8, 9, 10, 11, 12, 13, 14, 15, 16, 17, 18, 19, 20, 21, 22, 23, 24, 25, 26, 27, 28, 29, 30, 31, 32, 33, 34, 35, 36, 37, 38, 39, 40, 41, 42, 43, 44, 45, 46, 47, 48, 49, 50, 51, 52, 53, 54, 55, 56, 57, 58, 59, 60, 61, 62, 63, 64, 65, 66, 67, 68, 69, 70, 71, 72, 73, 74, 75], [0, 1, 2, 3, 4, 5, 6, 7, 8, 9, 10, 11, 12, 13, 14, 15, 16, 17, 18, 19, 20, 21, 22, 23, 24, 25, 26, 27, 28, 29, 30, 31, 32, 33, 34, 35, 36, 37, 38, 39, 40, 41, 42, 43, 44, 45, 46, 47, 48, 49, 50, 51, 52, 53, 54, 55, 56, 57, 58, 59, 60, 61, 62, 63, 64, 65, 66, 67, 68, 69, 70, 71, 72, 73, 74, 75, 78], [0, 1, 2, 3, 4, 5, 6, 7, 8, 9, 10, 11, 12, 13, 14, 15, 16, 17, 18, 19, 20, 21, 22, 23, 24, 25, 26, 27, 28, 29, 30, 31, 32, 33, 34, 35, 36, 37, 38, 39, 40, 41, 42, 43, 44, 45, 46, 47, 48, 49, 50, 51, 52, 53, 54, 55, 56, 57, 58, 59, 60, 61, 62, 63, 64, 65, 66, 67, 68, 69, 70, 71, 72, 73, 74, 75, 76, 77, 78, 79], [0, 1, 2, 3, 4, 5, 6, 7, 8, 9, 10, 11, 12, 13, 14, 15, 16, 17, 18, 19, 20, 21, 22, 23, 24, 25, 26, 27, 28, 29, 30, 31, 32, 33, 34, 35, 36, 37, 38, 39, 40, 41, 42, 43, 44, 45, 46, 47, 48, 49, 50, 51, 52, 53, 54, 55, 56, 57, 58, 59, 60, 61, 62, 63, 64, 65, 66, 67, 68, 69, 70, 71, 72, 73, 74, 75, 76, 77, 78, 79, 80], [0, 1, 2, 3, 4, 5, 6, 7, 8, 9, 10, 11, 12, 13, 14, 15, 16, 17, 18, 19, 20, 21, 22, 23, 24, 25, 26, 27, 28, 29, 30, 31, 32, 33, 34, 35, 36, 37, 38, 39, 40, 41, 42, 43, 44, 45, 46, 47, 48, 49, 50, 51, 52, 53, 54, 55, 56, 57, 58, 59, 60, 61, 62, 63, 64, 65, 66, 67, 68, 69, 70, 71, 72, 73, 74, 75, 76, 77, 78, 79, 80, 81], [0, 1, 2, 3, 4, 5, 6, 7, 8, 9, 10, 11, 12, 13, 14, 15, 16, 17, 18, 19, 20, 21, 22, 23, 24, 25, 26, 27, 28, 29, 30, 31, 32, 33, 34, 35, 36, 37, 38, 39, 40, 41, 42, 43, 44, 45, 46, 47, 48, 49, 50, 51, 52, 53, 54, 55, 56, 57, 58, 59, 60, 61, 62, 63, 64, 65, 66, 67, 68, 69, 70, 71, 72, 73, 74, 75, 76, 77, 78, 79, 80, 81, 82], [0, 1, 2, 3, 4, 5, 6, 7, 8, 9, 10, 11, 12, 13, 14, 15, 16, 17, 18, 19, 20, 21, 22, 23, 24, 25, 26, 27, 28, 29, 30, 31, 32, 33, 34, 35, 36, 37, 38, 39, 40, 41, 42, 43, 44, 45, 46, 47, 48, 49, 50, 51, 52, 53, 54, 55, 56, 57, 58, 59, 60, 61, 62, 63, 64, 65, 66, 67, 68, 69, 70, 71, 72, 73, 74, 75, 76, 77, 78, 79, 80, 81, 82, 83], [0, 1, 2, 3, 4, 5, 6, 7, 8, 9, 10, 11, 12, 13, 14, 15, 16, 17, 18, 19, 20, 21, 22, 23, 24, 25, 26, 27, 28, 29, 30, 31, 32, 33, 34, 35, 36, 37, 38, 39, 40, 41, 42, 43, 44, 45, 46, 47, 48, 49, 50, 51, 52, 53, 54, 55, 56, 57, 58, 59, 60, 61, 62, 63, 64, 65, 66, 67, 68, 69, 70, 71, 72, 73, 74, 75, 76, 77, 78, 79, 80, 81, 82], [0, 1, 2, 3, 4, 5, 6, 7, 8, 9, 10, 11, 12, 13, 14, 15, 16, 17, 18, 19, 20, 21, 22, 23, 24, 25, 26, 27, 28, 29, 30, 31, 32, 33, 34, 35, 36, 37, 38, 39, 40, 41, 42, 43, 44, 45, 46, 47, 48, 49, 50, 51, 52, 53, 54, 55, 56, 57, 58, 59, 60, 61, 62, 63, 64, 65, 66, 67, 68, 69, 70, 71, 72, 73, 74, 75, 76, 77, 78, 79, 80, 81, 82, 85], [0, 1, 2, 3, 4, 5, 6, 7, 8, 9, 10, 11, 12, 13, 14, 15, 16, 17, 18, 19, 20, 21, 22, 23, 24, 25, 26, 27, 28, 29, 30, 31, 32, 33, 34, 35, 36, 37, 38, 39, 40, 41, 42, 43, 44, 45, 46, 47, 48, 49, 50, 51, 52, 53, 54, 55, 56, 57, 58, 59, 60, 61, 62, 63, 64, 65, 66, 67, 68, 69, 70, 71, 72, 73, 74, 75, 76, 77, 78, 79, 80, 81, 82, 83, 84, 85, 86], [0, 1, 2, 3, 4, 5, 6, 7, 8, 9, 10, 11, 12, 13, 14, 15, 16, 17, 18, 19, 20, 21, 22, 23, 24, 25, 26, 27, 28, 29, 30, 31, 32, 33, 34, 35, 36, 37, 38, 39, 40, 41, 42, 43, 44, 45, 46, 47, 48, 49, 50, 51, 52, 53, 54, 55, 56, 57, 58, 59, 60, 61, 62, 63, 64, 65, 66, 67, 68, 69, 70, 71, 72, 73, 74, 75, 76, 77, 78, 79, 80, 81, 82, 83, 84, 85, 86, 87], [0, 1, 2, 3, 4, 5, 6, 7, 8, 9, 10, 11, 12, 13, 14, 15, 16, 17, 18, 19, 20, 21, 22, 23, 24, 25, 26, 27, 28, 29, 30, 31, 32, 33, 34, 35, 36, 37, 38, 39, 40, 41, 42, 43, 44, 45, 46, 47, 48, 49, 50, 51, 52, 53, 54, 55, 56, 57, 58, 59, 60, 61, 62, 63, 64, 65, 66, 67, 68, 69, 70, 71, 72, 73, 74, 75, 76, 77, 78, 79, 80, 81, 82, 83, 84, 85, 86, 87, 88], [0, 1, 2, 3, 4, 5, 6, 7, 8, 9, 10, 11, 12, 13, 14, 15, 16, 17, 18, 19, 20, 21, 22, 23, 24, 25, 26, 27, 28, 29, 30, 31, 32, 33, 34, 35, 36, 37, 38, 39, 40, 41, 42, 43, 44, 45, 46, 47, 48, 49, 50, 51, 52, 53, 54, 55, 56, 57, 58, 59, 60, 61, 62, 63, 64, 65, 66, 67, 68, 69, 70, 71, 72, 73, 74, 75, 76, 77, 78, 79, 80, 81, 82, 83, 84, 85, 86, 87, 88, 89], [0, 1, 2, 3, 4, 5, 6, 7, 8, 9, 10, 11, 12, 13, 14, 15, 16, 17, 18, 19, 20, 21, 22, 23, 24, 25, 26, 27, 28, 29, 30, 31, 32, 33, 34, 35, 36, 37, 38, 39, 40, 41, 42, 43, 44, 45, 46, 47, 48, 49, 50, 51, 52, 53, 54, 55, 56, 57, 58, 59, 60, 61, 62, 63, 64, 65, 66, 67, 68, 69, 70, 71, 72, 73, 74, 75, 76, 77, 78, 79, 80, 81, 82, 83, 84, 85, 86, 87, 88, 89, 90], [0, 1, 2, 3, 4, 5, 6, 7, 8, 9, 10, 11, 12, 13, 14, 15, 16, 17, 18, 19, 20, 21, 22, 23, 24, 25, 26, 27, 28, 29, 30, 31, 32, 33, 34, 35, 36, 37, 38, 39, 40, 41, 42, 43, 44, 45, 46, 47, 48, 49, 50, 51, 52, 53, 54, 55, 56, 57, 58, 59, 60, 61, 62, 63, 64, 65, 66, 67, 68, 69, 70, 71, 72, 73, 74, 75, 76, 77, 78, 79, 80, 81, 82, 83, 84, 85, 86, 87, 88, 89], [0, 1, 2, 3, 4, 5, 6, 7, 8, 9, 10, 11, 12, 13, 14, 15, 16, 17, 18, 19, 20, 21, 22, 23, 24, 25, 26, 27, 28, 29, 30, 31, 32, 33, 34, 35, 36, 37, 38, 39, 40, 41, 42, 43, 44, 45, 46, 47, 48, 49, 50, 51, 52, 53, 54, 55, 56, 57, 58, 59, 60, 61, 62, 63, 64, 65, 66, 67, 68, 69, 70, 71, 72, 73, 74, 75, 76, 77, 78, 79, 80, 81, 82, 83, 84, 85, 86, 87, 88, 89, 92], [0, 1, 2, 3, 4, 5, 6, 7, 8, 9, 10, 11, 12, 13, 14, 15, 16, 17, 18, 19, 20, 21, 22, 23, 24, 25, 26, 27, 28, 29, 30, 31, 32, 33, 34, 35, 36, 37, 38, 39, 40, 41, 42, 43, 44, 45, 46, 47, 48, 49, 50, 51, 52, 53, 54, 55, 56, 57, 58, 59, 60, 61, 62, 63, 64, 65, 66, 67, 68, 69, 70, 71, 72, 73, 74, 75, 76, 77, 78, 79, 80, 81, 82, 83, 84, 85, 86, 87, 88, 89, 90, 91, 92, 93], [0, 1, 2, 3, 4, 5, 6, 7, 8, 9, 10, 11, 12, 13, 14, 15, 16, 17, 18, 19, 20, 21, 22, 23, 24, 25, 26, 27, 28, 29, 30, 31, 32, 33, 34, 35, 36, 37, 38, 39, 40, 41, 42, 43, 44, 45, 46, 47, 48, 49, 50, 51, 52, 53, 54, 55, 56, 57, 58, 59, 60, 61, 62, 63, 64, 65, 66, 67, 68, 69, 70, 71, 72, 73, 74, 75, 76, 77, 78, 79, 80, 81, 82, 83, 84, 85, 86, 87, 88, 89, 90, 91, 92, 93, 94], [0, 1, 2, 3, 4, 5, 6, 7, 8, 9, 10, 11, 12, 13, 14, 15, 16, 17, 18, 19, 20, 21, 22, 23, 24, 25, 26, 27, 28, 29, 30, 31, 32, 33, 34, 35, 36, 37, 38, 39, 40, 41, 42, 43, 44, 45, 46, 47, 48, 49, 50, 51, 52, 53, 54, 55, 56, 57, 58, 59, 60, 61, 62, 63, 64, 65, 66, 67, 68, 69, 70, 71, 72, 73, 74, 75, 76, 77, 78, 79, 80, 81, 82, 83, 84, 85, 86, 87, 88, 89, 90, 91, 92, 93, 94, 95], [0, 1, 2, 3, 4, 5, 6, 7, 8, 9, 10, 11, 12, 13, 14, 15, 16, 17, 18, 19, 20, 21, 22, 23, 24, 25, 26, 27, 28, 29, 30, 31, 32, 33, 34, 35, 36, 37, 38, 39, 40, 41, 42, 43, 44, 45, 46, 47, 48, 49, 50, 51, 52, 53, 54, 55, 56, 57, 58, 59, 60, 61, 62, 63, 64, 65, 66, 67, 68, 69, 70, 71, 72, 73, 74, 75, 76, 77, 78, 79, 80, 81, 82, 83, 84, 85, 86, 87, 88, 89, 90, 91, 92, 93, 94, 95, 96], [0, 1, 2, 3, 4, 5, 6, 7, 8, 9, 10, 11, 12, 13, 14, 15, 16, 17, 18, 19, 20, 21, 22, 23, 24, 25, 26, 27, 28, 29, 30, 31, 32, 33, 34, 35, 36, 37, 38, 39, 40, 41, 42, 43, 44, 45, 46, 47, 48, 49, 50, 51, 52, 53, 54, 55, 56, 57, 58, 59, 60, 61, 62, 63, 64, 65, 66, 67, 68, 69, 70, 71, 72, 73, 74, 75, 76, 77, 78, 79, 80, 81, 82, 83, 84, 85, 86, 87, 88, 89, 90, 91, 92, 93, 94, 95, 96, 97], [0, 1, 2, 3, 4, 5, 6, 7, 8, 9, 10, 11, 12, 13, 14, 15, 16, 17, 18, 19, 20, 21, 22, 23, 24, 25, 26, 27, 28, 29, 30, 31, 32, 33, 34, 35, 36, 37, 38, 39, 40, 41, 42, 43, 44, 45, 46, 47, 48, 49, 50, 51, 52, 53, 54, 55, 56, 57, 58, 59, 60, 61, 62, 63, 64, 65, 66, 67, 68, 69, 70, 71, 72, 73, 74, 75, 76, 77, 78, 79, 80, 81, 82, 83, 84, 85, 86, 87, 88, 89, 90, 91, 92, 93, 94, 95, 96], [0, 1, 2, 3, 4, 5, 6, 7, 8, 9, 10, 11, 12, 13, 14, 15, 16, 17, 18, 19, 20, 21, 22, 23, 24, 25, 26, 27, 28, 29, 30, 31, 32, 33, 34, 35, 36, 37, 38, 39, 40, 41, 42, 43, 44, 45, 46, 47, 48, 49, 50, 51, 52, 53, 54, 55, 56, 57, 58, 59, 60, 61, 62, 63, 64, 65, 66, 67, 68, 69, 70, 71, 72, 73, 74, 75, 76, 77, 78, 79, 80, 81, 82, 83, 84, 85, 86, 87, 88, 89, 90, 91, 92, 93, 94, 95, 96, 99], [0, 1, 2, 3, 4, 5, 6, 7, 8, 9, 10, 11, 12, 13, 14, 15, 16, 17, 18, 19, 20, 21, 22, 23, 24, 25, 26, 27, 28, 29, 30, 31, 32, 33, 34, 35, 36, 37, 38, 39, 40, 41, 42, 43, 44, 45, 46, 47, 48, 49, 50, 51, 52, 53, 54, 55, 56, 57, 58, 59, 60, 61, 62, 63, 64, 65, 66, 67, 68, 69, 70, 71, 72, 73, 74, 75, 76, 77, 78, 79, 80, 81, 82, 83, 84, 85, 86, 87, 88, 89, 90, 91, 92, 93, 94, 95, 96, 97, 98, 99, 100], [0, 1, 2, 3, 4, 5, 6, 7, 8, 9, 10, 11, 12, 13, 14, 15, 16, 17, 18, 19, 20, 21, 22, 23, 24, 25, 26, 27, 28, 29, 30, 31, 32, 33, 34, 35, 36, 37, 38, 39, 40, 41, 42, 43, 44, 45, 46, 47, 48, 49, 50, 51, 52, 53, 54, 55, 56, 57, 58, 59, 60, 61, 62, 63, 64, 65, 66, 67, 68, 69, 70, 71, 72, 73, 74, 75, 76, 77, 78, 79, 80, 81, 82, 83, 84, 85, 86, 87, 88, 89, 90, 91, 92, 93, 94, 95, 96, 97, 98, 99, 100, 101], [0, 1, 2, 3, 4, 5, 6, 7, 8, 9, 10, 11, 12, 13, 14, 15, 16, 17, 18, 19, 20, 21, 22, 23, 24, 25, 26, 27, 28, 29, 30, 31, 32, 33, 34, 35, 36, 37, 38, 39, 40, 41, 42, 43, 44, 45, 46, 47, 48, 49, 50, 51, 52, 53, 54, 55, 56, 57, 58, 59, 60, 61, 62, 63, 64, 65, 66, 67, 68, 69, 70, 71, 72, 73, 74, 75, 76, 77, 78, 79, 80, 81, 82, 83, 84, 85, 86, 87, 88, 89, 90, 91, 92, 93, 94, 95, 96, 97, 98, 99, 100, 101, 102]] rfl (by kernel_rfl) (by kernel_rfl) (by kernel_rfl) (rfl) (Z := fun vs => cq _ vs [(4, 103), (113, 102), (112, 101), (111, 100), (110, 99), (109, 98), (108, 97), (107, 96), (106, 95), (105, 94), (104, 93), (103, 92), (102, 91), (101, 90), (100, 89), (99, 88), (98, 87), (97, 86), (96, 85), (95, 84), (94, 83), (93, 82), (92, 81), (91, 80), (90, 79), (89, 78), (88, 77), (87, 76), (86, 75), (85, 74), (84, 73), (83, 72), (82, 71), (81, 70), (80, 69), (79, 68), (78, 67), (77, 66), (76, 65), (75, 64), (74, 63), (73, 62), (72, 61), (71, 60), (70, 59), (69, 58), (68, 57), (67, 56), (66, 55), (65, 54), (64, 53), (63, 52), (62, 51), (61, 50), (60, 49), (59, 48), (58, 47), (57, 46), (56, 45), (55, 44), (54, 43), (53, 42), (52, 41), (51, 40), (50, 39), (49, 38), (48, 37), (47, 36), (46, 35), (45, 34), (44, 33), (43, 32), (42, 31), (41, 30), (40, 29), (39, 28), (38, 27), (37, 26), (36, 25), (35, 24), (34, 23), (33, 22), (32, 21), (31, 20), (30, 19), (29, 18), (28, 17), (27, 16), (26, 15), (25, 14), (24, 13), (23, 12), (22, 11), (21, 10), (20, 9), (19, 8), (18, 7), (17, 6), (16, 5), (15, 4), (14, 3), (13, 2), (12, 1), (11, 0)]) (fun _ => rfl) ?_ ?_
    · skip
      refine VAll.snoc (i := 103) ?_ rfl rfl trivial ?_
      rotate_left
      · intro B y hI hL K E hK
        rw [hI]
        clear hI
        have t113 : B.tmps[113]? = some (.bool p14) := hL.at_ 102 (by decide) 113 rfl
        clear hL
        refine Box.mk ?_
        go_simp
        exact hK.out _ _ rfl rfl
      refine VAll.snoc (i := 102) ?_ rfl rfl trivial ?_
      rotate_left
      · intro B y hI hL K E hK
        rw [hI]
        clear hI
        have t107 : B.tmps[107]? = some (.bool p13) := hL.at_ 96 (by decide) 107 rfl
        have t112 : B.tmps[112]? = some (cond p13 (.bool t14) undef) := hL.at_ 101 (by decide) 112 rfl
        clear hL
        refine Box.mk ?_
        rcases Bool.eq_false_or_eq_true p13 with hs | hs
        · simp only [hs, cond_true, cond_false] at t107 t112
          go_simp
          exact hK.out _ _ rfl (by change _ = (.bool p14 : Value); rw [← P14.out]; simp [hs])
        · simp only [hs, cond_true, cond_false] at t107 t112
          go_simp
          exact hK.out _ _ rfl (by change _ = (.bool p14 : Value); rw [← P14.out]; simp [hs])
      refine VAll.snoc (i := 101) ?_ rfl rfl idle_t ?_
      rotate_left
      · intro B y hI hL hg K E hK
        rw [hI]
        clear hI
        have hg : (.bool p13 : Value) = .bool true := hg
        have he0 := want_b hg
        clear hg
        have t109 : B.tmps[109]? = some (cond p13 (.int .i64 a.number) undef) := hL.at_ 98 (by decide) 109 rfl
        have t111 : B.tmps[111]? = some (cond p13 (.int .i64 b.number) undef) := hL.at_ 100 (by decide) 111 rfl
        clear hL
        simp only [he0, cond_true, cond_false] at t109 t111
        refine Box.mk ?_
        have hd := H14.out
        go_simp
        exact hK.out _ _ rfl (by change _ = cond _ _ _; simp only [he0, cond_true, cond_false])
      refine VAll.snoc (i := 100) ?_ rfl rfl idle_t ?_
      rotate_left
      · intro B y hI hL hg K E hK
        rw [hI]
        clear hI
        have hg : (.bool p13 : Value) = .bool true := hg
        have he0 := want_b hg
        clear hg
        have t110 : B.tmps[110]? = some (cond p13 (.pointer (some ⟨w.heap.size + 1, 15, none⟩)) undef) := hL.at_ 99 (by decide) 110 rfl
        clear hL
        simp only [he0, cond_true, cond_false] at t110
        refine Box.mk ?_
        go_simp
        exact hK.out _ _ rfl (by change _ = cond _ _ _; simp only [he0, cond_true, cond_false])
      refine VAll.snoc (i := 99) ?_ rfl rfl idle_t ?_
      rotate_left
      · intro B y hI hL hg K E hK
        rw [hI]
        clear hI
        have hg : (.bool p13 : Value) = .bool true := hg
        have he0 := want_b hg
        clear hg
        have t3 : B.tmps[3]? = some (.pointer (some ⟨w.heap.size + 1, 0, none⟩)) := (hL.out 3 rfl).trans rfl
        clear hL
        refine Box.mk ?_
        go_simp
        exact hK.out _ _ rfl (by change _ = cond _ _ _; simp only [he0, cond_true, cond_false])
      refine VAll.snoc (i := 98) ?_ rfl rfl idle_t ?_
      rotate_left
      · intro B y hI hL hg K E hK
        rw [hI]
        clear hI
        have hg : (.bool p13 : Value) = .bool true := hg
        have he0 := want_b hg
        clear hg
        have t108 : B.tmps[108]? = some (cond p13 (.pointer (some ⟨w.heap.size, 15, none⟩)) undef) := hL.at_ 97 (by decide) 108 rfl
        clear hL
        simp only [he0, cond_true, cond_false] at t108
        refine Box.mk ?_
        go_simp
        exact hK.out _ _ rfl (by change _ = cond _ _ _; simp only [he0, cond_true, cond_false])
      refine VAll.snoc (i := 97) ?_ rfl rfl idle_t ?_
      rotate_left
      · intro B y hI hL hg K E hK
        rw [hI]
        clear hI
        have hg : (.bool p13 : Value) = .bool true := hg
        have he0 := want_b hg
        clear hg
        have t2 : B.tmps[2]? = some (.pointer (some ⟨w.heap.size, 0, none⟩)) := (hL.out 2 rfl).trans rfl
        clear hL
        refine Box.mk ?_
        go_simp
        exact hK.out _ _ rfl (by change _ = cond _ _ _; simp only [he0, cond_true, cond_false])
      refine VAll.snoc (i := 96) ?_ rfl rfl trivial ?_
      rotate_left
      · intro B y hI hL K E hK
        rw [hI]
        clear hI
        have t106 : B.tmps[106]? = some (.bool p13) := hL.at_ 95 (by decide) 106 rfl
        clear hL
        refine Box.mk ?_
        go_simp
        exact hK.out _ _ rfl rfl
      refine VAll.snoc (i := 95) ?_ rfl rfl trivial ?_
      rotate_left
      · intro B y hI hL K E hK
        rw [hI]
        clear hI
        have t100 : B.tmps[100]? = some (.bool p12) := hL.at_ 89 (by decide) 100 rfl
        have t105 : B.tmps[105]? = some (cond p12 (.bool t13) undef) := hL.at_ 94 (by decide) 105 rfl
        clear hL
        refine Box.mk ?_
        rcases Bool.eq_false_or_eq_true p12 with hs | hs
        · simp only [hs, cond_true, cond_false] at t100 t105
          go_simp
          exact hK.out _ _ rfl (by change _ = (.bool p13 : Value); rw [← P13.out]; simp [hs])
        · simp only [hs, cond_true, cond_false] at t100 t105
          go_simp
          exact hK.out _ _ rfl (by change _ = (.bool p13 : Value); rw [← P13.out]; simp [hs])
      refine VAll.snoc (i := 94) ?_ rfl rfl idle_t ?_
      rotate_left
      · intro B y hI hL hg K E hK
        rw [hI]
        clear hI
        have hg : (.bool p12 : Value) = .bool true := hg
        have he0 := want_b hg
        clear hg
        have t102 : B.tmps[102]? = some (cond p12 (.int .i64 a.origin) undef) := hL.at_ 91 (by decide) 102 rfl
        have t104 : B.tmps[104]? = some (cond p12 (.int .i64 b.origin) undef) := hL.at_ 93 (by decide) 104 rfl
        clear hL
        simp only [he0, cond_true, cond_false] at t102 t104
        refine Box.mk ?_
        have hd := H13.out
        go_simp
        exact hK.out _ _ rfl (by change _ = cond _ _ _; simp only [he0, cond_true, cond_false])
      refine VAll.snoc (i := 93) ?_ rfl rfl idle_t ?_
      rotate_left
      · intro B y hI hL hg K E hK
        rw [hI]
        clear hI
        have hg : (.bool p12 : Value) = .bool true := hg
        have he0 := want_b hg
        clear hg
        have t103 : B.tmps[103]? = some (cond p12 (.pointer (some ⟨w.heap.size + 1, 14, none⟩)) undef) := hL.at_ 92 (by decide) 103 rfl
        clear hL
        simp only [he0, cond_true, cond_false] at t103
        refine Box.mk ?_
        go_simp
        exact hK.out _ _ rfl (by change _ = cond _ _ _; simp only [he0, cond_true, cond_false])
      refine VAll.snoc (i := 92) ?_ rfl rfl idle_t ?_
      rotate_left
      · intro B y hI hL hg K E hK
        rw [hI]
        clear hI
        have hg : (.bool p12 : Value) = .bool true := hg
        have he0 := want_b hg
        clear hg
        have t3 : B.tmps[3]? = some (.pointer (some ⟨w.heap.size + 1, 0, none⟩)) := (hL.out 3 rfl).trans rfl
        clear hL
        refine Box.mk ?_
        go_simp
        exact hK.out _ _ rfl (by change _ = cond _ _ _; simp only [he0, cond_true, cond_false])
      refine VAll.snoc (i := 91) ?_ rfl rfl idle_t ?_
      rotate_left
      · intro B y hI hL hg K E hK
        rw [hI]
        clear hI
        have hg : (.bool p12 : Value) = .bool true := hg
        have he0 := want_b hg
        clear hg
        have t101 : B.tmps[101]? = some (cond p12 (.pointer (some ⟨w.heap.size, 14, none⟩)) undef) := hL.at_ 90 (by decide) 101 rfl
        clear hL
        simp only [he0, cond_true, cond_false] at t101
        refine Box.mk ?_
        go_simp
        exact hK.out _ _ rfl (by change _ = cond _ _ _; simp only [he0, cond_true, cond_false])
      refine VAll.snoc (i := 90) ?_ rfl rfl idle_t ?_
      rotate_left
      · intro B y hI hL hg K E hK
        rw [hI]
        clear hI
        have hg : (.bool p12 : Value) = .bool true := hg
        have he0 := want_b hg
        clear hg
        have t2 : B.tmps[2]? = some (.pointer (some ⟨w.heap.size, 0, none⟩)) := (hL.out 2 rfl).trans rfl
        clear hL
        refine Box.mk ?_
        go_simp
        exact hK.out _ _ rfl (by change _ = cond _ _ _; simp only [he0, cond_true, cond_false])
      refine VAll.snoc (i := 89) ?_ rfl rfl trivial ?_
      rotate_left
      · intro B y hI hL K E hK
        rw [hI]
        clear hI
        have t99 : B.tmps[99]? = some (.bool p12) := hL.at_ 88 (by decide) 99 rfl
        clear hL
        refine Box.mk ?_
        go_simp
        exact hK.out _ _ rfl rfl
      refine VAll.snoc (i := 88) ?_ rfl rfl trivial ?_
      rotate_left
      · intro B y hI hL K E hK
        rw [hI]
        clear hI
        have t93 : B.tmps[93]? = some (.bool p11) := hL.at_ 82 (by decide) 93 rfl
        have t98 : B.tmps[98]? = some (cond p11 (.bool t12) undef) := hL.at_ 87 (by decide) 98 rfl
        clear hL
        refine Box.mk ?_
        rcases Bool.eq_false_or_eq_true p11 with hs | hs
        · simp only [hs, cond_true, cond_false] at t93 t98
          go_simp
          exact hK.out _ _ rfl (by change _ = (.bool p12 : Value); rw [← P12.out]; simp [hs])
        · simp only [hs, cond_true, cond_false] at t93 t98
          go_simp
          exact hK.out _ _ rfl (by change _ = (.bool p12 : Value); rw [← P12.out]; simp [hs])
      refine VAll.snoc (i := 87) ?_ rfl rfl idle_t ?_
      rotate_left
      · intro B y hI hL hg K E hK
        rw [hI]
        clear hI
        have hg : (.bool p11 : Value) = .bool true := hg
        have he0 := want_b hg
        clear hg
        have t95 : B.tmps[95]? = some (cond p11 (.int .i64 a.code) undef) := hL.at_ 84 (by decide) 95 rfl
        have t97 : B.tmps[97]? = some (cond p11 (.int .i64 b.code) undef) := hL.at_ 86 (by decide) 97 rfl
        clear hL
        simp only [he0, cond_true, cond_false] at t95 t97
        refine Box.mk ?_
        have hd := H12.out
        go_simp
        exact hK.out _ _ rfl (by change _ = cond _ _ _; simp only [he0, cond_true, cond_false])
      refine VAll.snoc (i := 86) ?_ rfl rfl idle_t ?_
      rotate_left
      · intro B y hI hL hg K E hK
        rw [hI]
        clear hI
        have hg : (.bool p11 : Value) = .bool true := hg
        have he0 := want_b hg
        clear hg
        have t96 : B.tmps[96]? = some (cond p11 (.pointer (some ⟨w.heap.size + 1, 12, none⟩)) undef) := hL.at_ 85 (by decide) 96 rfl
        clear hL
        simp only [he0, cond_true, cond_false] at t96
        refine Box.mk ?_
        go_simp
        exact hK.out _ _ rfl (by change _ = cond _ _ _; simp only [he0, cond_true, cond_false])
      refine VAll.snoc (i := 85) ?_ rfl rfl idle_t ?_
      rotate_left
      · intro B y hI hL hg K E hK
        rw [hI]
        clear hI
        have hg : (.bool p11 : Value) = .bool true := hg
        have he0 := want_b hg
        clear hg
        have t3 : B.tmps[3]? = some (.pointer (some ⟨w.heap.size + 1, 0, none⟩)) := (hL.out 3 rfl).trans rfl
        clear hL
        refine Box.mk ?_
        go_simp
        exact hK.out _ _ rfl (by change _ = cond _ _ _; simp only [he0, cond_true, cond_false])
      refine VAll.snoc (i := 84) ?_ rfl rfl idle_t ?_
      rotate_left
      · intro B y hI hL hg K E hK
        rw [hI]
        clear hI
        have hg : (.bool p11 : Value) = .bool true := hg
        have he0 := want_b hg
        clear hg
        have t94 : B.tmps[94]? = some (cond p11 (.pointer (some ⟨w.heap.size, 12, none⟩)) undef) := hL.at_ 83 (by decide) 94 rfl
        clear hL
        simp only [he0, cond_true, cond_false] at t94
        refine Box.mk ?_
        go_simp
        exact hK.out _ _ rfl (by change _ = cond _ _ _; simp only [he0, cond_true, cond_false])
      refine VAll.snoc (i := 83) ?_ rfl rfl idle_t ?_
      rotate_left
      · intro B y hI hL hg K E hK
        rw [hI]
        clear hI
        have hg : (.bool p11 : Value) = .bool true := hg
        have he0 := want_b hg
        clear hg
        have t2 : B.tmps[2]? = some (.pointer (some ⟨w.heap.size, 0, none⟩)) := (hL.out 2 rfl).trans rfl
        clear hL
        refine Box.mk ?_
        go_simp
        exact hK.out _ _ rfl (by change _ = cond _ _ _; simp only [he0, cond_true, cond_false])
      refine VAll.snoc (i := 82) ?_ rfl rfl trivial ?_
      rotate_left
      · intro B y hI hL K E hK
        rw [hI]
        clear hI
        have t92 : B.tmps[92]? = some (.bool p11) := hL.at_ 81 (by decide) 92 rfl
        clear hL
        refine Box.mk ?_
        go_simp
        exact hK.out _ _ rfl rfl
      refine VAll.snoc (i := 81) ?_ rfl rfl trivial ?_
      rotate_left
      · intro B y hI hL K E hK
        rw [hI]
        clear hI
        have t86 : B.tmps[86]? = some (.bool p10) := hL.at_ 75 (by decide) 86 rfl
        have t91 : B.tmps[91]? = some (cond p10 (.bool t11) undef) := hL.at_ 80 (by decide) 91 rfl
        clear hL
        refine Box.mk ?_
        rcases Bool.eq_false_or_eq_true p10 with hs | hs
        · simp only [hs, cond_true, cond_false] at t86 t91
          go_simp
          exact hK.out _ _ rfl (by change _ = (.bool p11 : Value); rw [← P11.out]; simp [hs])
        · simp only [hs, cond_true, cond_false] at t86 t91
          go_simp
          exact hK.out _ _ rfl (by change _ = (.bool p11 : Value); rw [← P11.out]; simp [hs])
      refine VAll.snoc (i := 80) ?_ rfl rfl idle_t ?_
      rotate_left
      · intro B y hI hL hg K E hK
        rw [hI]
        clear hI
        have hg : (.bool p10 : Value) = .bool true := hg
        have he0 := want_b hg
        clear hg
        have t88 : B.tmps[88]? = some (cond p10 (.bool a.fresh) undef) := hL.at_ 77 (by decide) 88 rfl
        have t90 : B.tmps[90]? = some (cond p10 (.bool b.fresh) undef) := hL.at_ 79 (by decide) 90 rfl
        clear hL
        simp only [he0, cond_true, cond_false] at t88 t90
        refine Box.mk ?_
        have hd := H11.out
        go_simp
        exact hK.out _ _ rfl (by change _ = cond _ _ _; simp only [he0, cond_true, cond_false])
      refine VAll.snoc (i := 79) ?_ rfl rfl idle_t ?_
      rotate_left
      · intro B y hI hL hg K E hK
        rw [hI]
        clear hI
        have hg : (.bool p10 : Value) = .bool true := hg
        have he0 := want_b hg
        clear hg
        have t89 : B.tmps[89]? = some (cond p10 (.pointer (some ⟨w.heap.size + 1, 11, none⟩)) undef) := hL.at_ 78 (by decide) 89 rfl
        clear hL
        simp only [he0, cond_true, cond_false] at t89
        refine Box.mk ?_
        go_simp
        exact hK.out _ _ rfl (by change _ = cond _ _ _; simp only [he0, cond_true, cond_false])
      refine VAll.snoc (i := 78) ?_ rfl rfl idle_t ?_
      rotate_left
      · intro B y hI hL hg K E hK
        rw [hI]
        clear hI
        have hg : (.bool p10 : Value) = .bool true := hg
        have he0 := want_b hg
        clear hg
        have t3 : B.tmps[3]? = some (.pointer (some ⟨w.heap.size + 1, 0, none⟩)) := (hL.out 3 rfl).trans rfl
        clear hL
        refine Box.mk ?_
        go_simp
        exact hK.out _ _ rfl (by change _ = cond _ _ _; simp only [he0, cond_true, cond_false])
      refine VAll.snoc (i := 77) ?_ rfl rfl idle_t ?_
      rotate_left
      · intro B y hI hL hg K E hK
        rw [hI]
        clear hI
        have hg : (.bool p10 : Value) = .bool true := hg
        have he0 := want_b hg
        clear hg
        have t87 : B.tmps[87]? = some (cond p10 (.pointer (some ⟨w.heap.size, 11, none⟩)) undef) := hL.at_ 76 (by decide) 87 rfl
        clear hL
        simp only [he0, cond_true, cond_false] at t87
        refine Box.mk ?_
        go_simp
        exact hK.out _ _ rfl (by change _ = cond _ _ _; simp only [he0, cond_true, cond_false])
      refine VAll.snoc (i := 76) ?_ rfl rfl idle_t ?_
      rotate_left
      · intro B y hI hL hg K E hK
        rw [hI]
        clear hI
        have hg : (.bool p10 : Value) = .bool true := hg
        have he0 := want_b hg
        clear hg
        have t2 : B.tmps[2]? = some (.pointer (some ⟨w.heap.size, 0, none⟩)) := (hL.out 2 rfl).trans rfl
        clear hL
        refine Box.mk ?_
        go_simp
        exact hK.out _ _ rfl (by change _ = cond _ _ _; simp only [he0, cond_true, cond_false])
      refine VAll.snoc (i := 75) ?_ rfl rfl trivial ?_
      rotate_left
      · intro B y hI hL K E hK
        rw [hI]
        clear hI
        have t85 : B.tmps[85]? = some (.bool p10) := hL.at_ 74 (by decide) 85 rfl
        clear hL
        refine Box.mk ?_
        go_simp
        exact hK.out _ _ rfl rfl
      refine VAll.snoc (i := 74) ?_ rfl rfl trivial ?_
      rotate_left
      · intro B y hI hL K E hK
        rw [hI]
        clear hI
        have t79 : B.tmps[79]? = some (.bool p9) := hL.at_ 68 (by decide) 79 rfl
        have t84 : B.tmps[84]? = some (cond p9 (.bool t10) undef) := hL.at_ 73 (by decide) 84 rfl
        clear hL
        refine Box.mk ?_
        rcases Bool.eq_false_or_eq_true p9 with hs | hs
        · simp only [hs, cond_true, cond_false] at t79 t84
          go_simp
          exact hK.out _ _ rfl (by change _ = (.bool p10 : Value); rw [← P10.out]; simp [hs])
        · simp only [hs, cond_true, cond_false] at t79 t84
          go_simp
          exact hK.out _ _ rfl (by change _ = (.bool p10 : Value); rw [← P10.out]; simp [hs])
      refine VAll.snoc (i := 73) ?_ rfl rfl idle_t ?_
      rotate_left
      · intro B y hI hL hg K E hK
        rw [hI]
        clear hI
        have hg : (.bool p9 : Value) = .bool true := hg
        have he0 := want_b hg
        clear hg
        have t81 : B.tmps[81]? = some (cond p9 (.int .i64 a.id) undef) := hL.at_ 70 (by decide) 81 rfl
        have t83 : B.tmps[83]? = some (cond p9 (.int .i64 b.id) undef) := hL.at_ 72 (by decide) 83 rfl
        clear hL
        simp only [he0, cond_true, cond_false] at t81 t83
        refine Box.mk ?_
        have hd := H10.out
        go_simp
        exact hK.out _ _ rfl (by change _ = cond _ _ _; simp only [he0, cond_true, cond_false])
      refine VAll.snoc (i := 72) ?_ rfl rfl idle_t ?_
      rotate_left
      · intro B y hI hL hg K E hK
        rw [hI]
        clear hI
        have hg : (.bool p9 : Value) = .bool true := hg
        have he0 := want_b hg
        clear hg
        have t82 : B.tmps[82]? = some (cond p9 (.pointer (some ⟨w.heap.size + 1, 10, none⟩)) undef) := hL.at_ 71 (by decide) 82 rfl
        clear hL
        simp only [he0, cond_true, cond_false] at t82
        refine Box.mk ?_
        go_simp
        exact hK.out _ _ rfl (by change _ = cond _ _ _; simp only [he0, cond_true, cond_false])
      refine VAll.snoc (i := 71) ?_ rfl rfl idle_t ?_
      rotate_left
      · intro B y hI hL hg K E hK
        rw [hI]
        clear hI
        have hg : (.bool p9 : Value) = .bool true := hg
        have he0 := want_b hg
        clear hg
        have t3 : B.tmps[3]? = some (.pointer (some ⟨w.heap.size + 1, 0, none⟩)) := (hL.out 3 rfl).trans rfl
        clear hL
        refine Box.mk ?_
        go_simp
        exact hK.out _ _ rfl (by change _ = cond _ _ _; simp only [he0, cond_true, cond_false])
      refine VAll.snoc (i := 70) ?_ rfl rfl idle_t ?_
      rotate_left
      · intro B y hI hL hg K E hK
        rw [hI]
        clear hI
        have hg : (.bool p9 : Value) = .bool true := hg
        have he0 := want_b hg
        clear hg
        have t80 : B.tmps[80]? = some (cond p9 (.pointer (some ⟨w.heap.size, 10, none⟩)) undef) := hL.at_ 69 (by decide) 80 rfl
        clear hL
        simp only [he0, cond_true, cond_false] at t80
        refine Box.mk ?_
        go_simp
        exact hK.out _ _ rfl (by change _ = cond _ _ _; simp only [he0, cond_true, cond_false])
      refine VAll.snoc (i := 69) ?_ rfl rfl idle_t ?_
      rotate_left
      · intro B y hI hL hg K E hK
        rw [hI]
        clear hI
        have hg : (.bool p9 : Value) = .bool true := hg
        have he0 := want_b hg
        clear hg
        have t2 : B.tmps[2]? = some (.pointer (some ⟨w.heap.size, 0, none⟩)) := (hL.out 2 rfl).trans rfl
        clear hL
        refine Box.mk ?_
        go_simp
        exact hK.out _ _ rfl (by change _ = cond _ _ _; simp only [he0, cond_true, cond_false])
      refine VAll.snoc (i := 68) ?_ rfl rfl trivial ?_
      rotate_left
      · intro B y hI hL K E hK
        rw [hI]
        clear hI
        have t78 : B.tmps[78]? = some (.bool p9) := hL.at_ 67 (by decide) 78 rfl
        clear hL
        refine Box.mk ?_
        go_simp
        exact hK.out _ _ rfl rfl
      refine VAll.snoc (i := 67) ?_ rfl rfl trivial ?_
      rotate_left
      · intro B y hI hL K E hK
        rw [hI]
        clear hI
        have t72 : B.tmps[72]? = some (.bool p8) := hL.at_ 61 (by decide) 72 rfl
        have t77 : B.tmps[77]? = some (cond p8 (.bool t9) undef) := hL.at_ 66 (by decide) 77 rfl
        clear hL
        refine Box.mk ?_
        rcases Bool.eq_false_or_eq_true p8 with hs | hs
        · simp only [hs, cond_true, cond_false] at t72 t77
          go_simp
          exact hK.out _ _ rfl (by change _ = (.bool p9 : Value); rw [← P9.out]; simp [hs])
        · simp only [hs, cond_true, cond_false] at t72 t77
          go_simp
          exact hK.out _ _ rfl (by change _ = (.bool p9 : Value); rw [← P9.out]; simp [hs])
      refine VAll.snoc (i := 66) ?_ rfl rfl idle_t ?_
      rotate_left
      · intro B y hI hL hg K E hK
        rw [hI]
        clear hI
        have hg : (.bool p8 : Value) = .bool true := hg
        have he0 := want_b hg
        clear hg
        have t74 : B.tmps[74]? = some (cond p8 (.int .i64 a.term) undef) := hL.at_ 63 (by decide) 74 rfl
        have t76 : B.tmps[76]? = some (cond p8 (.int .i64 b.term) undef) := hL.at_ 65 (by decide) 76 rfl
        clear hL
        simp only [he0, cond_true, cond_false] at t74 t76
        refine Box.mk ?_
        have hd := H9.out
        go_simp
        exact hK.out _ _ rfl (by change _ = cond _ _ _; simp only [he0, cond_true, cond_false])
      refine VAll.snoc (i := 65) ?_ rfl rfl idle_t ?_
      rotate_left
      · intro B y hI hL hg K E hK
        rw [hI]
        clear hI
        have hg : (.bool p8 : Value) = .bool true := hg
        have he0 := want_b hg
        clear hg
        have t75 : B.tmps[75]? = some (cond p8 (.pointer (some ⟨w.heap.size + 1, 9, none⟩)) undef) := hL.at_ 64 (by decide) 75 rfl
        clear hL
        simp only [he0, cond_true, cond_false] at t75
        refine Box.mk ?_
        go_simp
        exact hK.out _ _ rfl (by change _ = cond _ _ _; simp only [he0, cond_true, cond_false])
      refine VAll.snoc (i := 64) ?_ rfl rfl idle_t ?_
      rotate_left
      · intro B y hI hL hg K E hK
        rw [hI]
        clear hI
        have hg : (.bool p8 : Value) = .bool true := hg
        have he0 := want_b hg
        clear hg
        have t3 : B.tmps[3]? = some (.pointer (some ⟨w.heap.size + 1, 0, none⟩)) := (hL.out 3 rfl).trans rfl
        clear hL
        refine Box.mk ?_
        go_simp
        exact hK.out _ _ rfl (by change _ = cond _ _ _; simp only [he0, cond_true, cond_false])
      refine VAll.snoc (i := 63) ?_ rfl rfl idle_t ?_
      rotate_left
      · intro B y hI hL hg K E hK
        rw [hI]
        clear hI
        have hg : (.bool p8 : Value) = .bool true := hg
        have he0 := want_b hg
        clear hg
        have t73 : B.tmps[73]? = some (cond p8 (.pointer (some ⟨w.heap.size, 9, none⟩)) undef) := hL.at_ 62 (by decide) 73 rfl
        clear hL
        simp only [he0, cond_true, cond_false] at t73
        refine Box.mk ?_
        go_simp
        exact hK.out _ _ rfl (by change _ = cond _ _ _; simp only [he0, cond_true, cond_false])
      refine VAll.snoc (i := 62) ?_ rfl rfl idle_t ?_
      rotate_left
      · intro B y hI hL hg K E hK
        rw [hI]
        clear hI
        have hg : (.bool p8 : Value) = .bool true := hg
        have he0 := want_b hg
        clear hg
        have t2 : B.tmps[2]? = some (.pointer (some ⟨w.heap.size, 0, none⟩)) := (hL.out 2 rfl).trans rfl
        clear hL
        refine Box.mk ?_
        go_simp
        exact hK.out _ _ rfl (by change _ = cond _ _ _; simp only [he0, cond_true, cond_false])
      refine VAll.snoc (i := 61) ?_ rfl rfl trivial ?_
      rotate_left
      · intro B y hI hL K E hK
        rw [hI]
        clear hI
        have t71 : B.tmps[71]? = some (.bool p8) := hL.at_ 60 (by decide) 71 rfl
        clear hL
        refine Box.mk ?_
        go_simp
        exact hK.out _ _ rfl rfl
      refine VAll.snoc (i := 60) ?_ rfl rfl trivial ?_
      rotate_left
      · intro B y hI hL K E hK
        rw [hI]
        clear hI
        have t65 : B.tmps[65]? = some (.bool p7) := hL.at_ 54 (by decide) 65 rfl
        have t70 : B.tmps[70]? = some (cond p7 (.bool t8) undef) := hL.at_ 59 (by decide) 70 rfl
        clear hL
        refine Box.mk ?_
        rcases Bool.eq_false_or_eq_true p7 with hs | hs
        · simp only [hs, cond_true, cond_false] at t65 t70
          go_simp
          exact hK.out _ _ rfl (by change _ = (.bool p8 : Value); rw [← P8.out]; simp [hs])
        · simp only [hs, cond_true, cond_false] at t65 t70
          go_simp
          exact hK.out _ _ rfl (by change _ = (.bool p8 : Value); rw [← P8.out]; simp [hs])
      refine VAll.snoc (i := 59) ?_ rfl rfl idle_t ?_
      rotate_left
      · intro B y hI hL hg K E hK
        rw [hI]
        clear hI
        have hg : (.bool p7 : Value) = .bool true := hg
        have he0 := want_b hg
        clear hg
        have t67 : B.tmps[67]? = some (cond p7 (.int .i64 a.mode) undef) := hL.at_ 56 (by decide) 67 rfl
        have t69 : B.tmps[69]? = some (cond p7 (.int .i64 b.mode) undef) := hL.at_ 58 (by decide) 69 rfl
        clear hL
        simp only [he0, cond_true, cond_false] at t67 t69
        refine Box.mk ?_
        have hd := H8.out
        go_simp
        exact hK.out _ _ rfl (by change _ = cond _ _ _; simp only [he0, cond_true, cond_false])
      refine VAll.snoc (i := 58) ?_ rfl rfl idle_t ?_
      rotate_left
      · intro B y hI hL hg K E hK
        rw [hI]
        clear hI
        have hg : (.bool p7 : Value) = .bool true := hg
        have he0 := want_b hg
        clear hg
        have t68 : B.tmps[68]? = some (cond p7 (.pointer (some ⟨w.heap.size + 1, 8, none⟩)) undef) := hL.at_ 57 (by decide) 68 rfl
        clear hL
        simp only [he0, cond_true, cond_false] at t68
        refine Box.mk ?_
        go_simp
        exact hK.out _ _ rfl (by change _ = cond _ _ _; simp only [he0, cond_true, cond_false])
      refine VAll.snoc (i := 57) ?_ rfl rfl idle_t ?_
      rotate_left
      · intro B y hI hL hg K E hK
        rw [hI]
        clear hI
        have hg : (.bool p7 : Value) = .bool true := hg
        have he0 := want_b hg
        clear hg
        have t3 : B.tmps[3]? = some (.pointer (some ⟨w.heap.size + 1, 0, none⟩)) := (hL.out 3 rfl).trans rfl
        clear hL
        refine Box.mk ?_
        go_simp
        exact hK.out _ _ rfl (by change _ = cond _ _ _; simp only [he0, cond_true, cond_false])
      refine VAll.snoc (i := 56) ?_ rfl rfl idle_t ?_
      rotate_left
      · intro B y hI hL hg K E hK
        rw [hI]
        clear hI
        have hg : (.bool p7 : Value) = .bool true := hg
        have he0 := want_b hg
        clear hg
        have t66 : B.tmps[66]? = some (cond p7 (.pointer (some ⟨w.heap.size, 8, none⟩)) undef) := hL.at_ 55 (by decide) 66 rfl
        clear hL
        simp only [he0, cond_true, cond_false] at t66
        refine Box.mk ?_
        go_simp
        exact hK.out _ _ rfl (by change _ = cond _ _ _; simp only [he0, cond_true, cond_false])
      refine VAll.snoc (i := 55) ?_ rfl rfl idle_t ?_
      rotate_left
      · intro B y hI hL hg K E hK
        rw [hI]
        clear hI
        have hg : (.bool p7 : Value) = .bool true := hg
        have he0 := want_b hg
        clear hg
        have t2 : B.tmps[2]? = some (.pointer (some ⟨w.heap.size, 0, none⟩)) := (hL.out 2 rfl).trans rfl
        clear hL
        refine Box.mk ?_
        go_simp
        exact hK.out _ _ rfl (by change _ = cond _ _ _; simp only [he0, cond_true, cond_false])
      refine VAll.snoc (i := 54) ?_ rfl rfl trivial ?_
      rotate_left
      · intro B y hI hL K E hK
        rw [hI]
        clear hI
        have t64 : B.tmps[64]? = some (.bool p7) := hL.at_ 53 (by decide) 64 rfl
        clear hL
        refine Box.mk ?_
        go_simp
        exact hK.out _ _ rfl rfl
      refine VAll.snoc (i := 53) ?_ rfl rfl trivial ?_
      rotate_left
      · intro B y hI hL K E hK
        rw [hI]
        clear hI
        have t58 : B.tmps[58]? = some (.bool p6) := hL.at_ 47 (by decide) 58 rfl
        have t63 : B.tmps[63]? = some (cond p6 (.bool t7) undef) := hL.at_ 52 (by decide) 63 rfl
        clear hL
        refine Box.mk ?_
        rcases Bool.eq_false_or_eq_true p6 with hs | hs
        · simp only [hs, cond_true, cond_false] at t58 t63
          go_simp
          exact hK.out _ _ rfl (by change _ = (.bool p7 : Value); rw [← P7.out]; simp [hs])
        · simp only [hs, cond_true, cond_false] at t58 t63
          go_simp
          exact hK.out _ _ rfl (by change _ = (.bool p7 : Value); rw [← P7.out]; simp [hs])
      refine VAll.snoc (i := 52) ?_ rfl rfl idle_t ?_
      rotate_left
      · intro B y hI hL hg K E hK
        rw [hI]
        clear hI
        have hg : (.bool p6 : Value) = .bool true := hg
        have he0 := want_b hg
        clear hg
        have t60 : B.tmps[60]? = some (cond p6 (.string a.path) undef) := hL.at_ 49 (by decide) 60 rfl
        have t62 : B.tmps[62]? = some (cond p6 (.string b.path) undef) := hL.at_ 51 (by decide) 62 rfl
        clear hL
        simp only [he0, cond_true, cond_false] at t60 t62
        refine Box.mk ?_
        have hd := H7.out
        go_simp
        exact hK.out _ _ rfl (by change _ = cond _ _ _; simp only [he0, cond_true, cond_false])
      refine VAll.snoc (i := 51) ?_ rfl rfl idle_t ?_
      rotate_left
      · intro B y hI hL hg K E hK
        rw [hI]
        clear hI
        have hg : (.bool p6 : Value) = .bool true := hg
        have he0 := want_b hg
        clear hg
        have t61 : B.tmps[61]? = some (cond p6 (.pointer (some ⟨w.heap.size + 1, 7, none⟩)) undef) := hL.at_ 50 (by decide) 61 rfl
        clear hL
        simp only [he0, cond_true, cond_false] at t61
        refine Box.mk ?_
        go_simp
        exact hK.out _ _ rfl (by change _ = cond _ _ _; simp only [he0, cond_true, cond_false])
      refine VAll.snoc (i := 50) ?_ rfl rfl idle_t ?_
      rotate_left
      · intro B y hI hL hg K E hK
        rw [hI]
        clear hI
        have hg : (.bool p6 : Value) = .bool true := hg
        have he0 := want_b hg
        clear hg
        have t3 : B.tmps[3]? = some (.pointer (some ⟨w.heap.size + 1, 0, none⟩)) := (hL.out 3 rfl).trans rfl
        clear hL
        refine Box.mk ?_
        go_simp
        exact hK.out _ _ rfl (by change _ = cond _ _ _; simp only [he0, cond_true, cond_false])
      refine VAll.snoc (i := 49) ?_ rfl rfl idle_t ?_
      rotate_left
      · intro B y hI hL hg K E hK
        rw [hI]
        clear hI
        have hg : (.bool p6 : Value) = .bool true := hg
        have he0 := want_b hg
        clear hg
        have t59 : B.tmps[59]? = some (cond p6 (.pointer (some ⟨w.heap.size, 7, none⟩)) undef) := hL.at_ 48 (by decide) 59 rfl
        clear hL
        simp only [he0, cond_true, cond_false] at t59
        refine Box.mk ?_
        go_simp
        exact hK.out _ _ rfl (by change _ = cond _ _ _; simp only [he0, cond_true, cond_false])
      refine VAll.snoc (i := 48) ?_ rfl rfl idle_t ?_
      rotate_left
      · intro B y hI hL hg K E hK
        rw [hI]
        clear hI
        have hg : (.bool p6 : Value) = .bool true := hg
        have he0 := want_b hg
        clear hg
        have t2 : B.tmps[2]? = some (.pointer (some ⟨w.heap.size, 0, none⟩)) := (hL.out 2 rfl).trans rfl
        clear hL
        refine Box.mk ?_
        go_simp
        exact hK.out _ _ rfl (by change _ = cond _ _ _; simp only [he0, cond_true, cond_false])
      refine VAll.snoc (i := 47) ?_ rfl rfl trivial ?_
      rotate_left
      · intro B y hI hL K E hK
        rw [hI]
        clear hI
        have t57 : B.tmps[57]? = some (.bool p6) := hL.at_ 46 (by decide) 57 rfl
        clear hL
        refine Box.mk ?_
        go_simp
        exact hK.out _ _ rfl rfl
      refine VAll.snoc (i := 46) ?_ rfl rfl trivial ?_
      rotate_left
      · intro B y hI hL K E hK
        rw [hI]
        clear hI
        have t51 : B.tmps[51]? = some (.bool p5) := hL.at_ 40 (by decide) 51 rfl
        have t56 : B.tmps[56]? = some (cond p5 (.bool t6) undef) := hL.at_ 45 (by decide) 56 rfl
        clear hL
        refine Box.mk ?_
        rcases Bool.eq_false_or_eq_true p5 with hs | hs
        · simp only [hs, cond_true, cond_false] at t51 t56
          go_simp
          exact hK.out _ _ rfl (by change _ = (.bool p6 : Value); rw [← P6.out]; simp [hs])
        · simp only [hs, cond_true, cond_false] at t51 t56
          go_simp
          exact hK.out _ _ rfl (by change _ = (.bool p6 : Value); rw [← P6.out]; simp [hs])
      refine VAll.snoc (i := 45) ?_ rfl rfl idle_t ?_
      rotate_left
      · intro B y hI hL hg K E hK
        rw [hI]
        clear hI
        have hg : (.bool p5 : Value) = .bool true := hg
        have he0 := want_b hg
        clear hg
        have t53 : B.tmps[53]? = some (cond p5 (.int .i64 a.verb) undef) := hL.at_ 42 (by decide) 53 rfl
        have t55 : B.tmps[55]? = some (cond p5 (.int .i64 b.verb) undef) := hL.at_ 44 (by decide) 55 rfl
        clear hL
        simp only [he0, cond_true, cond_false] at t53 t55
        refine Box.mk ?_
        have hd := H6.out
        go_simp
        exact hK.out _ _ rfl (by change _ = cond _ _ _; simp only [he0, cond_true, cond_false])
      refine VAll.snoc (i := 44) ?_ rfl rfl idle_t ?_
      rotate_left
      · intro B y hI hL hg K E hK
        rw [hI]
        clear hI
        have hg : (.bool p5 : Value) = .bool true := hg
        have he0 := want_b hg
        clear hg
        have t54 : B.tmps[54]? = some (cond p5 (.pointer (some ⟨w.heap.size + 1, 6, none⟩)) undef) := hL.at_ 43 (by decide) 54 rfl
        clear hL
        simp only [he0, cond_true, cond_false] at t54
        refine Box.mk ?_
        go_simp
        exact hK.out _ _ rfl (by change _ = cond _ _ _; simp only [he0, cond_true, cond_false])
      refine VAll.snoc (i := 43) ?_ rfl rfl idle_t ?_
      rotate_left
      · intro B y hI hL hg K E hK
        rw [hI]
        clear hI
        have hg : (.bool p5 : Value) = .bool true := hg
        have he0 := want_b hg
        clear hg
        have t3 : B.tmps[3]? = some (.pointer (some ⟨w.heap.size + 1, 0, none⟩)) := (hL.out 3 rfl).trans rfl
        clear hL
        refine Box.mk ?_
        go_simp
        exact hK.out _ _ rfl (by change _ = cond _ _ _; simp only [he0, cond_true, cond_false])
      refine VAll.snoc (i := 42) ?_ rfl rfl idle_t ?_
      rotate_left
      · intro B y hI hL hg K E hK
        rw [hI]
        clear hI
        have hg : (.bool p5 : Value) = .bool true := hg
        have he0 := want_b hg
        clear hg
        have t52 : B.tmps[52]? = some (cond p5 (.pointer (some ⟨w.heap.size, 6, none⟩)) undef) := hL.at_ 41 (by decide) 52 rfl
        clear hL
        simp only [he0, cond_true, cond_false] at t52
        refine Box.mk ?_
        go_simp
        exact hK.out _ _ rfl (by change _ = cond _ _ _; simp only [he0, cond_true, cond_false])
      refine VAll.snoc (i := 41) ?_ rfl rfl idle_t ?_
      rotate_left
      · intro B y hI hL hg K E hK
        rw [hI]
        clear hI
        have hg : (.bool p5 : Value) = .bool true := hg
        have he0 := want_b hg
        clear hg
        have t2 : B.tmps[2]? = some (.pointer (some ⟨w.heap.size, 0, none⟩)) := (hL.out 2 rfl).trans rfl
        clear hL
        refine Box.mk ?_
        go_simp
        exact hK.out _ _ rfl (by change _ = cond _ _ _; simp only [he0, cond_true, cond_false])
      refine VAll.snoc (i := 40) ?_ rfl rfl trivial ?_
      rotate_left
      · intro B y hI hL K E hK
        rw [hI]
        clear hI
        have t50 : B.tmps[50]? = some (.bool p5) := hL.at_ 39 (by decide) 50 rfl
        clear hL
        refine Box.mk ?_
        go_simp
        exact hK.out _ _ rfl rfl
      refine VAll.snoc (i := 39) ?_ rfl rfl trivial ?_
      rotate_left
      · intro B y hI hL K E hK
        rw [hI]
        clear hI
        have t44 : B.tmps[44]? = some (.bool p4) := hL.at_ 33 (by decide) 44 rfl
        have t49 : B.tmps[49]? = some (cond p4 (.bool t5) undef) := hL.at_ 38 (by decide) 49 rfl
        clear hL
        refine Box.mk ?_
        rcases Bool.eq_false_or_eq_true p4 with hs | hs
        · simp only [hs, cond_true, cond_false] at t44 t49
          go_simp
          exact hK.out _ _ rfl (by change _ = (.bool p5 : Value); rw [← P5.out]; simp [hs])
        · simp only [hs, cond_true, cond_false] at t44 t49
          go_simp
          exact hK.out _ _ rfl (by change _ = (.bool p5 : Value); rw [← P5.out]; simp [hs])
      refine VAll.snoc (i := 38) ?_ rfl rfl idle_t ?_
      rotate_left
      · intro B y hI hL hg K E hK
        rw [hI]
        clear hI
        have hg : (.bool p4 : Value) = .bool true := hg
        have he0 := want_b hg
        clear hg
        have t46 : B.tmps[46]? = some (cond p4 (.int .i64 a.low) undef) := hL.at_ 35 (by decide) 46 rfl
        have t48 : B.tmps[48]? = some (cond p4 (.int .i64 b.low) undef) := hL.at_ 37 (by decide) 48 rfl
        clear hL
        simp only [he0, cond_true, cond_false] at t46 t48
        refine Box.mk ?_
        have hd := H5.out
        go_simp
        exact hK.out _ _ rfl (by change _ = cond _ _ _; simp only [he0, cond_true, cond_false])
      refine VAll.snoc (i := 37) ?_ rfl rfl idle_t ?_
      rotate_left
      · intro B y hI hL hg K E hK
        rw [hI]
        clear hI
        have hg : (.bool p4 : Value) = .bool true := hg
        have he0 := want_b hg
        clear hg
        have t47 : B.tmps[47]? = some (cond p4 (.pointer (some ⟨w.heap.size + 1, 5, none⟩)) undef) := hL.at_ 36 (by decide) 47 rfl
        clear hL
        simp only [he0, cond_true, cond_false] at t47
        refine Box.mk ?_
        go_simp
        exact hK.out _ _ rfl (by change _ = cond _ _ _; simp only [he0, cond_true, cond_false])
      refine VAll.snoc (i := 36) ?_ rfl rfl idle_t ?_
      rotate_left
      · intro B y hI hL hg K E hK
        rw [hI]
        clear hI
        have hg : (.bool p4 : Value) = .bool true := hg
        have he0 := want_b hg
        clear hg
        have t3 : B.tmps[3]? = some (.pointer (some ⟨w.heap.size + 1, 0, none⟩)) := (hL.out 3 rfl).trans rfl
        clear hL
        refine Box.mk ?_
        go_simp
        exact hK.out _ _ rfl (by change _ = cond _ _ _; simp only [he0, cond_true, cond_false])
      refine VAll.snoc (i := 35) ?_ rfl rfl idle_t ?_
      rotate_left
      · intro B y hI hL hg K E hK
        rw [hI]
        clear hI
        have hg : (.bool p4 : Value) = .bool true := hg
        have he0 := want_b hg
        clear hg
        have t45 : B.tmps[45]? = some (cond p4 (.pointer (some ⟨w.heap.size, 5, none⟩)) undef) := hL.at_ 34 (by decide) 45 rfl
        clear hL
        simp only [he0, cond_true, cond_false] at t45
        refine Box.mk ?_
        go_simp
        exact hK.out _ _ rfl (by change _ = cond _ _ _; simp only [he0, cond_true, cond_false])
      refine VAll.snoc (i := 34) ?_ rfl rfl idle_t ?_
      rotate_left
      · intro B y hI hL hg K E hK
        rw [hI]
        clear hI
        have hg : (.bool p4 : Value) = .bool true := hg
        have he0 := want_b hg
        clear hg
        have t2 : B.tmps[2]? = some (.pointer (some ⟨w.heap.size, 0, none⟩)) := (hL.out 2 rfl).trans rfl
        clear hL
        refine Box.mk ?_
        go_simp
        exact hK.out _ _ rfl (by change _ = cond _ _ _; simp only [he0, cond_true, cond_false])
      refine VAll.snoc (i := 33) ?_ rfl rfl trivial ?_
      rotate_left
      · intro B y hI hL K E hK
        rw [hI]
        clear hI
        have t43 : B.tmps[43]? = some (.bool p4) := hL.at_ 32 (by decide) 43 rfl
        clear hL
        refine Box.mk ?_
        go_simp
        exact hK.out _ _ rfl rfl
      refine VAll.snoc (i := 32) ?_ rfl rfl trivial ?_
      rotate_left
      · intro B y hI hL K E hK
        rw [hI]
        clear hI
        have t37 : B.tmps[37]? = some (.bool p3) := hL.at_ 26 (by decide) 37 rfl
        have t42 : B.tmps[42]? = some (cond p3 (.bool t4) undef) := hL.at_ 31 (by decide) 42 rfl
        clear hL
        refine Box.mk ?_
        rcases Bool.eq_false_or_eq_true p3 with hs | hs
        · simp only [hs, cond_true, cond_false] at t37 t42
          go_simp
          exact hK.out _ _ rfl (by change _ = (.bool p4 : Value); rw [← P4.out]; simp [hs])
        · simp only [hs, cond_true, cond_false] at t37 t42
          go_simp
          exact hK.out _ _ rfl (by change _ = (.bool p4 : Value); rw [← P4.out]; simp [hs])
      refine VAll.snoc (i := 31) ?_ rfl rfl idle_t ?_
      rotate_left
      · intro B y hI hL hg K E hK
        rw [hI]
        clear hI
        have hg : (.bool p3 : Value) = .bool true := hg
        have he0 := want_b hg
        clear hg
        have t39 : B.tmps[39]? = some (cond p3 (.int .i64 a.seq) undef) := hL.at_ 28 (by decide) 39 rfl
        have t41 : B.tmps[41]? = some (cond p3 (.int .i64 b.seq) undef) := hL.at_ 30 (by decide) 41 rfl
        clear hL
        simp only [he0, cond_true, cond_false] at t39 t41
        refine Box.mk ?_
        have hd := H4.out
        go_simp
        exact hK.out _ _ rfl (by change _ = cond _ _ _; simp only [he0, cond_true, cond_false])
      refine VAll.snoc (i := 30) ?_ rfl rfl idle_t ?_
      rotate_left
      · intro B y hI hL hg K E hK
        rw [hI]
        clear hI
        have hg : (.bool p3 : Value) = .bool true := hg
        have he0 := want_b hg
        clear hg
        have t40 : B.tmps[40]? = some (cond p3 (.pointer (some ⟨w.heap.size + 1, 4, none⟩)) undef) := hL.at_ 29 (by decide) 40 rfl
        clear hL
        simp only [he0, cond_true, cond_false] at t40
        refine Box.mk ?_
        go_simp
        exact hK.out _ _ rfl (by change _ = cond _ _ _; simp only [he0, cond_true, cond_false])
      refine VAll.snoc (i := 29) ?_ rfl rfl idle_t ?_
      rotate_left
      · intro B y hI hL hg K E hK
        rw [hI]
        clear hI
        have hg : (.bool p3 : Value) = .bool true := hg
        have he0 := want_b hg
        clear hg
        have t3 : B.tmps[3]? = some (.pointer (some ⟨w.heap.size + 1, 0, none⟩)) := (hL.out 3 rfl).trans rfl
        clear hL
        refine Box.mk ?_
        go_simp
        exact hK.out _ _ rfl (by change _ = cond _ _ _; simp only [he0, cond_true, cond_false])
      refine VAll.snoc (i := 28) ?_ rfl rfl idle_t ?_
      rotate_left
      · intro B y hI hL hg K E hK
        rw [hI]
        clear hI
        have hg : (.bool p3 : Value) = .bool true := hg
        have he0 := want_b hg
        clear hg
        have t38 : B.tmps[38]? = some (cond p3 (.pointer (some ⟨w.heap.size, 4, none⟩)) undef) := hL.at_ 27 (by decide) 38 rfl
        clear hL
        simp only [he0, cond_true, cond_false] at t38
        refine Box.mk ?_
        go_simp
        exact hK.out _ _ rfl (by change _ = cond _ _ _; simp only [he0, cond_true, cond_false])
      refine VAll.snoc (i := 27) ?_ rfl rfl idle_t ?_
      rotate_left
      · intro B y hI hL hg K E hK
        rw [hI]
        clear hI
        have hg : (.bool p3 : Value) = .bool true := hg
        have he0 := want_b hg
        clear hg
        have t2 : B.tmps[2]? = some (.pointer (some ⟨w.heap.size, 0, none⟩)) := (hL.out 2 rfl).trans rfl
        clear hL
        refine Box.mk ?_
        go_simp
        exact hK.out _ _ rfl (by change _ = cond _ _ _; simp only [he0, cond_true, cond_false])
      refine VAll.snoc (i := 26) ?_ rfl rfl trivial ?_
      rotate_left
      · intro B y hI hL K E hK
        rw [hI]
        clear hI
        have t36 : B.tmps[36]? = some (.bool p3) := hL.at_ 25 (by decide) 36 rfl
        clear hL
        refine Box.mk ?_
        go_simp
        exact hK.out _ _ rfl rfl
      refine VAll.snoc (i := 25) ?_ rfl rfl trivial ?_
      rotate_left
      · intro B y hI hL K E hK
        rw [hI]
        clear hI
        have t30 : B.tmps[30]? = some (.bool p2) := hL.at_ 19 (by decide) 30 rfl
        have t35 : B.tmps[35]? = some (cond p2 (.bool t3) undef) := hL.at_ 24 (by decide) 35 rfl
        clear hL
        refine Box.mk ?_
        rcases Bool.eq_false_or_eq_true p2 with hs | hs
        · simp only [hs, cond_true, cond_false] at t30 t35
          go_simp
          exact hK.out _ _ rfl (by change _ = (.bool p3 : Value); rw [← P3.out]; simp [hs])
        · simp only [hs, cond_true, cond_false] at t30 t35
          go_simp
          exact hK.out _ _ rfl (by change _ = (.bool p3 : Value); rw [← P3.out]; simp [hs])
      refine VAll.snoc (i := 24) ?_ rfl rfl idle_t ?_
      rotate_left
      · intro B y hI hL hg K E hK
        rw [hI]
        clear hI
        have hg : (.bool p2 : Value) = .bool true := hg
        have he0 := want_b hg
        clear hg
        have t32 : B.tmps[32]? = some (cond p2 (.int .i64 a.boot) undef) := hL.at_ 21 (by decide) 32 rfl
        have t34 : B.tmps[34]? = some (cond p2 (.int .i64 b.boot) undef) := hL.at_ 23 (by decide) 34 rfl
        clear hL
        simp only [he0, cond_true, cond_false] at t32 t34
        refine Box.mk ?_
        have hd := H3.out
        go_simp
        exact hK.out _ _ rfl (by change _ = cond _ _ _; simp only [he0, cond_true, cond_false])
      refine VAll.snoc (i := 23) ?_ rfl rfl idle_t ?_
      rotate_left
      · intro B y hI hL hg K E hK
        rw [hI]
        clear hI
        have hg : (.bool p2 : Value) = .bool true := hg
        have he0 := want_b hg
        clear hg
        have t33 : B.tmps[33]? = some (cond p2 (.pointer (some ⟨w.heap.size + 1, 3, none⟩)) undef) := hL.at_ 22 (by decide) 33 rfl
        clear hL
        simp only [he0, cond_true, cond_false] at t33
        refine Box.mk ?_
        go_simp
        exact hK.out _ _ rfl (by change _ = cond _ _ _; simp only [he0, cond_true, cond_false])
      refine VAll.snoc (i := 22) ?_ rfl rfl idle_t ?_
      rotate_left
      · intro B y hI hL hg K E hK
        rw [hI]
        clear hI
        have hg : (.bool p2 : Value) = .bool true := hg
        have he0 := want_b hg
        clear hg
        have t3 : B.tmps[3]? = some (.pointer (some ⟨w.heap.size + 1, 0, none⟩)) := (hL.out 3 rfl).trans rfl
        clear hL
        refine Box.mk ?_
        go_simp
        exact hK.out _ _ rfl (by change _ = cond _ _ _; simp only [he0, cond_true, cond_false])
      refine VAll.snoc (i := 21) ?_ rfl rfl idle_t ?_
      rotate_left
      · intro B y hI hL hg K E hK
        rw [hI]
        clear hI
        have hg : (.bool p2 : Value) = .bool true := hg
        have he0 := want_b hg
        clear hg
        have t31 : B.tmps[31]? = some (cond p2 (.pointer (some ⟨w.heap.size, 3, none⟩)) undef) := hL.at_ 20 (by decide) 31 rfl
        clear hL
        simp only [he0, cond_true, cond_false] at t31
        refine Box.mk ?_
        go_simp
        exact hK.out _ _ rfl (by change _ = cond _ _ _; simp only [he0, cond_true, cond_false])
      refine VAll.snoc (i := 20) ?_ rfl rfl idle_t ?_
      rotate_left
      · intro B y hI hL hg K E hK
        rw [hI]
        clear hI
        have hg : (.bool p2 : Value) = .bool true := hg
        have he0 := want_b hg
        clear hg
        have t2 : B.tmps[2]? = some (.pointer (some ⟨w.heap.size, 0, none⟩)) := (hL.out 2 rfl).trans rfl
        clear hL
        refine Box.mk ?_
        go_simp
        exact hK.out _ _ rfl (by change _ = cond _ _ _; simp only [he0, cond_true, cond_false])
      refine VAll.snoc (i := 19) ?_ rfl rfl trivial ?_
      rotate_left
      · intro B y hI hL K E hK
        rw [hI]
        clear hI
        have t29 : B.tmps[29]? = some (.bool p2) := hL.at_ 18 (by decide) 29 rfl
        clear hL
        refine Box.mk ?_
        go_simp
        exact hK.out _ _ rfl rfl
      refine VAll.snoc (i := 18) ?_ rfl rfl trivial ?_
      rotate_left
      · intro B y hI hL K E hK
        rw [hI]
        clear hI
        have t23 : B.tmps[23]? = some (.bool p1) := hL.at_ 12 (by decide) 23 rfl
        have t28 : B.tmps[28]? = some (cond p1 (.bool t2) undef) := hL.at_ 17 (by decide) 28 rfl
        clear hL
        refine Box.mk ?_
        rcases Bool.eq_false_or_eq_true p1 with hs | hs
        · simp only [hs, cond_true, cond_false] at t23 t28
          go_simp
          exact hK.out _ _ rfl (by change _ = (.bool p2 : Value); rw [← P2.out]; simp [hs])
        · simp only [hs, cond_true, cond_false] at t23 t28
          go_simp
          exact hK.out _ _ rfl (by change _ = (.bool p2 : Value); rw [← P2.out]; simp [hs])
      refine VAll.snoc (i := 17) ?_ rfl rfl idle_t ?_
      rotate_left
      · intro B y hI hL hg K E hK
        rw [hI]
        clear hI
        have hg : (.bool p1 : Value) = .bool true := hg
        have he0 := want_b hg
        clear hg
        have t25 : B.tmps[25]? = some (cond p1 (.int .i64 a.dst) undef) := hL.at_ 14 (by decide) 25 rfl
        have t27 : B.tmps[27]? = some (cond p1 (.int .i64 b.dst) undef) := hL.at_ 16 (by decide) 27 rfl
        clear hL
        simp only [he0, cond_true, cond_false] at t25 t27
        refine Box.mk ?_
        have hd := H2.out
        go_simp
        exact hK.out _ _ rfl (by change _ = cond _ _ _; simp only [he0, cond_true, cond_false])
      refine VAll.snoc (i := 16) ?_ rfl rfl idle_t ?_
      rotate_left
      · intro B y hI hL hg K E hK
        rw [hI]
        clear hI
        have hg : (.bool p1 : Value) = .bool true := hg
        have he0 := want_b hg
        clear hg
        have t26 : B.tmps[26]? = some (cond p1 (.pointer (some ⟨w.heap.size + 1, 2, none⟩)) undef) := hL.at_ 15 (by decide) 26 rfl
        clear hL
        simp only [he0, cond_true, cond_false] at t26
        refine Box.mk ?_
        go_simp
        exact hK.out _ _ rfl (by change _ = cond _ _ _; simp only [he0, cond_true, cond_false])
      refine VAll.snoc (i := 15) ?_ rfl rfl idle_t ?_
      rotate_left
      · intro B y hI hL hg K E hK
        rw [hI]
        clear hI
        have hg : (.bool p1 : Value) = .bool true := hg
        have he0 := want_b hg
        clear hg
        have t3 : B.tmps[3]? = some (.pointer (some ⟨w.heap.size + 1, 0, none⟩)) := (hL.out 3 rfl).trans rfl
        clear hL
        refine Box.mk ?_
        go_simp
        exact hK.out _ _ rfl (by change _ = cond _ _ _; simp only [he0, cond_true, cond_false])
      refine VAll.snoc (i := 14) ?_ rfl rfl idle_t ?_
      rotate_left
      · intro B y hI hL hg K E hK
        rw [hI]
        clear hI
        have hg : (.bool p1 : Value) = .bool true := hg
        have he0 := want_b hg
        clear hg
        have t24 : B.tmps[24]? = some (cond p1 (.pointer (some ⟨w.heap.size, 2, none⟩)) undef) := hL.at_ 13 (by decide) 24 rfl
        clear hL
        simp only [he0, cond_true, cond_false] at t24
        refine Box.mk ?_
        go_simp
        exact hK.out _ _ rfl (by change _ = cond _ _ _; simp only [he0, cond_true, cond_false])
      refine VAll.snoc (i := 13) ?_ rfl rfl idle_t ?_
      rotate_left
      · intro B y hI hL hg K E hK
        rw [hI]
        clear hI
        have hg : (.bool p1 : Value) = .bool true := hg
        have he0 := want_b hg
        clear hg
        have t2 : B.tmps[2]? = some (.pointer (some ⟨w.heap.size, 0, none⟩)) := (hL.out 2 rfl).trans rfl
        clear hL
        refine Box.mk ?_
        go_simp
        exact hK.out _ _ rfl (by change _ = cond _ _ _; simp only [he0, cond_true, cond_false])
      refine VAll.snoc (i := 12) ?_ rfl rfl trivial ?_
      rotate_left
      · intro B y hI hL K E hK
        rw [hI]
        clear hI
        have t22 : B.tmps[22]? = some (.bool p1) := hL.at_ 11 (by decide) 22 rfl
        clear hL
        refine Box.mk ?_
        go_simp
        exact hK.out _ _ rfl rfl
      refine VAll.snoc (i := 11) ?_ rfl rfl trivial ?_
      rotate_left
      · intro B y hI hL K E hK
        rw [hI]
        clear hI
        have t16 : B.tmps[16]? = some (.bool t0) := hL.at_ 5 (by decide) 16 rfl
        have t21 : B.tmps[21]? = some (cond t0 (.bool t1) undef) := hL.at_ 10 (by decide) 21 rfl
        clear hL
        refine Box.mk ?_
        rcases Bool.eq_false_or_eq_true t0 with hs | hs
        · simp only [hs, cond_true, cond_false] at t16 t21
          go_simp
          exact hK.out _ _ rfl (by change _ = (.bool p1 : Value); rw [← P1.out]; simp [hs])
        · simp only [hs, cond_true, cond_false] at t16 t21
          go_simp
          exact hK.out _ _ rfl (by change _ = (.bool p1 : Value); rw [← P1.out]; simp [hs])
      refine VAll.snoc (i := 10) ?_ rfl rfl idle_t ?_
      rotate_left
      · intro B y hI hL hg K E hK
        rw [hI]
        clear hI
        have hg : (.bool t0 : Value) = .bool true := hg
        have he0 := want_b hg
        clear hg
        have t18 : B.tmps[18]? = some (cond t0 (.int .i64 a.frm) undef) := hL.at_ 7 (by decide) 18 rfl
        have t20 : B.tmps[20]? = some (cond t0 (.int .i64 b.frm) undef) := hL.at_ 9 (by decide) 20 rfl
        clear hL
        simp only [he0, cond_true, cond_false] at t18 t20
        refine Box.mk ?_
        have hd := H1.out
        go_simp
        exact hK.out _ _ rfl (by change _ = cond _ _ _; simp only [he0, cond_true, cond_false])
      refine VAll.snoc (i := 9) ?_ rfl rfl idle_t ?_
      rotate_left
      · intro B y hI hL hg K E hK
        rw [hI]
        clear hI
        have hg : (.bool t0 : Value) = .bool true := hg
        have he0 := want_b hg
        clear hg
        have t19 : B.tmps[19]? = some (cond t0 (.pointer (some ⟨w.heap.size + 1, 1, none⟩)) undef) := hL.at_ 8 (by decide) 19 rfl
        clear hL
        simp only [he0, cond_true, cond_false] at t19
        refine Box.mk ?_
        go_simp
        exact hK.out _ _ rfl (by change _ = cond _ _ _; simp only [he0, cond_true, cond_false])
      refine VAll.snoc (i := 8) ?_ rfl rfl idle_t ?_
      rotate_left
      · intro B y hI hL hg K E hK
        rw [hI]
        clear hI
        have hg : (.bool t0 : Value) = .bool true := hg
        have he0 := want_b hg
        clear hg
        have t3 : B.tmps[3]? = some (.pointer (some ⟨w.heap.size + 1, 0, none⟩)) := (hL.out 3 rfl).trans rfl
        clear hL
        refine Box.mk ?_
        go_simp
        exact hK.out _ _ rfl (by change _ = cond _ _ _; simp only [he0, cond_true, cond_false])
      refine VAll.snoc (i := 7) ?_ rfl rfl idle_t ?_
      rotate_left
      · intro B y hI hL hg K E hK
        rw [hI]
        clear hI
        have hg : (.bool t0 : Value) = .bool true := hg
        have he0 := want_b hg
        clear hg
        have t17 : B.tmps[17]? = some (cond t0 (.pointer (some ⟨w.heap.size, 1, none⟩)) undef) := hL.at_ 6 (by decide) 17 rfl
        clear hL
        simp only [he0, cond_true, cond_false] at t17
        refine Box.mk ?_
        go_simp
        exact hK.out _ _ rfl (by change _ = cond _ _ _; simp only [he0, cond_true, cond_false])
      refine VAll.snoc (i := 6) ?_ rfl rfl idle_t ?_
      rotate_left
      · intro B y hI hL hg K E hK
        rw [hI]
        clear hI
        have hg : (.bool t0 : Value) = .bool true := hg
        have he0 := want_b hg
        clear hg
        have t2 : B.tmps[2]? = some (.pointer (some ⟨w.heap.size, 0, none⟩)) := (hL.out 2 rfl).trans rfl
        clear hL
        refine Box.mk ?_
        go_simp
        exact hK.out _ _ rfl (by change _ = cond _ _ _; simp only [he0, cond_true, cond_false])
      refine VAll.snoc (i := 5) ?_ rfl rfl trivial ?_
      rotate_left
      · intro B y hI hL K E hK
        rw [hI]
        clear hI
        have t15 : B.tmps[15]? = some (.bool t0) := hL.at_ 4 (by decide) 15 rfl
        clear hL
        refine Box.mk ?_
        go_simp
        exact hK.out _ _ rfl rfl
      refine VAll.snoc (i := 4) ?_ rfl rfl trivial ?_
      rotate_left
      · intro B y hI hL K E hK
        rw [hI]
        clear hI
        have t12 : B.tmps[12]? = some (.int .i64 a.kind) := hL.at_ 1 (by decide) 12 rfl
        have t14 : B.tmps[14]? = some (.int .i64 b.kind) := hL.at_ 3 (by decide) 14 rfl
        clear hL
        refine Box.mk ?_
        have hd := H0.out
        go_simp
        exact hK.out _ _ rfl rfl
      refine VAll.snoc (i := 3) ?_ rfl rfl trivial ?_
      rotate_left
      · intro B y hI hL K E hK
        rw [hI]
        clear hI
        have t13 : B.tmps[13]? = some (.pointer (some ⟨w.heap.size + 1, 0, none⟩)) := hL.at_ 2 (by decide) 13 rfl
        clear hL
        refine Box.mk ?_
        go_simp
        exact hK.out _ _ rfl rfl
      refine VAll.snoc (i := 2) ?_ rfl rfl trivial ?_
      rotate_left
      · intro B y hI hL K E hK
        rw [hI]
        clear hI
        have t3 : B.tmps[3]? = some (.pointer (some ⟨w.heap.size + 1, 0, none⟩)) := (hL.out 3 rfl).trans rfl
        clear hL
        refine Box.mk ?_
        go_simp
        exact hK.out _ _ rfl rfl
      refine VAll.snoc (i := 1) ?_ rfl rfl trivial ?_
      rotate_left
      · intro B y hI hL K E hK
        rw [hI]
        clear hI
        have t11 : B.tmps[11]? = some (.pointer (some ⟨w.heap.size, 0, none⟩)) := hL.at_ 0 (by decide) 11 rfl
        clear hL
        refine Box.mk ?_
        go_simp
        exact hK.out _ _ rfl rfl
      refine VAll.snoc (i := 0) ?_ rfl rfl trivial ?_
      rotate_left
      · intro B y hI hL K E hK
        rw [hI]
        clear hI
        have t2 : B.tmps[2]? = some (.pointer (some ⟨w.heap.size, 0, none⟩)) := (hL.out 2 rfl).trans rfl
        clear hL
        refine Box.mk ?_
        go_simp
        exact hK.out _ _ rfl rfl
      exact VAll.nil
    · intro vs y hI hall
      have e103 : vs 103 = .bool p14 := hall 103 (by decide)
      clear hall
      refine Box.mk ?_
      simp only [e103, ch, cq, allPut, puts, Act.put, List.setIfInBounds_toArray, List.set_cons_zero, List.set_cons_succ]
      clear e103
      subst hI
      rw [HE.out]
      go_wp2_with fail
      go_ret
      exact ⟨rfl, HX5.out⟩
  · rw [decide_eq_false hs]
    have HN := Lib.hid (decide_eq_false (fun (e : a = b) => hs (by rw [e])))
    clear hs
    go_wp2_with fail
    go_ret
    exact ⟨ret_bool HN.out.symm, HX5.out⟩
end Go.Proofs.Ytbjemihcbbiiaaa
