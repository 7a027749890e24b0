/- A nil bag refuses every packet and has none; for every packet and every place. -/
import Derived.Test.YtlgpkfjofgppeabRows
import Derived.Test.YtlgpkfjofgppeabBagArg
import Derived.Test.YtlgpkfjofgppeabLawBare
import Derived.JoinedCond
import Derived.OpenShut
namespace Go.Proofs.Ytlgpkfjofgppeab.lawBagNil
open Go Go.RowKit Go.ChangeShapes Go.WideShapes Go.ChangeAt
set_option linter.unusedVariables false
set_option linter.unusedSimpArgs false
set_option maxRecDepth 100000 in
set_option maxHeartbeats 8000000 in
theorem walk (A : Option Addr) (c : Nat) (p : Pk) (k : Int) (w : World) (hC : CameP w A c p) (hr : -9223372036854775808 ≤ k ∧ k ≤ 9223372036854775807) :
    Calls Try.prog 3 #[.agg (three p A c), .int .i64 k] w (LK.True_ w) := by
  have HX := Lib.hid ((Below.refl _ w).alloc (Nat.le_refl _) (.cells (three p A c) 24))
  have HP := Lib.hid (Whole.new w 24 (three p A c))
  have HC := Lib.hid (hC.below HX.out)
  clear hC
  go_enter Try.func3, Try.ntmps3
  go_upto_region 1 with (fail)
  generalize w.alloc (.cells (three p A c) 24) = w0 at HX HP HC ⊢
  go_wp2_with fail
  refine (awake_any w0).mono ?_
  rintro e w1 ⟨rfl, hb⟩
  have HX1 := Lib.hid (below_on HX.out hb)
  have HC1 := Lib.hid (HC.out.below hb)
  have HP1 := Lib.hid ((Mod.of_below hb []).whole HP.out (by simp))
  clear hb HX HC HP
  go_wp2_with fail
  refine (Take_nil w1 k).mono ?_
  rintro e w2 ⟨rfl, hb⟩
  have HX2 := Lib.hid (below_on HX1.out hb)
  have HC2 := Lib.hid (HC1.out.below hb)
  have HP2 := Lib.hid ((Mod.of_below hb []).whole HP1.out (by simp))
  clear hb HX1 HC1 HP1
  unfold zero3
  have HA3 := Lib.hid ((Below.refl _ w2).alloc (Nat.le_refl _) (.cells #[Value.int .i64 0, Value.int .i64 0, Value.slice none 0 0] 24))
  have HQ3 := Lib.hid (Whole.new w2 24 #[Value.int .i64 0, Value.int .i64 0, Value.slice none 0 0])
  go_wp2_with fail
  generalize w2.alloc (.cells #[Value.int .i64 0, Value.int .i64 0, Value.slice none 0 0] 24) = w3 at HA3 HQ3 ⊢
  have HX3 := Lib.hid (below_on HX2.out HA3.out)
  have HC3 := Lib.hid (HC2.out.below HA3.out)
  have HP3 := Lib.hid ((Mod.of_below HA3.out []).whole HP2.out (by simp))
  clear HX2 HC2 HP2 HA3
  refine (Look_nil w3 k).mono ?_
  rintro e w4 ⟨rfl, hb⟩
  have HX4 := Lib.hid (below_on HX3.out hb)
  have HC4 := Lib.hid (HC3.out.below hb)
  have HP4 := Lib.hid ((Mod.of_below hb []).whole HP3.out (by simp))
  have HQ4 := Lib.hid ((Mod.of_below hb []).whole HQ3.out (by simp))
  clear hb HX3 HC3 HP3 HQ3
  unfold zero3
  have HA5 := Lib.hid ((Below.refl _ w4).alloc (Nat.le_refl _) (.cells #[Value.int .i64 0, Value.int .i64 0, Value.slice none 0 0] 24))
  have HR5 := Lib.hid (Whole.new w4 24 #[Value.int .i64 0, Value.int .i64 0, Value.slice none 0 0])
  go_upto_region 6 with (fail)
  generalize w4.alloc (.cells #[Value.int .i64 0, Value.int .i64 0, Value.slice none 0 0] 24) = w5 at HA5 HR5 ⊢
  have HX5 := Lib.hid (below_on HX4.out HA5.out)
  have HC5 := Lib.hid (HC4.out.below HA5.out)
  have HP5 := Lib.hid ((Mod.of_below HA5.out []).whole HP4.out (by simp))
  have HQ5 := Lib.hid ((Mod.of_below HA5.out []).whole HQ4.out (by simp))
  clear HX4 HC4 HP4 HQ4 HA5
  have p0 : w5.cell? ⟨w.heap.size, 0, none⟩ = some (.int .i64 p.frm) := HP5.out.cell 0
  have p1 : w5.cell? ⟨w.heap.size, 1, none⟩ = some (.int .i64 p.dst) := HP5.out.cell 1
  have p2 : w5.cell? ⟨w.heap.size, 2, none⟩ = some (.slice A p.d.length c) := HP5.out.cell 2
  go_wp2_with fail
  clear p0 p1 p2
  refine (lawOwn_any p A c w5 HC5.out.bytes (by have := HC5.out.le; have := HC5.out.cap; omega)).mono ?_
  rintro e w6 ⟨A6, c6, rfl, -, hb⟩
  have HX6 := Lib.hid (below_on HX5.out hb)
  have HQ6 := Lib.hid ((Mod.of_below hb []).whole HQ5.out (by simp))
  have HR6 := Lib.hid ((Mod.of_below hb []).whole HR5.out (by simp))
  clear hb HX5 HQ5 HR5 HC5 HP5
  go_wp2_with fail
  refine (Send_nil w6 p A6 c6).mono ?_
  rintro e w7 ⟨rfl, hb⟩
  have HX7 := Lib.hid (below_on HX6.out hb)
  have HQ7 := Lib.hid ((Mod.of_below hb []).whole HQ6.out (by simp))
  have HR7 := Lib.hid ((Mod.of_below hb []).whole HR6.out (by simp))
  clear hb HX6 HQ6 HR6
  have q0 : w7.cell? ⟨w2.heap.size, 0, none⟩ = some (.int .i64 0) := HQ7.out.cell 0
  have q1 : w7.cell? ⟨w2.heap.size, 1, none⟩ = some (.int .i64 0) := HQ7.out.cell 1
  have q2 : w7.cell? ⟨w2.heap.size, 2, none⟩ = some (.slice none 0 0) := HQ7.out.cell 2
  go_wp2_with fail
  refine (Double_nil w7 k).mono ?_
  rintro e w8 ⟨rfl, rfl⟩
  go_wp2_with fail
  clear q0 q1 q2
  refine (RefSame_self ⟨0, 0, []⟩ none none 0 0 w7 (By.BytesAt.nil _ _) (By.BytesAt.nil _ _)).mono ?_
  rintro e w8 ⟨rfl, hb⟩
  have HX8 := Lib.hid (below_on HX7.out hb)
  have HR8 := Lib.hid ((Mod.of_below hb []).whole HR7.out (by simp))
  clear hb HX7 HQ7 HR7
  have q0 : w8.cell? ⟨w4.heap.size, 0, none⟩ = some (.int .i64 0) := HR8.out.cell 0
  have q1 : w8.cell? ⟨w4.heap.size, 1, none⟩ = some (.int .i64 0) := HR8.out.cell 1
  have q2 : w8.cell? ⟨w4.heap.size, 2, none⟩ = some (.slice none 0 0) := HR8.out.cell 2
  go_wp2_with fail
  clear q0 q1 q2
  refine (RefSame_self ⟨0, 0, []⟩ none none 0 0 w8 (By.BytesAt.nil _ _) (By.BytesAt.nil _ _)).mono ?_
  rintro e w9 ⟨rfl, hb⟩
  have HX9 := Lib.hid (below_on HX8.out hb)
  clear hb HX8 HR8
  go_wp2_with fail
  refine (Drop_nil w9 k).mono ?_
  rintro e w10 ⟨rfl, rfl⟩
  go_wp2_with fail
  refine (Len_nil w9).mono ?_
  rintro e w10 ⟨rfl, rfl⟩
  go_wp2_with fail
  refine (Sent_nil w9).mono ?_
  rintro e w10 ⟨rfl, rfl⟩
  go_wp2_with fail
  refine (Lost_nil w9).mono ?_
  rintro e w10 ⟨rfl, rfl⟩
  go_wp2_with fail
  refine (List_nil w9).mono ?_
  rintro e w10 ⟨B10, rfl, hb⟩
  have HX10 := Lib.hid (below_on HX9.out hb)
  clear hb HX9
  go_wp2_with fail
  go_ret
  exact ⟨rfl, HX10.out⟩

theorem own : ownKnob Try.prog.godebug = none := by kernel_rfl
theorem laidOut : laidOutB Try.prog = true := by kernel_rfl
set_option maxRecDepth 100000 in
theorem lifted (os : Os) (started : os.Started) (H : Type) (enc : TypeId × Value → H) :
    ReturnsInHanded {} Try.checked os 3 .any (Rows.bagNilSpec.pre6 enc Try.prog Try.f3 [] false) (Rows.bagNilSpec.post enc Try.prog Try.f3 false true false false) := by
  refine LK.lifted_bare (C := Try.checked) (tb := 4) own started (by kernel_rfl) Try.func3 laidOut rfl (by kernel_rfl) (by kernel_rfl) Try.underlying4
    (fun ds h => by
      match ds, h with
      | [_, _], _ => rfl)
    (ChangeSpec.witness6 (enc := enc) (C := Try.checked) false ⟨#[], #[.agg #[.int .i64 0, .int .i64 0, .slice none 0 0], .int .i64 0], []⟩ 8 (by kernel_rfl) (by kernel_rfl) (by kernel_rfl) (by kernel_rfl)) ?_
  intro W base args ds ps hval hA hwt _
  rw [show Try.f3.params.toList = [24, 3] by kernel_rfl] at hA hwt
  have hval' : ∀ (j : Nat) t v, (#[24, 3] : Array TypeId)[j]? = some t → args[j]? = some v → Value.okWide Try.prog W .any base t v := by
    rw [← Try.params3]; exact hval
  clear hval
  obtain ⟨v0, v1, d0, d1, pl0, pl1, rfl, rfl, rfl, h0, h1⟩ := trodAll_two hA
  obtain ⟨A0, c0, p0, rfl, hC0⟩ := open_packet (hval' 0 24 v0 rfl rfl) h0 hwt (j := 0) rfl rfl
  obtain ⟨n1, rfl, rfl, rfl, hn1⟩ := open_int Try.underlying3 (hval' 1 3 v1 rfl rfl) h1
  have hr1 : -9223372036854775808 ≤ n1 ∧ n1 ≤ 9223372036854775807 := by simpa [Lit.wf, IntKind.min, IntKind.max, IntKind.signed, IntKind.bits] using hn1
  exact walk A0 c0 p0 n1 W hC0 hr1

/-- The statement. -/
theorem proved : Rows.BagNilSaid :=
  OpenClaim.holds_of_wide 3 Try.f3 rfl rfl rfl rfl rfl rfl rfl ⟨rfl, rfl, rfl, rfl, rfl⟩ rfl rfl rfl rfl rfl (by kernel_rfl) Try.func3 (by kernel_rfl)
    (of_decide_eq_true (by kernel_rfl)) (by unfold Func.isWrapper; first | (rw [if_pos (by decide +kernel)]; kernel_rfl) | (rw [if_neg (by decide +kernel)]; exact ⟨rfl, rfl⟩))
    (fun os started H enc _ => lifted os started H enc)

end Go.Proofs.Ytlgpkfjofgppeab.lawBagNil
