/- Look answers what the document says; for all bytes. -/
import Derived.Test.YtlnahmgcjaodkaaScArg
import Derived.Test.YtlnahmgcjaodkaaLawBare
import Derived.JoinedCond
import Derived.OpenShut
namespace Go.Proofs.Ytlnahmgcjaodkaa.lawSectorsLooks
open Go Go.RowKit Go.ChangeShapes Go.WideShapes Go.ChangeAt
set_option linter.unusedVariables false
set_option linter.unusedSimpArgs false
open By
set_option maxRecDepth 100000
set_option maxHeartbeats 4000000 in
theorem walk (A : Option Addr) (c : Nat) (l : List UInt8) (w : World) (hB : BytesAt w A l) (hc : l.length ≤ c) (hm : c ≤ 140737488351232) :
    Calls Try.prog 5 #[.slice A l.length c] w (LK.True_ w) := by
  have HA := Lib.hid (awake_any w)
  have HB := Lib.hid hB
  clear hB
  go_enter Try.func5, Try.ntmps5
  go_wp2_with fail
  go_at_call 12
  with_reducible refine HA.out.mono ?_
  rintro e w1 ⟨rfl, HB1⟩
  have HX1 := Lib.hid (HB.out.below HB1.out)
  have hl47 : l.length ≤ 140737488355328 := by omega
  have hcc : c ≤ 9223372036854775807 := by omega
  go_wp2_with (at_builtin; refine app_all rfl (.tmp 10) (.tmp 11) rfl A c l.length l rfl HX1.out w1.heap.size rfl rfl rfl hl47 ?_; intro A5 n5 c5 w5 hM; obtain ⟨HN5, HB5, HO5, HE5, hn5, hc5⟩ := hM)
  go_at_call 15
  refine (Look_any A5 n5 c5 l w5 HB5.out HN5.out.symm hn5 hc5).mono ?_
  rintro e w6 ⟨HB6, h6⟩
  have HX6 := Lib.hid ((HX1.out.below HE5.out).below HB6.out)
  have HBW := Lib.hid (below_on2 (below_on2 HB1.out (.inl HB1.out.size) HE5.out) (.inl (Nat.le_trans HB1.out.size HE5.out.size)) HB6.out)
  rcases h6 with ⟨p, v, HI, rfl, HO⟩ | ⟨HNo, rfl⟩
  · obtain ⟨A7, c7, rfl, _, _⟩ := own_shape HO.out
    have HX7 := Lib.hid (Whole.new w6 33 (pcells p (.slice A7 p.data.length c7)))
    have HBA := Lib.hid ((Below.refl w6.heap.size w6).alloc (Nat.le_refl _) (.cells (pcells p (.slice A7 p.data.length c7)) 33))
    have HD7 := Lib.hid ((BytesAt.own HO.out).below HBA.out)
    have HXA := Lib.hid (HX6.out.below HBA.out)
    have HBW7 := Lib.hid (below_on2 HBW.out (.inl HBW.out.size) HBA.out)
    obtain ⟨pg, ps, pi, pm, pd⟩ := p
    unfold pv
    unfold pcells at HX7 HBA HD7 HXA HBW7 ⊢
    simp only at HX7 HBA HD7 HXA HBW7
    go_upto_region 4 with (fail)
    generalize w6.alloc _ = w7 at HX7 HBA HD7 HXA HBW7 ⊢
    go_wp2_with fail
    go_at_call 16
    refine (RefLook_any A l.length c l w7 HXA.out rfl hc hcc).mono ?_
    rintro e w8 ⟨HB8, ⟨q, v8, HI8, rfl, HO8⟩ | ⟨HN8, rfl⟩⟩
    · have hq := HI8.out.uniq HI.out
      subst hq
      obtain ⟨A9, c9, rfl, _, _⟩ := own_shape HO8.out
      have HX8 := Lib.hid (Whole.new w8 33 (pcells ⟨pg, ps, pi, pm, pd⟩ (.slice A9 pd.length c9)))
      have HBA8 := Lib.hid ((Below.refl w8.heap.size w8).alloc (Nat.le_refl _) (.cells (pcells ⟨pg, ps, pi, pm, pd⟩ (.slice A9 pd.length c9)) 33))
      have HX78 := Lib.hid ((Mod.of_below HBA8.out []).whole ((Mod.of_below HB8.out []).whole HX7.out (by simp)) (by simp))
      have HD78 := Lib.hid ((HD7.out.below HB8.out).below HBA8.out)
      have HD8 := Lib.hid ((BytesAt.own HO8.out).below HBA8.out)
      have HBF := Lib.hid (below_on2 (below_on2 HBW7.out (.inl HBW7.out.size) HB8.out) (.inl (Nat.le_trans HBW7.out.size HB8.out.size)) HBA8.out)
      have HSM := Lib.hid (same_yes ⟨pg, ps, pi, pm, pd⟩ A7 A9 pd.length c7 c9 _ HD78.out HD8.out rfl)
      unfold pv pcells at HSM
      unfold pv
      unfold pcells at HX8 HBA8 HX78 HD78 HD8 HBF ⊢
      simp only at HX8 HBA8 HX78 HD78 HD8 HBF HSM
      go_upto_region 5 with (fail)
      generalize w8.alloc _ = w9 at HX8 HBA8 HX78 HD78 HD8 HBF HSM ⊢
      obtain ⟨a0, a1, a2, a3, a4⟩ := (show w9.cell? ⟨w6.heap.size, 0, none⟩ = some (.int .i64 (pg : Int)) ∧ w9.cell? ⟨w6.heap.size, 1, none⟩ = some (.int .i64 (ps : Int)) ∧ w9.cell? ⟨w6.heap.size, 2, none⟩ = some (.int .i64 (pi : Int)) ∧ w9.cell? ⟨w6.heap.size, 3, none⟩ = some (.int .i64 (pm : Int)) ∧ w9.cell? ⟨w6.heap.size, 4, none⟩ = some (.slice A7 pd.length c7) from ⟨HX78.out.cell 0, HX78.out.cell 1, HX78.out.cell 2, HX78.out.cell 3, HX78.out.cell 4⟩)
      obtain ⟨b0, b1, b2, b3, b4⟩ := (show w9.cell? ⟨w8.heap.size, 0, none⟩ = some (.int .i64 (pg : Int)) ∧ w9.cell? ⟨w8.heap.size, 1, none⟩ = some (.int .i64 (ps : Int)) ∧ w9.cell? ⟨w8.heap.size, 2, none⟩ = some (.int .i64 (pi : Int)) ∧ w9.cell? ⟨w8.heap.size, 3, none⟩ = some (.int .i64 (pm : Int)) ∧ w9.cell? ⟨w8.heap.size, 4, none⟩ = some (.slice A9 pd.length c9) from ⟨HX8.out.cell 0, HX8.out.cell 1, HX8.out.cell 2, HX8.out.cell 3, HX8.out.cell 4⟩)
      go_wp2_with fail
      go_at_call 17
      refine HSM.out.mono ?_
      rintro e wA ⟨rfl, HBB⟩
      go_wp2_with fail
      go_ret
      exact ⟨rfl, below_on2 HBF.out (.inl HBF.out.size) HBB.out⟩
    · exact absurd HI.out (HN8.out _)
  · have HX7 := Lib.hid (Whole.new w6 33 #[.int .i64 0, .int .i64 0, .int .i64 0, .int .i64 0, .slice none 0 0])
    have HBA := Lib.hid ((Below.refl w6.heap.size w6).alloc (Nat.le_refl _) (.cells #[.int .i64 0, .int .i64 0, .int .i64 0, .int .i64 0, .slice none 0 0] 33))
    have HXA := Lib.hid (HX6.out.below HBA.out)
    have HBW7 := Lib.hid (below_on2 HBW.out (.inl HBW.out.size) HBA.out)
    unfold none5
    go_upto_region 4 with (fail)
    generalize w6.alloc _ = w7 at HX7 HBA HXA HBW7 ⊢
    go_wp2_with fail
    go_at_call 16
    refine (RefLook_any A l.length c l w7 HXA.out rfl hc hcc).mono ?_
    rintro e w8 ⟨HB8, ⟨q, v8, HI8, rfl, HO8⟩ | ⟨HN8, rfl⟩⟩
    · exact absurd HI8.out (HNo.out _)
    · have HX8 := Lib.hid (Whole.new w8 33 #[.int .i64 0, .int .i64 0, .int .i64 0, .int .i64 0, .slice none 0 0])
      have HBA8 := Lib.hid ((Below.refl w8.heap.size w8).alloc (Nat.le_refl _) (.cells #[.int .i64 0, .int .i64 0, .int .i64 0, .int .i64 0, .slice none 0 0] 33))
      have HX78 := Lib.hid ((Mod.of_below HBA8.out []).whole ((Mod.of_below HB8.out []).whole HX7.out (by simp)) (by simp))
      have HBF := Lib.hid (below_on2 (below_on2 HBW7.out (.inl HBW7.out.size) HB8.out) (.inl (Nat.le_trans HBW7.out.size HB8.out.size)) HBA8.out)
      have HSM := Lib.hid (same_yes ⟨0, 0, 0, 0, []⟩ none none 0 0 0 (w8.alloc (.cells #[.int .i64 0, .int .i64 0, .int .i64 0, .int .i64 0, .slice none 0 0] 33)) (BytesAt.nil _ _) (BytesAt.nil _ _) rfl)
      unfold pv pcells at HSM
      simp only [Int.natCast_zero] at HSM
      unfold none5
      go_upto_region 5 with (fail)
      generalize w8.alloc _ = w9 at HX8 HBA8 HX78 HBF HSM ⊢
      obtain ⟨a0, a1, a2, a3, a4⟩ := (show w9.cell? ⟨w6.heap.size, 0, none⟩ = some (.int .i64 0) ∧ w9.cell? ⟨w6.heap.size, 1, none⟩ = some (.int .i64 0) ∧ w9.cell? ⟨w6.heap.size, 2, none⟩ = some (.int .i64 0) ∧ w9.cell? ⟨w6.heap.size, 3, none⟩ = some (.int .i64 0) ∧ w9.cell? ⟨w6.heap.size, 4, none⟩ = some (.slice none 0 0) from ⟨HX78.out.cell 0, HX78.out.cell 1, HX78.out.cell 2, HX78.out.cell 3, HX78.out.cell 4⟩)
      obtain ⟨b0, b1, b2, b3, b4⟩ := (show w9.cell? ⟨w8.heap.size, 0, none⟩ = some (.int .i64 0) ∧ w9.cell? ⟨w8.heap.size, 1, none⟩ = some (.int .i64 0) ∧ w9.cell? ⟨w8.heap.size, 2, none⟩ = some (.int .i64 0) ∧ w9.cell? ⟨w8.heap.size, 3, none⟩ = some (.int .i64 0) ∧ w9.cell? ⟨w8.heap.size, 4, none⟩ = some (.slice none 0 0) from ⟨HX8.out.cell 0, HX8.out.cell 1, HX8.out.cell 2, HX8.out.cell 3, HX8.out.cell 4⟩)
      go_wp2_with fail
      go_at_call 17
      refine HSM.out.mono ?_
      rintro e wA ⟨rfl, HBB⟩
      go_wp2_with fail
      go_ret
      exact ⟨rfl, below_on2 HBF.out (.inl HBF.out.size) HBB.out⟩

theorem own : ownKnob Try.prog.godebug = none := by kernel_rfl
theorem laidOut : laidOutB Try.prog = true := by kernel_rfl
set_option maxRecDepth 100000 in
theorem lifted (os : Os) (started : os.Started) (H : Type) (enc : TypeId × Value → H) :
    ReturnsInHanded {} Try.checked os 5 .any (Rows.sectorsLooksSpec.pre6 enc Try.prog Try.f5 [] false) (Rows.sectorsLooksSpec.post enc Try.prog Try.f5 false true false false) := by
  refine LK.lifted_bare (C := Try.checked) (tb := 4) own started (by kernel_rfl) Try.func5 laidOut rfl (by kernel_rfl) (by kernel_rfl) Try.underlying4
    (fun ds h => by
      match ds, h with
      | [_], _ => rfl)
    (ChangeSpec.witness6 (enc := enc) (C := Try.checked) false ⟨#[], #[.slice none 0 0], []⟩ 8 (by kernel_rfl) (by kernel_rfl) (by kernel_rfl) (by kernel_rfl)) ?_
  intro W base args ds ps hval hA hwt _
  rw [show Try.f5.params.toList = [26] by kernel_rfl] at hA hwt
  have hval' : ∀ (j : Nat) t v, (#[26] : Array TypeId)[j]? = some t → args[j]? = some v → Value.okWide Try.prog W .any base t v := by
    rw [← Try.params5]; exact hval
  clear hval
  obtain ⟨v0, d0, rfl, rfl, h0⟩ := trodAll_one hA
  obtain ⟨A0, c0, l0, rfl, hB0, hc0, hm0⟩ := By.open_bytes (hval' 0 26 v0 rfl rfl) h0 hwt (j := 0) rfl rfl
  exact walk A0 c0 l0 W hB0 hc0 hm0

/-- The statement. -/
theorem proved : Rows.SectorsLooksSaid :=
  OpenClaim.holds_of_wide 5 Try.f5 rfl rfl rfl rfl rfl rfl rfl ⟨rfl, rfl, rfl, rfl, rfl⟩ rfl rfl rfl rfl rfl (by kernel_rfl) Try.func5 (by kernel_rfl)
    (of_decide_eq_true (by kernel_rfl)) (by unfold Func.isWrapper; first | (rw [if_pos (by decide +kernel)]; kernel_rfl) | (rw [if_neg (by decide +kernel)]; exact ⟨rfl, rfl⟩))
    (fun os started H enc _ => lifted os started H enc)

end Go.Proofs.Ytlnahmgcjaodkaa.lawSectorsLooks
