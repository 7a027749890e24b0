/- Pack answers what the document says; for every generation, every number and all bytes. -/
import Derived.Test.YtlnahmgcjaodkaaScArg
import Derived.Test.YtlnahmgcjaodkaaLawBare
import Derived.JoinedCond
import Derived.OpenShut
namespace Go.Proofs.Ytlnahmgcjaodkaa.lawSectorsPacks
open Go Go.RowKit Go.ChangeShapes Go.WideShapes Go.ChangeAt
set_option linter.unusedVariables false
set_option linter.unusedSimpArgs false
open By
set_option maxRecDepth 100000
set_option maxHeartbeats 4000000 in
theorem walk (g s : Int) (A : Option Addr) (c : Nat) (l : List UInt8) (w : World) (hg : -9223372036854775808 ≤ g ∧ g ≤ 9223372036854775807) (hs : -9223372036854775808 ≤ s ∧ s ≤ 9223372036854775807) (hB : BytesAt w A l) (hc : l.length ≤ c) (hm : c ≤ 140737488351232) :
    Calls Try.prog 4 #[.int .i64 g, .int .i64 s, .slice A l.length c] w (LK.True_ w) := by
  have HA := Lib.hid (awake_any w)
  have HB := Lib.hid hB
  clear hB
  go_enter Try.func4, Try.ntmps4
  go_wp2_with fail
  go_at_call 12
  with_reducible refine HA.out.mono ?_
  rintro e w1 ⟨rfl, HB1⟩
  have HX1 := Lib.hid (HB.out.below HB1.out)
  have hl47 : l.length ≤ 140737488355328 := by omega
  have hcc : c ≤ 9223372036854775807 := by omega
  go_wp2_with (at_builtin; refine app_all rfl (.tmp 16) (.tmp 17) rfl A c l.length l rfl HX1.out w1.heap.size rfl rfl rfl hl47 ?_; intro A5 n5 c5 w5 hM; obtain ⟨HN5, HB5, HO5, HE5, hn5, hc5⟩ := hM)
  go_at_call 11
  refine (Pack_any g s l n5 A5 c5 w5 HB5.out HN5.out.symm ⟨hn5, hc5⟩).mono ?_
  rintro e w6 ⟨HB6, h6⟩
  have HX6 := Lib.hid ((HX1.out.below HE5.out).below HB6.out)
  have HBW := Lib.hid (below_on2 (below_on2 HB1.out (.inl HB1.out.size) HE5.out) (.inl (Nat.le_trans HB1.out.size HE5.out.size)) HB6.out)
  rcases h6 with ⟨gn, sn, bs, HG, rfl, HP⟩ | ⟨HE, rfl⟩
  · go_wp2_with fail
    go_at_call 13
    refine (RefPack_any g s l l.length A c w6 HX6.out rfl ⟨hc, hcc⟩).mono ?_
    rintro e w7 ⟨HB7, ⟨gn', sn', v7, HG7, rfl, HL7⟩ | ⟨HE7, rfl⟩⟩
    · obtain ⟨e1, e2, e3, e4, e5⟩ := HG.out
      obtain ⟨e1', e2', _⟩ := HG7.out
      obtain rfl : gn = gn' := by omega
      obtain rfl : sn = sn' := by omega
      obtain ⟨A8, c8, rfl, HR8, _, _, _⟩ := HL7.out.shape
      have HR9 := Lib.hid ((HP.out.below HB7.out).rows (pack64 e3 e4 e5))
      have HSM := Lib.hid (SameAll_any (SC.pack gn sn l) (SC.pack gn sn l) (some ⟨w5.heap.size, 0, none⟩) A8 (SC.np l) c8 w7 HR9.out HR8 (by rw [SC.pack_len]; unfold SC.np; omega))
      rw [SC.pack_len, decide_eq_true (rfl : SC.pack gn sn l = SC.pack gn sn l)] at HSM
      have HPLN := Lib.hid (SC.pack_len gn sn l)
      rw [HPLN.out]
      have HBF := Lib.hid (below_on2 HBW.out (.inl HBW.out.size) HB7.out)
      clear e1 e2 e3 e4 e5 e1' e2' HR8
      go_wp2_with fail
      go_at_call 14
      refine HSM.out.mono ?_
      rintro e w8 ⟨rfl, HB8⟩
      go_wp2_with fail
      go_ret
      exact ⟨rfl, below_on2 HBF.out (.inl HBF.out.size) HB8.out⟩
    · exfalso
      obtain ⟨e1, e2, e3, e4, e5⟩ := HG.out
      apply HE7.out
      unfold packErr
      rw [if_pos (by omega), if_neg (by omega)]
  · go_wp2_with fail
    go_at_call 13
    refine (RefPack_any g s l l.length A c w6 HX6.out rfl ⟨hc, hcc⟩).mono ?_
    rintro e w7 ⟨HB7, ⟨gn', sn', v7, HG7, rfl, HL7⟩ | ⟨HE7, rfl⟩⟩
    · exfalso
      obtain ⟨e1, e2, e3, e4, e5⟩ := HG7.out
      apply HE.out
      unfold packErr
      rw [if_pos (by omega), if_neg (by omega)]
    · have HSM := Lib.hid (SameAll_any [] [] none none 0 0 w7 (fun h0 => absurd h0 (by simp)) (fun h0 => absurd h0 (by simp)) (by simp))
      rw [decide_eq_true (rfl : ([] : List (List UInt8)) = [])] at HSM
      have HBF := Lib.hid (below_on2 HBW.out (.inl HBW.out.size) HB7.out)
      generalize packErr g s l.length = pe at *
      go_wp2_with fail
      go_at_call 14
      refine HSM.out.mono ?_
      rintro e w8 ⟨rfl, HB8⟩
      go_wp2_with fail
      go_ret
      exact ⟨rfl, below_on2 HBF.out (.inl HBF.out.size) HB8.out⟩

theorem own : ownKnob Try.prog.godebug = none := by kernel_rfl
theorem laidOut : laidOutB Try.prog = true := by kernel_rfl
set_option maxRecDepth 100000 in
theorem lifted (os : Os) (started : os.Started) (H : Type) (enc : TypeId × Value → H) :
    ReturnsInHanded {} Try.checked os 4 .any (Rows.sectorsPacksSpec.pre6 enc Try.prog Try.f4 [] false) (Rows.sectorsPacksSpec.post enc Try.prog Try.f4 false true false false) := by
  refine LK.lifted_bare (C := Try.checked) (tb := 4) own started (by kernel_rfl) Try.func4 laidOut rfl (by kernel_rfl) (by kernel_rfl) Try.underlying4
    (fun ds h => by
      match ds, h with
      | [_, _, _], _ => rfl)
    (ChangeSpec.witness6 (enc := enc) (C := Try.checked) false ⟨#[], #[.int .i64 0, .int .i64 0, .slice none 0 0], []⟩ 8 (by kernel_rfl) (by kernel_rfl) (by kernel_rfl) (by kernel_rfl)) ?_
  intro W base args ds ps hval hA hwt _
  rw [show Try.f4.params.toList = [3, 3, 26] by kernel_rfl] at hA hwt
  have hval' : ∀ (j : Nat) t v, (#[3, 3, 26] : Array TypeId)[j]? = some t → args[j]? = some v → Value.okWide Try.prog W .any base t v := by
    rw [← Try.params4]; exact hval
  clear hval
  obtain ⟨v0, v1, v2, d0, d1, d2, pl0, pl1, pl2, rfl, rfl, rfl, h0, h1, h2⟩ := trodAll_three hA
  obtain ⟨n0, rfl, rfl, rfl, hn0⟩ := open_int Try.underlying3 (hval' 0 3 v0 rfl rfl) h0
  have hr0 : -9223372036854775808 ≤ n0 ∧ n0 ≤ 9223372036854775807 := by simpa [Lit.wf, IntKind.min, IntKind.max, IntKind.signed, IntKind.bits] using hn0
  obtain ⟨n1, rfl, rfl, rfl, hn1⟩ := open_int Try.underlying3 (hval' 1 3 v1 rfl rfl) h1
  have hr1 : -9223372036854775808 ≤ n1 ∧ n1 ≤ 9223372036854775807 := by simpa [Lit.wf, IntKind.min, IntKind.max, IntKind.signed, IntKind.bits] using hn1
  obtain ⟨A2, c2, l2, rfl, hB2, hc2, hm2⟩ := By.open_bytes (hval' 2 26 v2 rfl rfl) h2 hwt (j := 2) rfl rfl
  exact walk n0 n1 A2 c2 l2 W hr0 hr1 hB2 hc2 hm2

/-- The statement. -/
theorem proved : Rows.SectorsPacksSaid :=
  OpenClaim.holds_of_wide 4 Try.f4 rfl rfl rfl rfl rfl rfl rfl ⟨rfl, rfl, rfl, rfl, rfl⟩ rfl rfl rfl rfl rfl (by kernel_rfl) Try.func4 (by kernel_rfl)
    (of_decide_eq_true (by kernel_rfl)) (by unfold Func.isWrapper; first | (rw [if_pos (by decide +kernel)]; kernel_rfl) | (rw [if_neg (by decide +kernel)]; exact ⟨rfl, rfl⟩))
    (fun os started H enc _ => lifted os started H enc)

end Go.Proofs.Ytlnahmgcjaodkaa.lawSectorsPacks
