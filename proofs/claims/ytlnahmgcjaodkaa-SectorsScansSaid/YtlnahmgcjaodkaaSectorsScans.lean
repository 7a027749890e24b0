/- Scan answers what the document says; for every list of lists of bytes and every generation. -/
import Derived.Test.YtlnahmgcjaodkaaScArg
import Derived.Test.YtlnahmgcjaodkaaLawBare
import Derived.JoinedCond
import Derived.OpenShut
namespace Go.Proofs.Ytlnahmgcjaodkaa.lawSectorsScans
open Go Go.RowKit Go.ChangeShapes Go.WideShapes Go.ChangeAt
set_option linter.unusedVariables false
set_option linter.unusedSimpArgs false
open By
set_option maxRecDepth 100000
set_option maxHeartbeats 4000000 in
theorem walk (A : Option Addr) (c : Nat) (ss : List (List UInt8)) (g : Int) (w : World) (hA : RowsAt w A ss) (hc : ss.length ≤ c) (hm : c ≤ 5864062014805) (hl : ∀ (j : Nat) (x : List UInt8), ss[j]? = some x → x.length ≤ 140737488351232) (hg : -9223372036854775808 ≤ g ∧ g ≤ 9223372036854775807) :
    Calls Try.prog 6 #[.slice A ss.length c, .int .i64 g] w (LK.True_ w) := by
  have HA := Lib.hid (awake_any w)
  have HR := Lib.hid hA
  have HLE := Lib.hid hl
  clear hA hl
  go_enter Try.func6, Try.ntmps6
  go_wp2_with fail
  go_at_call 12
  with_reducible refine HA.out.mono ?_
  rintro e w1 ⟨rfl, HB1⟩
  have HR1 := Lib.hid (HR.out.below HB1.out)
  go_wp2_with fail
  go_at_call 19
  refine (own_any A ss.length c ss w1 HR1.out rfl (by omega) (fun j x hx => by have := HLE.out j x hx; omega)).mono ?_
  rintro e w2 ⟨v, rfl, HL2, HB2⟩
  obtain ⟨A2, c2, rfl, HRA2, hc2, hc3, hsp2⟩ := HL2.out.shape
  have HB12 := Lib.hid (below_on2 HB1.out (.inl HB1.out.size) HB2.out)
  have HSC := Lib.hid (Scan_any A2 ss.length c2 ss g w2 HRA2 rfl ⟨hc2, hc3⟩ (by omega))
  clear HRA2 hsp2
  go_wp2_with fail
  go_at_call 18
  refine HSC.out.mono ?_
  rintro e w3 ⟨rs, u, v3, rfl, HS3, HL3, HB3⟩
  have HB13 := Lib.hid (below_on2 HB12.out (.inl HB12.out.size) HB3.out)
  have HR3 := Lib.hid (HR.out.below HB13.out)
  have HSC2 := Lib.hid (RefScan_any A ss.length c ss g w3 HR3.out rfl ⟨hc, by omega⟩ (by omega))
  obtain ⟨A3, c3', rfl, _⟩ := HL3.out.shape
  go_wp2_with fail
  go_at_call 20
  refine HSC2.out.mono ?_
  rintro e w4 ⟨rs', u', v4, rfl, HS4, HL4, HB4⟩
  obtain ⟨e1, e2⟩ := HS4.out.uniq HS3.out
  subst e1 e2
  have HL34 := Lib.hid (HL3.out.below HB4.out)
  obtain ⟨A5, c5, e5, HR5, _, _, _⟩ := HL34.out.shape
  obtain ⟨A6, c6, rfl, HR6, _, hc6, _⟩ := HL4.out.shape
  cases e5
  have HB14 := Lib.hid (below_on2 HB13.out (.inl HB13.out.size) HB4.out)
  have HSM := Lib.hid (SameAll_any rs' rs' A3 A6 c3' c6 w4 HR5 HR6 (by omega))
  rw [decide_eq_true (rfl : rs' = rs')] at HSM
  clear HR5 HR6
  go_wp2_with fail
  go_at_call 14
  refine HSM.out.mono ?_
  rintro e w5 ⟨rfl, HB5⟩
  go_wp2_with fail
  go_ret
  exact ⟨rfl, below_on2 HB14.out (.inl HB14.out.size) HB5.out⟩

theorem own : ownKnob Try.prog.godebug = none := by kernel_rfl
theorem laidOut : laidOutB Try.prog = true := by kernel_rfl
set_option maxRecDepth 100000 in
theorem lifted (os : Os) (started : os.Started) (H : Type) (enc : TypeId × Value → H) :
    ReturnsInHanded {} Try.checked os 6 .any (Rows.sectorsScansSpec.pre6 enc Try.prog Try.f6 [] false) (Rows.sectorsScansSpec.post enc Try.prog Try.f6 false true false false) := by
  refine LK.lifted_bare (C := Try.checked) (tb := 4) own started (by kernel_rfl) Try.func6 laidOut rfl (by kernel_rfl) (by kernel_rfl) Try.underlying4
    (fun ds h => by
      match ds, h with
      | [_, _], _ => rfl)
    (ChangeSpec.witness6 (enc := enc) (C := Try.checked) false ⟨#[], #[.slice none 0 0, .int .i64 0], []⟩ 8 (by kernel_rfl) (by kernel_rfl) (by kernel_rfl) (by kernel_rfl)) ?_
  intro W base args ds ps hval hA hwt _
  rw [show Try.f6.params.toList = [22, 3] by kernel_rfl] at hA hwt
  have hval' : ∀ (j : Nat) t v, (#[22, 3] : Array TypeId)[j]? = some t → args[j]? = some v → Value.okWide Try.prog W .any base t v := by
    rw [← Try.params6]; exact hval
  clear hval
  obtain ⟨v0, v1, d0, d1, pl0, pl1, rfl, rfl, rfl, h0, h1⟩ := trodAll_two hA
  obtain ⟨A0, c0, xs0, rfl, hO0, hc0, hm0, hl0⟩ := open_rows (hval' 0 22 v0 rfl rfl) h0 hwt (j := 0) rfl rfl
  obtain ⟨n1, rfl, rfl, rfl, hn1⟩ := open_int Try.underlying3 (hval' 1 3 v1 rfl rfl) h1
  have hr1 : -9223372036854775808 ≤ n1 ∧ n1 ≤ 9223372036854775807 := by simpa [Lit.wf, IntKind.min, IntKind.max, IntKind.signed, IntKind.bits] using hn1
  exact walk A0 c0 xs0 n1 W hO0 hc0 hm0 hl0 hr1

/-- The statement. -/
theorem proved : Rows.SectorsScansSaid :=
  OpenClaim.holds_of_wide 6 Try.f6 rfl rfl rfl rfl rfl rfl rfl ⟨rfl, rfl, rfl, rfl, rfl⟩ rfl rfl rfl rfl rfl (by kernel_rfl) Try.func6 (by kernel_rfl)
    (of_decide_eq_true (by kernel_rfl)) (by unfold Func.isWrapper; first | (rw [if_pos (by decide +kernel)]; kernel_rfl) | (rw [if_neg (by decide +kernel)]; exact ⟨rfl, rfl⟩))
    (fun os started H enc _ => lifted os started H enc)

end Go.Proofs.Ytlnahmgcjaodkaa.lawSectorsScans
