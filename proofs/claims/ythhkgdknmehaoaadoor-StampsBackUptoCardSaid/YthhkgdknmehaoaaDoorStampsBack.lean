/- Parsing a stamp's text gives the stamp back, and any text that is parsed is the text of its stamp; for any list and text. -/
import Derived.Deep.DeepCutAuto
import Derived.Test.YthhkgdknmehaoaaDoorRows
import Derived.Test.YthhkgdknmehaoaaDoorStampsW9
import Derived.Test.YthhkgdknmehaoaaDoorStampsMath2
import Derived.Test.YthhkgdknmehaoaaDoorLawLaid
import Derived.Test.YthhkgdknmehaoaaDoorBulk
import Derived.Test.YthhkgdknmehaoaaDoorCards
import Derived.Test.YthhkgdknmehaoaaDoorTie
import Derived.SevenTiedAt
import Derived.JoinedCond
import Derived.OpenShut
import Derived.ChangeMaps5
namespace Go.Proofs.YthhkgdknmehaoaaDoor.lawStampsBack
open Go Go.RowKit Go.ChangeShapes Go.WideShapes Go.ChangeAt
open Go.ChangeMaps (open_string)
set_option linter.unusedVariables false
set_option linter.unusedSimpArgs false
set_option maxRecDepth 100000
theorem txt_data (l : List UInt8) : (txt l).data.toList = l := by simp [txt]
theorem text_size {s : List Int} (hr : s.length ≤ 1048576) (hx : ∀ x ∈ s, -9223372036854775808 ≤ x ∧ x ≤ 9223372036854775807) : (txt (SM.text s)).size ≤ 4294967280 := by
  rw [txt_size]
  unfold SM.text
  split
  · decide
  · have := body_len s hx
    omega
theorem parse_own {w : World} {A : Option Addr} {n c : Nat} {s : List Int} (h : Lst w A n c s) (hs8 : s.length ≤ 1048576) (w1 : World) (hT : Tabs w1) : Calls Tryd.prog 26 #[.string (txt (SM.text s))] w1 (NewErr w1 (if SM.valid s = true then (s, 0) else ([], 13))) := by
  have e := Parse_in (w := w1) hT (txt (SM.text s)) (text_size hs8 h.range)
  rw [txt_data, SM.parse_of_text] at e
  exact e
theorem parse_at {t : ByteArray} (ht : t.size ≤ 1048576) {y : List Int} {f : Int} (h : SM.parse t.data.toList = (y, f)) (w1 : World) (hT : Tabs w1) : Calls Tryd.prog 26 #[.string t] w1 (NewErr w1 (y, f)) := by
  have e := Parse_in (w := w1) hT t (by omega)
  rw [h] at e
  exact e
theorem text_at {t : ByteArray} {y : List Int} (h : SM.text y = t.data.toList) : txt (SM.text y) = t := WideShapes.bytes_inj (by rw [txt_data, h])
theorem nil_len {w : World} {A : Option Addr} {n c : Nat} (h : Lst w A n c []) : n = 0 := h.len
set_option maxRecDepth 100000 in
set_option maxHeartbeats 4000000 in
theorem walk (As : Option Addr) (ns cs : Nat) (s : List Int) (t : ByteArray) (w : World) (Hs : Lst w As ns cs s) (ht : t.size ≤ 1048576) (hs8 : s.length ≤ 1048576) (hT : Tabs w) :
    Calls Tryd.prog 7 #[.slice As ns cs, .string t] w (LK.True_ w) := by
  have HT := Lib.hid hT; clear hT
  have Hs := Lib.hid Hs
  have HPO := Lib.hid (fun w1 (hT : Tabs w1) => parse_own Hs.out hs8 w1 hT)
  have HV := Lib.hid (fun (w : World) (A : Option Addr) (n c : Nat) (h : Lst w A n c s) => Valid_in h)
  cases hv : SM.valid s with
  | true =>
    rw [hv] at HV HPO
    rw [if_pos rfl] at HPO
    clear hv
    rcases hp : SM.parse t.data.toList with ⟨y, f⟩
    have hpc := SM.parse_cases t.data.toList
    rw [hp] at hpc
    simp only at hpc
    rcases hpc with ⟨rfl, hvy, hty⟩ | ⟨rfl, rfl, _⟩
    · have HPT := Lib.hid (fun w1 (hT : Tabs w1) => parse_at ht hp w1 hT)
      have HVY := Lib.hid (fun (w : World) (A : Option Addr) (n c : Nat) (h : Lst w A n c y) => Valid_in h)
      rw [hvy] at HVY
      have HTY := Lib.hid (fun (w : World) (A : Option Addr) (n c : Nat) (hT : Tabs w) (h : Lst w A n c y) => Text_in hT (by have := (SM.valid_iff.1 hvy).1; omega) h)
      rw [text_at hty] at HTY
      clear hp hvy hty
      have HB := Lib.hid (Below.refl w.heap.size w)
      go_enter Tryd.func7, Tryd.ntmps7
      go_wp2_with fail
      refine (awake_any _ (HT.out.below HB.out)).mono ?_
      rintro x9 w1 ⟨rfl, hb⟩
      have Hs := Lib.hid (Hs.out.below hb)
      have HB := Lib.hid (below_on HB.out hb)
      clear hb
      go_wp2_with fail
      refine (own_in Hs.out).mono ?_
      rintro x9 w2 ⟨AP, nP, cP, rfl, hl, hb⟩
      have Hs := Lib.hid (Hs.out.below hb)
      have HB := Lib.hid (below_on HB.out hb)
      have HP := Lib.hid hl
      clear hl
      clear hb
      go_wp2_with fail
      refine (Text_in (HT.out.below HB.out) hs8 HP.out).mono ?_
      rintro x9 w3 ⟨rfl, hb⟩
      have Hs := Lib.hid (Hs.out.below hb)
      have HP := Lib.hid (HP.out.below hb)
      have HB := Lib.hid (below_on HB.out hb)
      clear hb
      go_wp2_with fail
      refine (HPO.out _ (HT.out.below HB.out)).mono ?_
      rintro x9 w4 ⟨AX, nX, cX, rfl, hl, hb⟩
      have Hs := Lib.hid (Hs.out.below hb)
      have HB := Lib.hid (below_on HB.out hb)
      have HX := Lib.hid hl
      clear hl
      clear hb
      go_wp2_with fail
      refine (own_in Hs.out).mono ?_
      rintro x9 w5 ⟨AP, nP, cP, rfl, hl, hb⟩
      have Hs := Lib.hid (Hs.out.below hb)
      have HX := Lib.hid (HX.out.below hb)
      have HB := Lib.hid (below_on HB.out hb)
      have HP := Lib.hid hl
      clear hl
      clear hb
      go_wp2_with fail
      refine (HV.out _ _ _ _ HP.out).mono ?_
      rintro x9 w6 ⟨rfl, hb⟩
      have Hs := Lib.hid (Hs.out.below hb)
      have HX := Lib.hid (HX.out.below hb)
      have HP := Lib.hid (HP.out.below hb)
      have HB := Lib.hid (below_on HB.out hb)
      clear hb
      go_wp2_with fail
      refine (same_c HX.out Hs.out).mono ?_
      rintro x9 w7 ⟨rfl, hb⟩
      have Hs := Lib.hid (Hs.out.below hb)
      have HX := Lib.hid (HX.out.below hb)
      have HB := Lib.hid (below_on HB.out hb)
      clear hb
      go_wp2_with fail
      refine (HPT.out _ (HT.out.below HB.out)).mono ?_
      rintro x9 w8 ⟨AY, nY, cY, rfl, hl, hb⟩
      have Hs := Lib.hid (Hs.out.below hb)
      have HX := Lib.hid (HX.out.below hb)
      have HB := Lib.hid (below_on HB.out hb)
      have HY := Lib.hid hl
      clear hl
      clear hb
      go_wp2_with fail
      refine (own_in HY.out).mono ?_
      rintro x9 w9 ⟨AQ, nQ, cQ, rfl, hl, hb⟩
      have Hs := Lib.hid (Hs.out.below hb)
      have HX := Lib.hid (HX.out.below hb)
      have HY := Lib.hid (HY.out.below hb)
      have HB := Lib.hid (below_on HB.out hb)
      have HQ := Lib.hid hl
      clear hl
      clear hb
      go_wp2_with fail
      refine (HVY.out _ _ _ _ HQ.out).mono ?_
      rintro x9 w10 ⟨rfl, hb⟩
      have Hs := Lib.hid (Hs.out.below hb)
      have HX := Lib.hid (HX.out.below hb)
      have HY := Lib.hid (HY.out.below hb)
      have HQ := Lib.hid (HQ.out.below hb)
      have HB := Lib.hid (below_on HB.out hb)
      clear hb
      go_wp2_with fail
      refine (HTY.out _ _ _ _ (HT.out.below HB.out) HY.out).mono ?_
      rintro x9 w11 ⟨rfl, hb⟩
      have Hs := Lib.hid (Hs.out.below hb)
      have HX := Lib.hid (HX.out.below hb)
      have HY := Lib.hid (HY.out.below hb)
      have HB := Lib.hid (below_on HB.out hb)
      clear hb
      go_wp2_with fail
      go_ret
      exact ⟨rfl, HB.out⟩
    · have HPT := Lib.hid (fun w1 (hT : Tabs w1) => parse_at ht hp w1 hT)
      clear hp
      have HB := Lib.hid (Below.refl w.heap.size w)
      go_enter Tryd.func7, Tryd.ntmps7
      go_wp2_with fail
      refine (awake_any _ (HT.out.below HB.out)).mono ?_
      rintro x9 w1 ⟨rfl, hb⟩
      have Hs := Lib.hid (Hs.out.below hb)
      have HB := Lib.hid (below_on HB.out hb)
      clear hb
      go_wp2_with fail
      refine (own_in Hs.out).mono ?_
      rintro x9 w2 ⟨AP, nP, cP, rfl, hl, hb⟩
      have Hs := Lib.hid (Hs.out.below hb)
      have HB := Lib.hid (below_on HB.out hb)
      have HP := Lib.hid hl
      clear hl
      clear hb
      go_wp2_with fail
      refine (Text_in (HT.out.below HB.out) hs8 HP.out).mono ?_
      rintro x9 w3 ⟨rfl, hb⟩
      have Hs := Lib.hid (Hs.out.below hb)
      have HP := Lib.hid (HP.out.below hb)
      have HB := Lib.hid (below_on HB.out hb)
      clear hb
      go_wp2_with fail
      refine (HPO.out _ (HT.out.below HB.out)).mono ?_
      rintro x9 w4 ⟨AX, nX, cX, rfl, hl, hb⟩
      have Hs := Lib.hid (Hs.out.below hb)
      have HB := Lib.hid (below_on HB.out hb)
      have HX := Lib.hid hl
      clear hl
      clear hb
      go_wp2_with fail
      refine (own_in Hs.out).mono ?_
      rintro x9 w5 ⟨AP, nP, cP, rfl, hl, hb⟩
      have Hs := Lib.hid (Hs.out.below hb)
      have HX := Lib.hid (HX.out.below hb)
      have HB := Lib.hid (below_on HB.out hb)
      have HP := Lib.hid hl
      clear hl
      clear hb
      go_wp2_with fail
      refine (HV.out _ _ _ _ HP.out).mono ?_
      rintro x9 w6 ⟨rfl, hb⟩
      have Hs := Lib.hid (Hs.out.below hb)
      have HX := Lib.hid (HX.out.below hb)
      have HP := Lib.hid (HP.out.below hb)
      have HB := Lib.hid (below_on HB.out hb)
      clear hb
      go_wp2_with fail
      refine (same_c HX.out Hs.out).mono ?_
      rintro x9 w7 ⟨rfl, hb⟩
      have Hs := Lib.hid (Hs.out.below hb)
      have HX := Lib.hid (HX.out.below hb)
      have HB := Lib.hid (below_on HB.out hb)
      clear hb
      go_wp2_with fail
      refine (HPT.out _ (HT.out.below HB.out)).mono ?_
      rintro x9 w8 ⟨AY, nY, cY, rfl, hl, hb⟩
      have Hs := Lib.hid (Hs.out.below hb)
      have HX := Lib.hid (HX.out.below hb)
      have HB := Lib.hid (below_on HB.out hb)
      have HY := Lib.hid hl
      clear hl
      clear hb
      have hn0 := nil_len HY.out
      subst hn0
      go_wp2_with fail
      go_ret
      exact ⟨rfl, HB.out⟩
  | false =>
    rw [hv] at HV HPO
    rw [if_neg (by decide)] at HPO
    clear hv
    rcases hp : SM.parse t.data.toList with ⟨y, f⟩
    have hpc := SM.parse_cases t.data.toList
    rw [hp] at hpc
    simp only at hpc
    rcases hpc with ⟨rfl, hvy, hty⟩ | ⟨rfl, rfl, _⟩
    · have HPT := Lib.hid (fun w1 (hT : Tabs w1) => parse_at ht hp w1 hT)
      have HVY := Lib.hid (fun (w : World) (A : Option Addr) (n c : Nat) (h : Lst w A n c y) => Valid_in h)
      rw [hvy] at HVY
      have HTY := Lib.hid (fun (w : World) (A : Option Addr) (n c : Nat) (hT : Tabs w) (h : Lst w A n c y) => Text_in hT (by have := (SM.valid_iff.1 hvy).1; omega) h)
      rw [text_at hty] at HTY
      clear hp hvy hty
      have HB := Lib.hid (Below.refl w.heap.size w)
      go_enter Tryd.func7, Tryd.ntmps7
      go_wp2_with fail
      refine (awake_any _ (HT.out.below HB.out)).mono ?_
      rintro x9 w1 ⟨rfl, hb⟩
      have Hs := Lib.hid (Hs.out.below hb)
      have HB := Lib.hid (below_on HB.out hb)
      clear hb
      go_wp2_with fail
      refine (own_in Hs.out).mono ?_
      rintro x9 w2 ⟨AP, nP, cP, rfl, hl, hb⟩
      have Hs := Lib.hid (Hs.out.below hb)
      have HB := Lib.hid (below_on HB.out hb)
      have HP := Lib.hid hl
      clear hl
      clear hb
      go_wp2_with fail
      refine (Text_in (HT.out.below HB.out) hs8 HP.out).mono ?_
      rintro x9 w3 ⟨rfl, hb⟩
      have Hs := Lib.hid (Hs.out.below hb)
      have HP := Lib.hid (HP.out.below hb)
      have HB := Lib.hid (below_on HB.out hb)
      clear hb
      go_wp2_with fail
      refine (HPO.out _ (HT.out.below HB.out)).mono ?_
      rintro x9 w4 ⟨AX, nX, cX, rfl, hl, hb⟩
      have Hs := Lib.hid (Hs.out.below hb)
      have HB := Lib.hid (below_on HB.out hb)
      have HX := Lib.hid hl
      clear hl
      clear hb
      go_wp2_with fail
      refine (own_in Hs.out).mono ?_
      rintro x9 w5 ⟨AP, nP, cP, rfl, hl, hb⟩
      have Hs := Lib.hid (Hs.out.below hb)
      have HX := Lib.hid (HX.out.below hb)
      have HB := Lib.hid (below_on HB.out hb)
      have HP := Lib.hid hl
      clear hl
      clear hb
      go_wp2_with fail
      refine (HV.out _ _ _ _ HP.out).mono ?_
      rintro x9 w6 ⟨rfl, hb⟩
      have Hs := Lib.hid (Hs.out.below hb)
      have HX := Lib.hid (HX.out.below hb)
      have HP := Lib.hid (HP.out.below hb)
      have HB := Lib.hid (below_on HB.out hb)
      clear hb
      go_wp2_with fail
      refine (HPT.out _ (HT.out.below HB.out)).mono ?_
      rintro x9 w7 ⟨AY, nY, cY, rfl, hl, hb⟩
      have Hs := Lib.hid (Hs.out.below hb)
      have HX := Lib.hid (HX.out.below hb)
      have HB := Lib.hid (below_on HB.out hb)
      have HY := Lib.hid hl
      clear hl
      clear hb
      go_wp2_with fail
      refine (own_in HY.out).mono ?_
      rintro x9 w8 ⟨AQ, nQ, cQ, rfl, hl, hb⟩
      have Hs := Lib.hid (Hs.out.below hb)
      have HX := Lib.hid (HX.out.below hb)
      have HY := Lib.hid (HY.out.below hb)
      have HB := Lib.hid (below_on HB.out hb)
      have HQ := Lib.hid hl
      clear hl
      clear hb
      go_wp2_with fail
      refine (HVY.out _ _ _ _ HQ.out).mono ?_
      rintro x9 w9 ⟨rfl, hb⟩
      have Hs := Lib.hid (Hs.out.below hb)
      have HX := Lib.hid (HX.out.below hb)
      have HY := Lib.hid (HY.out.below hb)
      have HQ := Lib.hid (HQ.out.below hb)
      have HB := Lib.hid (below_on HB.out hb)
      clear hb
      go_wp2_with fail
      refine (HTY.out _ _ _ _ (HT.out.below HB.out) HY.out).mono ?_
      rintro x9 w10 ⟨rfl, hb⟩
      have Hs := Lib.hid (Hs.out.below hb)
      have HX := Lib.hid (HX.out.below hb)
      have HY := Lib.hid (HY.out.below hb)
      have HB := Lib.hid (below_on HB.out hb)
      clear hb
      go_wp2_with fail
      go_ret
      exact ⟨rfl, HB.out⟩
    · have HPT := Lib.hid (fun w1 (hT : Tabs w1) => parse_at ht hp w1 hT)
      clear hp
      have HB := Lib.hid (Below.refl w.heap.size w)
      go_enter Tryd.func7, Tryd.ntmps7
      go_wp2_with fail
      refine (awake_any _ (HT.out.below HB.out)).mono ?_
      rintro x9 w1 ⟨rfl, hb⟩
      have Hs := Lib.hid (Hs.out.below hb)
      have HB := Lib.hid (below_on HB.out hb)
      clear hb
      go_wp2_with fail
      refine (own_in Hs.out).mono ?_
      rintro x9 w2 ⟨AP, nP, cP, rfl, hl, hb⟩
      have Hs := Lib.hid (Hs.out.below hb)
      have HB := Lib.hid (below_on HB.out hb)
      have HP := Lib.hid hl
      clear hl
      clear hb
      go_wp2_with fail
      refine (Text_in (HT.out.below HB.out) hs8 HP.out).mono ?_
      rintro x9 w3 ⟨rfl, hb⟩
      have Hs := Lib.hid (Hs.out.below hb)
      have HP := Lib.hid (HP.out.below hb)
      have HB := Lib.hid (below_on HB.out hb)
      clear hb
      go_wp2_with fail
      refine (HPO.out _ (HT.out.below HB.out)).mono ?_
      rintro x9 w4 ⟨AX, nX, cX, rfl, hl, hb⟩
      have Hs := Lib.hid (Hs.out.below hb)
      have HB := Lib.hid (below_on HB.out hb)
      have HX := Lib.hid hl
      clear hl
      clear hb
      go_wp2_with fail
      refine (own_in Hs.out).mono ?_
      rintro x9 w5 ⟨AP, nP, cP, rfl, hl, hb⟩
      have Hs := Lib.hid (Hs.out.below hb)
      have HX := Lib.hid (HX.out.below hb)
      have HB := Lib.hid (below_on HB.out hb)
      have HP := Lib.hid hl
      clear hl
      clear hb
      go_wp2_with fail
      refine (HV.out _ _ _ _ HP.out).mono ?_
      rintro x9 w6 ⟨rfl, hb⟩
      have Hs := Lib.hid (Hs.out.below hb)
      have HX := Lib.hid (HX.out.below hb)
      have HP := Lib.hid (HP.out.below hb)
      have HB := Lib.hid (below_on HB.out hb)
      clear hb
      go_wp2_with fail
      refine (HPT.out _ (HT.out.below HB.out)).mono ?_
      rintro x9 w7 ⟨AY, nY, cY, rfl, hl, hb⟩
      have Hs := Lib.hid (Hs.out.below hb)
      have HX := Lib.hid (HX.out.below hb)
      have HB := Lib.hid (below_on HB.out hb)
      have HY := Lib.hid hl
      clear hl
      clear hb
      have hn0 := nil_len HY.out
      subst hn0
      go_wp2_with fail
      go_ret
      exact ⟨rfl, HB.out⟩

theorem own : ownKnob Tryd.prog.godebug = none := by kernel_rfl
theorem laidOut : laidOutB Tryd.prog = true := by kernel_rfl
theorem lifted (os : Os) (started : os.Started) (H : Type) (enc : TypeId × Value → H) (F : Stop.Interp) :
    ReturnsInHanded {} Tryd.checked os 7 .any ((Rows.OpenSpec.upto Rows.stampsBackSpec).preRow enc Tryd.prog Tryd.f7 Rows.stampsBackUptoRow.domain false Rows.stampsBackUptoRow.laid) (((Rows.OpenSpec.upto Rows.stampsBackSpec).at F).post enc Tryd.prog Tryd.f7 false true false false) := by
  refine LK.lifted_row (C := Tryd.checked) (s := (Rows.OpenSpec.upto Rows.stampsBackSpec)) (F := F) (s0 := Rows.stampsBackSpec) (tb := 4) (laid := Rows.stampsBackUptoRow.laid) rfl own started (by kernel_rfl) Tryd.func7 laidOut rfl rfl rfl rfl (by kernel_rfl) (by kernel_rfl) Tryd.underlying4
    (fun ds h => by
      match ds, h with
      | [_, _], _ => rfl)
    (World.laidAll Tryd.prog os Rows.stampsBackUptoRow.laid) #[.slice none 0 0, .string ByteArray.empty] 8 (x := ([.nil, .lit (.string [])], [], [])) (World.laidAll_os _ _ _) (World.shaped_of_ZipB (by kernel_rfl) (by kernel_rfl)) (by kernel_rfl) (by kernel_rfl) (fun k hk => by cases hk; kernel_rfl) (by kernel_rfl)
    (by rw [MakeChecks.laidMetH_plain _ _ _ (by kernel_rfl)]; exact laidMet_laidAll _ (by kernel_rfl) (by kernel_rfl)) ?_
  intro W base args ds ps hval hA hwt hk hsh hlaid
  rw [show Tryd.f7.params.toList = [22, 9] by kernel_rfl] at hA hwt
  have hval' : ∀ (j : Nat) t v, (#[22, 9] : Array TypeId)[j]? = some t → args[j]? = some v → Value.okWide Tryd.prog W .any base t v := by
    rw [← Tryd.params7]; exact hval
  clear hval
  obtain ⟨v0, v1, d0, d1, p0, p1, rfl, rfl, rfl, h0, h1⟩ := trodAll_two hA
  have hbulk : Rows.uptoBulkAll [d0, d1] ≤ 1048576 := of_decide_eq_true (hk Rows.uptoSmall rfl)
  simp only [Rows.uptoBulkAll] at hbulk
  obtain ⟨A0, c0, l0, rfl, hI0, hc0, hm0, hr0⟩ := open_nums (hval' 0 22 v0 rfl rfl) h0 hwt (j := 0) rfl rfl
  have hb0 := bulk_nums h0
  obtain ⟨s1, rfl, rfl, _, _⟩ := open_string Tryd.underlying9 (hval' 1 9 v1 rfl rfl) h1
  have hs1 : s1.size ≤ 1048576 := by
    have h1 := bulk_text (H := H) s1.data.toList
    rw [Array.length_toList] at h1
    show s1.data.size ≤ _
    omega
  exact walk A0 l0.length c0 l0 s1 W ⟨rfl, hI0, hc0, by omega, by omega, hr0⟩ hs1 (by omega) (tabs_of hsh hlaid)

theorem over : Rows.stampsBackUptoRow.holds Tryd.pinned (Rows.OpenSpec.upto Rows.stampsBackSpec) :=
  OpenClaim.holds_of_cond 7 Tryd.f7 rfl rfl rfl rfl rfl rfl rfl ⟨rfl, rfl, rfl, rfl, rfl⟩ rfl rfl rfl rfl rfl (by kernel_rfl) Tryd.func7 (by kernel_rfl)
    (of_decide_eq_true (by kernel_rfl)) (by unfold Func.isWrapper; first | (rw [if_pos (by decide +kernel)]; kernel_rfl) | (rw [if_neg (by decide +kernel)]; exact ⟨rfl, rfl⟩))
    (fun os started H enc _ F => by rw [OpenClaim.pre_eq_preRow]; exact lifted os started H enc F)

/-- The statement. -/
theorem proved : Rows.StampsBackUptoCardSaid :=
  Claim7.holds_tied_plain_at .later [] Rows.stampsBackUptoCard.laidKinds true Rows.stampsBackUptoCard.stood.harness Rows.stampsBackUptoCard.stood.looks
    over (fun _ h => by cases h) (by kernel_rfl) (fun _ h => by cases h) stampsBackUpto_row_tie rfl ⟨rfl, rfl⟩ (by kernel_rfl) rfl
    (fun f fn hf hfn => by
      obtain rfl : f = 7 := Option.some.inj ((show Tryd.prog.funcNamed Rows.stampsBackUptoRow.func = some 7 by kernel_rfl).symm.trans hf) |>.symm
      obtain rfl : fn = Tryd.f7 := (Option.some.inj (Tryd.func7.symm.trans hfn)).symm
      exact ⟨by kernel_rfl, fun j t ht => by
        rw [Tryd.params7] at ht
        have hm : t ∈ ([22, 9] : List TypeId) := by simpa using Array.mem_of_getElem? ht
        have hall : (([22, 9] : List TypeId).all fun u => !Tryd.prog.wantsStandIn u) = true := by kernel_rfl
        exact (show Tryd.prog.wantsStandIn t = false by simpa using List.all_eq_true.1 hall t hm)⟩)
    (by kernel_rfl)

end Go.Proofs.YthhkgdknmehaoaaDoor.lawStampsBack
