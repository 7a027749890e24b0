/- For every list of texts, Join answers what the document says. -/
import Derived.Deep.DeepCutAuto
import Derived.Test.YtabilfjaiopemaaDoorPathsW5
import Derived.Test.YtabilfjaiopemaaDoorLawKit
import Derived.Test.YtabilfjaiopemaaDoorCards
import Derived.Test.YtabilfjaiopemaaDoorTie
import Derived.SevenTiedAt
namespace Go.Proofs.YtabilfjaiopemaaDoor.lawPathsJoins
open Go Go.RowKit Go.ChangeShapes Go.WideShapes Go.ChangeAt
open Go.ChangeMaps (open_string shut_string)
open PM (str)
set_option linter.unusedVariables false

set_option maxHeartbeats 1000000 in
theorem walk_some (a : Addr) (c n : Nat) (xs : List (List UInt8)) (w : World) (hn : xs.length = n) (hS : StrsAt w (some a) c xs) (hx : ∀ x ∈ xs, x.length ≤ 9223372036854775807) (hk : c * 16 ≤ 140737488351232) (hw : HasMax w) :
    Calls Tryd.prog 5 #[.slice (some a) n c] w (LK.True_ w) := by
  obtain ⟨i0, hi, hz0, hz1, hz2⟩ := info_parts info_str
  have hle : n ≤ c := by have := hS.1; omega
  have HW := Lib.hid hw; clear hw
  have HS := Lib.hid hS; have HX := Lib.hid hx; have HN := Lib.hid hn; clear hS hx hn
  go_enter Tryd.func5, Tryd.ntmps5
  go_wp2_with fail
  refine (awake_any _ HW.out).mono ?_
  rintro e w1 ⟨rfl, hb1⟩
  have HS1 := Lib.hid (HS.out.below hb1)
  have HS1' := Lib.hid (HS1.out.below ((Below.refl _ w1).alloc (Nat.le_refl _) (.cells #[] 9)))
  go_wp2_with (at_builtin; refine wpList_append_own _ rfl (.tmp 10) (.tmp 11) 24 rfl w1.heap.size 9 i0 (.string ⟨#[]⟩) 1 16 Tryd.underlying24 hi hz0 hz1 hz2 rfl (by decide) _ 0 [] rfl (World.ownsRow_lit w1 #[] 0 (Nat.le_refl _) (by decide) rfl) a n c (xs.map str) rfl (by rw [List.length_map, HN.out, Nat.mul_one]) (news_of HS1'.out) one_strs (by unfold maxLen; omega) (by omega) (by simp) ?_; intro v2 w2 hown2 hgrow2 _)
  have hb2 : Below w1.heap.size w1 w2 := ((Below.refl _ w1).alloc (Nat.le_refl _) _).grown hgrow2 (by simp) (fun k hk => by cases hk; exact Nat.le_refl _)
  rw [Nat.zero_add, List.nil_append] at hown2
  obtain ⟨B, d, rfl⟩ := own_form hown2
  have HO := Lib.hid (own_strs hown2 HN.out); clear hown2 hgrow2
  have HJ := Lib.hid (Join_any B d xs w2 HO.out HX.out (by rw [HN.out]; omega))
  rw [HN.out] at HJ
  have HS2 := Lib.hid (HS1.out.below hb2)
  have HB := Lib.hid (hb1.on hb2); clear hb1 hb2
  rcases hj : PM.segsB xs with _ | _
  · have HF := Lib.hid (joinE_no hj); clear hj
    go_wp2_with fail
    refine HJ.out.mono ?_
    rintro e w3 ⟨he, hb3⟩
    rw [HF.out] at he
    subst he
    have HR := RJoin_any (some a) c xs w3 (HS2.out.below hb3) HX.out (by rw [HN.out]; omega)
    rw [HN.out] at HR
    go_wp2_with fail
    refine HR.mono ?_
    rintro e w4 ⟨he, hb4⟩
    rw [HF.out] at he
    subst he
    go_wp2
    go_ret
    exact ⟨rfl, (HB.out.on hb3).on hb4⟩
  · have HF := Lib.hid (joinE_ok hj); clear hj
    go_wp2_with fail
    refine HJ.out.mono ?_
    rintro e w3 ⟨he, hb3⟩
    rw [HF.out] at he
    subst he
    have HR := RJoin_any (some a) c xs w3 (HS2.out.below hb3) HX.out (by rw [HN.out]; omega)
    rw [HN.out] at HR
    unfold str
    go_wp2_with fail
    refine HR.mono ?_
    rintro e w4 ⟨he, hb4⟩
    rw [HF.out] at he
    subst he
    unfold str
    go_wp2
    go_ret
    exact ⟨ret_bool (by simp), (HB.out.on hb3).on hb4⟩

set_option maxHeartbeats 1000000 in
theorem walk_none (c : Nat) (w : World) (hw : HasMax w) :
    Calls Tryd.prog 5 #[.slice none 0 c] w (LK.True_ w) := by
  have HW := Lib.hid hw; clear hw
  go_enter Tryd.func5, Tryd.ntmps5
  go_wp2_with fail
  refine (awake_any _ HW.out).mono ?_
  rintro e w1 ⟨rfl, hb1⟩
  go_wp2_with fail
  refine (Join_nil _ _ _).mono ?_
  rintro e w3 ⟨rfl, hb3⟩
  rw [joinE_ok (by decide)]
  unfold str
  go_wp2_with fail
  refine (RJoin_none _ _ _).mono ?_
  rintro e w4 ⟨rfl, hb4⟩
  rw [joinE_ok (by decide)]
  unfold str
  go_wp2
  go_ret
  exact ⟨ret_bool (by simp), ((hb1.on ((Below.refl _ _).alloc (Nat.le_refl _) _)).on hb3).on hb4⟩

theorem walk (A : Option Addr) (c : Nat) (xs : List (List UInt8)) (w : World) (hS : StrsAt w A c xs) (hx : ∀ x ∈ xs, x.length ≤ 9223372036854775807) (hk : c * 16 ≤ 140737488351232) (_ : A = none → c = 0) (hw : HasMax w) :
    Calls Tryd.prog 5 #[.slice A xs.length c] w (LK.True_ w) := by
  cases A with
  | some a => exact walk_some a c xs.length xs w rfl hS hx hk hw
  | none =>
    have : xs = [] := by
      cases xs with
      | nil => rfl
      | cons x r =>
        obtain ⟨b, o, e, _⟩ := hS.2 (by simp)
        cases e
    subst this
    exact walk_none c w hw

theorem own : ownKnob Tryd.prog.godebug = none := by kernel_rfl
theorem laidOut : laidOutB Tryd.prog = true := by kernel_rfl
set_option maxRecDepth 100000 in
theorem lifted (os : Os) (started : os.Started) (H : Type) (enc : TypeId × Value → H) :
    ReturnsInHanded {} Tryd.checked os 5 .any (fun w args => (Rows.pathsJoinsSpec.pre enc Tryd.prog Tryd.f5 [] false w args ∧ laidMetH Tryd.prog Rows.pathsJoinsRow.laid w) ∧ sizedMet enc Tryd.prog Tryd.f5 (OpenSpec.ofChange Rows.pathsJoinsSpec) false w args)
      (Rows.pathsJoinsSpec.post enc Tryd.prog Tryd.f5 false true false false) := by
  refine LK.lifted_of_law (C := Tryd.checked) (laid := Rows.pathsJoinsRow.laid) (tb := 4) own started (by kernel_rfl) Tryd.func5 laidOut rfl (by kernel_rfl) (by kernel_rfl) Tryd.underlying4
    (fun ds h => by
      match ds, h with
      | [_], _ => rfl)
    (ChangeSpec.witness_shaped (enc := enc) (C := Tryd.checked) (os := os) (X := fun w _ => laidMetH Tryd.prog Rows.pathsJoinsRow.laid w) false (World.laidAll Tryd.prog os Rows.pathsJoinsRow.laid) #[.slice none 0 0] 8 (World.laidAll_os _ _ _)
      (World.shaped_of_ZipB (by kernel_rfl) (by kernel_rfl)) (by kernel_rfl) (by kernel_rfl) (by kernel_rfl)
      (by rw [MakeChecks.laidMetH_plain _ _ _ (by kernel_rfl)]; exact laidMet_laidAll _ (by kernel_rfl) (by kernel_rfl))) ?_
  intro W base args ds ps hval hA hwt hsh _
  rw [show Tryd.f5.params.toList = [24] by kernel_rfl] at hA hwt
  have hval' : ∀ (j : Nat) t v, (#[24] : Array TypeId)[j]? = some t → args[j]? = some v → Value.okWide Tryd.prog W .any base t v := by
    rw [← Tryd.params5]; exact hval
  clear hval
  obtain ⟨v0, d0, rfl, rfl, h0⟩ := trodAll_one hA
  obtain ⟨A0, c0, xs0, rfl, hS0, hx0, k0, n0⟩ := open_texts (hval' 0 24 v0 rfl rfl) h0 hwt (j := 0) rfl rfl
  exact walk A0 c0 xs0 W hS0 hx0 k0 n0 (max_of hsh)

theorem over : Rows.pathsJoinsRow.holds Tryd.pinned (OpenSpec.ofChange Rows.pathsJoinsSpec) :=
  OpenClaim.holds_of_wide 5 Tryd.f5 rfl rfl rfl rfl rfl rfl rfl ⟨rfl, rfl, rfl, rfl, rfl⟩ rfl rfl rfl rfl rfl (by kernel_rfl) Tryd.func5 (by kernel_rfl)
    (of_decide_eq_true (by kernel_rfl)) (by unfold Func.isWrapper; first | (rw [if_pos (by decide +kernel)]; kernel_rfl) | (rw [if_neg (by decide +kernel)]; exact ⟨rfl, rfl⟩))
    (fun os started H enc _ => lifted os started H enc)

/-- The statement. -/
theorem proved : Rows.PathsJoinsCardSaid :=
  Claim7.holds_tied_plain_at .later [] Rows.pathsJoinsCard.laidKinds true Rows.pathsJoinsCard.stood.harness false
    over (fun _ h => by cases h) (by kernel_rfl) (fun _ h => by cases h) pathsJoins_row_tie rfl ⟨rfl, rfl⟩ (by kernel_rfl) rfl
    (fun f fn hf hfn => by
      obtain rfl : f = 5 := Option.some.inj ((show Tryd.prog.funcNamed Rows.pathsJoinsRow.func = some 5 by kernel_rfl).symm.trans hf) |>.symm
      obtain rfl : fn = Tryd.f5 := (Option.some.inj (Tryd.func5.symm.trans hfn)).symm
      exact ⟨by kernel_rfl, fun j t ht => by
        rw [Tryd.params5] at ht
        have hm : t ∈ ([24] : List TypeId) := by simpa using Array.mem_of_getElem? ht
        have hall : (([24] : List TypeId).all fun u => !Tryd.prog.wantsStandIn u) = true := by kernel_rfl
        exact (show Tryd.prog.wantsStandIn t = false by simpa using List.all_eq_true.1 hall t hm)⟩)
    (by kernel_rfl)

end Go.Proofs.YtabilfjaiopemaaDoor.lawPathsJoins
