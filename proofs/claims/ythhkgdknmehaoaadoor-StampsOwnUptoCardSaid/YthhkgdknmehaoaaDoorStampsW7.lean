/- The document's own answers of layer 4: the stamp of a text. -/
import Derived.Test.YthhkgdknmehaoaaDoorStampsW6
namespace Go.Proofs.YthhkgdknmehaoaaDoor
open Go.RowKit
set_option linter.unusedVariables false
set_option maxRecDepth 100000
/-- The rest of a text from byte k on. -/
def rest (s : ByteArray) (k : Nat) : List UInt8 := s.data.toList.drop k
theorem rest_zero (s : ByteArray) : rest s 0 = s.data.toList := by simp [rest]
theorem rest_cons (s : ByteArray) (k : Nat) (h : k < s.size) : rest s k = s[k] :: rest s (k + 1) := by
  unfold rest
  rw [List.drop_eq_getElem_cons (by simpa using h)]
  rfl
theorem rest_end (s : ByteArray) : rest s s.size = [] := by
  unfold rest
  apply List.drop_of_length_le
  simp
/-- What a loose reading has come to. -/
def Read (s : ByteArray) (out : List Int) (n k : Nat) : Prop := (k ≤ s.size ∧ Hid (SM.scan [] 0 s.data.toList = SM.scan out n (rest s k))) ∨ (k = s.size + 1 ∧ Hid (SM.scan [] 0 s.data.toList = some out))
section
variable {s : ByteArray} {out : List Int} {n k : Nat}
theorem read_full (H : SM.scan [] 0 s.data.toList = SM.scan out n (rest s k)) (hk : k = s.size) (h4 : out.length = 4) : SM.scan [] 0 s.data.toList = none := by
  rw [H, hk, rest_end, SM.scan, if_pos h4]
theorem read_last (H : SM.scan [] 0 s.data.toList = SM.scan out n (rest s k)) (hk : k = s.size) (h4 : out.length ≠ 4) : Read s (out ++ [(n : Int)]) 0 (k + 1) := by
  refine .inr ⟨by omega, Lib.hid ?_⟩
  rw [H, hk, rest_end, SM.scan, if_neg h4]
theorem read_pfull (H : SM.scan [] 0 s.data.toList = SM.scan out n (rest s k)) (hk : k < s.size) (hc : s[k] = 46) (h4 : out.length = 4) : SM.scan [] 0 s.data.toList = none := by
  rw [H, rest_cons s k hk, hc, SM.scan, if_pos rfl, if_pos h4]
theorem read_point (H : SM.scan [] 0 s.data.toList = SM.scan out n (rest s k)) (hk : k < s.size) (hc : s[k] = 46) (h4 : out.length ≠ 4) : Read s (out ++ [(n : Int)]) 0 (k + 1) := by
  refine .inl ⟨by omega, Lib.hid ?_⟩
  rw [H, rest_cons s k hk, hc, SM.scan, if_pos rfl, if_neg h4]
theorem read_bad (H : SM.scan [] 0 s.data.toList = SM.scan out n (rest s k)) (hk : k < s.size) (hc : s[k] ≠ 46) (hb : s[k] < 48 ∨ 57 < s[k] ∨ 1099511627776 < n) : SM.scan [] 0 s.data.toList = none := by
  rw [H, rest_cons s k hk, SM.scan, if_neg hc, if_pos hb]
theorem read_dig (H : SM.scan [] 0 s.data.toList = SM.scan out n (rest s k)) (hk : k < s.size) (hc : s[k] ≠ 46) (hb : ¬ (s[k] < 48 ∨ 57 < s[k] ∨ 1099511627776 < n)) : Read s out (10 * n + (s[k].toNat - 48)) (k + 1) := by
  refine .inl ⟨by omega, Lib.hid ?_⟩
  rw [H, rest_cons s k hk, SM.scan, if_neg hc, if_neg hb]
theorem parse_none (h1 : s.data.toList ≠ [45]) (H : SM.scan [] 0 s.data.toList = none) : SM.parse s.data.toList = ([], 13) := by
  unfold SM.parse
  rw [if_neg h1, H]
theorem parse_good (h1 : s.data.toList ≠ [45]) (H : SM.scan [] 0 s.data.toList = some out) (hv : SM.valid out = true) (ht : SM.text out = s.data.toList) : SM.parse s.data.toList = (out, 0) := by
  unfold SM.parse
  rw [if_neg h1, H]
  exact if_pos ⟨hv, ht⟩
theorem parse_bad (h1 : s.data.toList ≠ [45]) (H : SM.scan [] 0 s.data.toList = some out) (hb : ¬ (SM.valid out = true ∧ SM.text out = s.data.toList)) : SM.parse s.data.toList = ([], 13) := by
  unfold SM.parse
  rw [if_neg h1, H]
  exact if_neg hb
end
theorem grew_none {w w1 : World} (h : Below w.heap.size w w1) : Grew w [] (.slice none 0 0) w1 := ⟨World.ownsRow_nil _ _ _ _, h⟩
theorem Grew.keep {w w1 w2 : World} {xs : List Int} {v : Value} (g : Grew w xs v w1) (h : Below w1.heap.size w1 w2) : Grew w xs v w2 :=
  ⟨(Mod.of_below h []).own g.1 (by simp), below_on g.2 h⟩
theorem out_more {out : List Int} {n : Nat} (h : ∀ x ∈ out, 0 ≤ x ∧ x ≤ 10995116277769) (hn : n ≤ 10995116277769) : ∀ x ∈ out ++ [(n : Int)], 0 ≤ x ∧ x ≤ 10995116277769 := by
  intro x hx
  rcases List.mem_append.1 hx with h1 | h1
  · exact h x h1
  · rw [List.mem_singleton.1 h1]; omega
theorem len_more {out : List Int} {n : Int} (h : out.length ≤ 4) (h4 : out.length ≠ 4) : (out ++ [n]).length ≤ 4 := by
  rw [List.length_append, List.length_singleton]; omega
theorem txt_list (l : List UInt8) : (txt l).toList = l := by rw [Lib.toList_data]; simp [txt]
set_option maxHeartbeats 8000000 in
theorem RefParse_any (s : ByteArray) (w : World) (hs : s.size ≤ 4611686018427387904) :
    Calls Tryd.prog 27 #[.string s] w fun e w' => ∃ v, e = .returned (.tuple #[v, .int .i64 (SM.parse s.data.toList).2]) ∧ Grew w (SM.parse s.data.toList).1 v w' := by
  by_cases h45 : s.toList = [45]
  · have HE := Lib.hid (show SM.parse s.data.toList = ([], 0) by rw [← Lib.toList_data, h45]; rfl)
    go_enter Tryd.func27, Tryd.ntmps27
    go_wp2_with fail
    go_ret2
    exact ⟨_, two_back rfl (by rw [HE.out]), by rw [HE.out]; exact Grew.nil w⟩
  · have H45 := Lib.hid (show s.data.toList ≠ [45] by rw [← Lib.toList_data]; exact h45)
    have hd45 : (s.toList == [45]) = false := by simpa using h45
    clear h45
    go_enter Tryd.func27, Tryd.ntmps27
    go_wp2_with fail
    go_loopw [4, 5, 6] (fun v m i wx => ∃ (out : List Int) (n k : Nat), m = .int .i64 (n : Int) ∧ i = .int .i64 (k : Int) ∧ n ≤ 10995116277769 ∧ out.length ≤ 4 ∧ Hid (∀ x ∈ out, 0 ≤ x ∧ x ≤ 10995116277769) ∧ Grew w out v wx ∧ Read s out n k) (fun _ _ i _ => s.size + 1 - (intOf i).toNat)
    case atStart => exact ⟨[], 0, 0, rfl, rfl, by omega, by simp, Lib.hid (by simp), Grew.nil w, .inl ⟨by omega, Lib.hid (by rw [rest_zero])⟩⟩
    case round =>
      obtain ⟨out, n, k, rfl, rfl, hn, ho, HR, hG, hread⟩ := hrel
      obtain ⟨A, c, rfl, hoc, hcm⟩ := own_shape hG.1
      have HG := Lib.hid hG; clear hG
      rcases hread with ⟨hk, HS⟩ | ⟨hk, HS⟩
      · by_cases hend : k = s.size
        · have HK := Lib.hid hend
          have hki : ((k : Int) == (s.size : Int)) = true := by rw [hend]; exact beq_self_eq_true _
          clear hend
          by_cases h4 : out.length = 4
          · have HE := Lib.hid (parse_none H45.out (read_full HS.out HK.out h4))
            have h4i : ((out.length : Int) == 4) = true := by simpa using (show (out.length : Int) = 4 by omega)
            clear h4
            go_wp2_with fail
            go_ret2
            exact ⟨_, two_back rfl (by rw [HE.out]), by rw [HE.out]; exact grew_none HG.out.2⟩
          · have HE := Lib.hid (read_last HS.out HK.out h4)
            have HL := Lib.hid (len_more (n := (n : Int)) ho h4)
            have h4i : ((out.length : Int) == 4) = false := by simpa using (show ¬ (out.length : Int) = 4 by omega)
            clear h4
            go_wp2_with (at_builtin; refine app_one rfl (.tmp 28) (.tmp 30) rfl _ _ HG.out rfl (n : Int) rfl (by omega) ?_; intro v2 w2 hg2; have HG2 := Lib.hid hg2; clear hg2)
            go_roundw
            case rel => exact ⟨out ++ [(n : Int)], 0, k + 1, rfl, rfl, by omega, HL.out, Lib.hid (out_more HR.out hn), HG2.out, HE.out⟩
            case measure => simp only [intOf]; omega
        · have hlt : k < s.size := by omega
          have hki : ((k : Int) == (s.size : Int)) = false := by simpa using (show ¬ (k : Int) = (s.size : Int) by omega)
          clear hend
          by_cases hc : s[k] = 46
          · have hb : ((s[k].toNat : Int) == 46) = true := by rw [hc]; rfl
            by_cases h4 : out.length = 4
            · have HE := Lib.hid (parse_none H45.out (read_pfull HS.out hlt hc h4))
              have h4i : ((out.length : Int) == 4) = true := by simpa using (show (out.length : Int) = 4 by omega)
              clear h4 hc
              go_wp2_with fail
              go_ret2
              exact ⟨_, two_back rfl (by rw [HE.out]), by rw [HE.out]; exact grew_none HG.out.2⟩
            · have HE := Lib.hid (read_point HS.out hlt hc h4)
              have HL := Lib.hid (len_more (n := (n : Int)) ho h4)
              have h4i : ((out.length : Int) == 4) = false := by simpa using (show ¬ (out.length : Int) = 4 by omega)
              clear h4 hc
              go_wp2_with (at_builtin; refine app_one rfl (.tmp 28) (.tmp 30) rfl _ _ HG.out rfl (n : Int) rfl (by omega) ?_; intro v2 w2 hg2; have HG2 := Lib.hid hg2; clear hg2)
              go_roundw
              case rel => exact ⟨out ++ [(n : Int)], 0, k + 1, rfl, rfl, by omega, HL.out, Lib.hid (out_more HR.out hn), HG2.out, HE.out⟩
              case measure => simp only [intOf]; omega
          · have hb : ((s[k].toNat : Int) == 46) = false := by
              have : s[k].toNat ≠ 46 := fun e => hc (UInt8.toNat_inj.1 (by rw [e]; rfl))
              simpa using (show ¬ (s[k].toNat : Int) = 46 by omega)
            by_cases hbad : s[k] < 48 ∨ 57 < s[k] ∨ 1099511627776 < n
            · have HE := Lib.hid (parse_none H45.out (read_bad HS.out hlt hc hbad))
              have hor : s[k].toNat < 48 ∨ 57 < s[k].toNat ∨ 1099511627776 < n := by
                rw [UInt8.lt_iff_toNat_lt, UInt8.lt_iff_toNat_lt] at hbad
                exact hbad
              clear hbad hc
              rcases hor with h1 | h1 | h1
              all_goals
                go_wp2_with fail
                all_goals
                  go_ret2
                  exact ⟨_, two_back rfl (by rw [HE.out]), by rw [HE.out]; exact grew_none HG.out.2⟩
            · have HE := Lib.hid (read_dig HS.out hlt hc hbad)
              have hor : 48 ≤ s[k].toNat ∧ s[k].toNat ≤ 57 ∧ n ≤ 1099511627776 := by
                rw [UInt8.lt_iff_toNat_lt, UInt8.lt_iff_toNat_lt] at hbad
                have e48 : (48 : UInt8).toNat = 48 := rfl
                have e57 : (57 : UInt8).toNat = 57 := rfl
                omega
              obtain ⟨r1, r2, r3⟩ := hor
              clear hbad hc
              go_wp2_with fail
              go_roundw
              case rel => exact ⟨out, 10 * n + (s[k].toNat - 48), k + 1, congrArg (Value.int .i64) (by omega), rfl, by omega, ho, HR, HG.out, HE.out⟩
              case measure => simp only [intOf]; omega
      · subst hk
        have HV := Lib.hid (RefValid_any A c out wr (IntsAt.own HG.out.1) hoc hcm)
        have HT := Lib.hid (RefText_any A c out wr (IntsAt.own HG.out.1) hoc hcm (by omega) (fun x hx => by have := HR.out x hx; omega))
        cases hv : SM.valid out with
        | false =>
          have HE := Lib.hid (parse_bad H45.out HS.out (fun h => by rw [hv] at h; cases h.1))
          rw [hv] at HV
          clear hv
          go_wp2_with fail
          refine HV.out.mono ?_
          rintro x w2 ⟨rfl, rfl⟩
          go_wp2_with fail
          go_ret2
          exact ⟨_, two_back rfl (by rw [HE.out]), by rw [HE.out]; exact grew_none HG.out.2⟩
        | true =>
          by_cases ht : SM.text out = s.data.toList
          · have HE := Lib.hid (parse_good H45.out HS.out hv ht)
            rw [hv] at HV
            have hcmp : ((txt (SM.text out)).toList == s.toList) = true := by rw [txt_list, ht, Lib.toList_data]; exact beq_self_eq_true _
            clear hv ht
            generalize txt (SM.text out) = t1 at *
            go_wp2_with fail
            refine HV.out.mono ?_
            rintro x w2 ⟨rfl, rfl⟩
            go_wp2_with fail
            refine HT.out.mono ?_
            rintro x w3 ⟨rfl, hb⟩
            have HB := Lib.hid hb; clear hb
            go_wp2_with fail
            go_ret2
            exact ⟨_, two_back rfl (by rw [HE.out]), by rw [HE.out]; exact HG.out.keep HB.out⟩
          · have HE := Lib.hid (parse_bad H45.out HS.out (fun h => ht h.2))
            rw [hv] at HV
            have hcmp : ((txt (SM.text out)).toList == s.toList) = false := by rw [txt_list, Lib.toList_data]; simpa using ht
            clear hv ht
            generalize txt (SM.text out) = t1 at *
            go_wp2_with fail
            refine HV.out.mono ?_
            rintro x w2 ⟨rfl, rfl⟩
            go_wp2_with fail
            refine HT.out.mono ?_
            rintro x w3 ⟨rfl, hb⟩
            have HB := Lib.hid hb; clear hb
            go_wp2_with fail
            go_ret2
            exact ⟨_, two_back rfl (by rw [HE.out]), by rw [HE.out]; exact grew_none (below_on HG.out.2 HB.out)⟩
end Go.Proofs.YthhkgdknmehaoaaDoor
