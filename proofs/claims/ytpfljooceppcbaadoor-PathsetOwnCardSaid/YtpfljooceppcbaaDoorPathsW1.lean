/- The calls that look at one text alone: a segment's byte, the depth of a path, whether it is one; each leaves the world as it is. -/
import Derived.Test.YtpfljooceppcbaaDoorChecked
import Derived.Test.YtpfljooceppcbaaDoorPathsMath
import Derived.WalkKit
import Derived.WalkSpells
import Derived.WalkLawsBesides
import Derived.Deep.QuietTactic
import Derived.BigQuiet
import Derived.Lib.Hide
import Derived.Lib.Strings
import Derived.WalkMore
namespace Go.Proofs.YtpfljooceppcbaaDoor
open Go.RowKit

theorem ret_int {k : IntKind} {a b : Int} (h : a = b) : Ending.returned (.int k a) = .returned (.int k b) := by rw [h]
theorem ret_bool {a b : Bool} (h : a = b) : Ending.returned (.bool a) = .returned (.bool b) := by rw [h]

set_option maxHeartbeats 400000 in
theorem isSegmentByte_any (c : UInt8) (w : World) :
    Calls Tryd.prog 65 #[.int .u8 (c.toNat : Int)] w fun e w' => e = .returned (.bool (PM.isSeg c)) ∧ w = w' := by
  go_enter Tryd.func65, Tryd.ntmps65
  go_wp2
  all_goals
    go_ret
    refine ⟨ret_bool ?_, rfl⟩
    rw [Bool.eq_iff_iff]
    simp [PM.isSeg]
    omega

/-- The rest of a text from byte k on. -/
def rest (s : ByteArray) (k : Nat) : List UInt8 := s.data.toList.drop k
theorem rest_zero (s : ByteArray) : rest s 0 = s.data.toList := by simp [rest]
theorem rest_cons (s : ByteArray) (k : Nat) (h : k < s.size) : rest s k = s[k] :: rest s (k + 1) := by
  unfold rest
  rw [List.drop_eq_getElem_cons (by simpa using h)]
  rfl
theorem rest_end (s : ByteArray) : rest s s.size = [] := by
  unfold rest
  apply List.drop_of_length_le
  simp

theorem scan_slash {c : UInt8} {s z : Nat} {r : List UInt8} (h : c.toNat = 47) (hz : 0 < z) (hs : s < 4) : PM.scan s z (c :: r) = PM.scan (s + 1) 0 r := by
  rw [PM.scan, if_pos ⟨UInt8.toNat_inj.1 (by rw [h]; rfl), hz, hs⟩]
theorem scan_seg {c : UInt8} {s z : Nat} {r : List UInt8} (h : PM.isSeg c = true) (hz : z < 6) : PM.scan s z (c :: r) = PM.scan s (z + 1) r := by
  rw [PM.scan, if_neg (fun hh => by rw [hh.1, PM.isSeg_47] at h; cases h), if_pos ⟨h, hz⟩]
theorem scan_bad {c : UInt8} {s z : Nat} {r : List UInt8} (h1 : ¬ (c.toNat = 47 ∧ 0 < z ∧ s < 4)) (h2 : ¬ (PM.isSeg c = true ∧ z < 6)) : PM.scan s z (c :: r) = none := by
  rw [PM.scan, if_neg (fun hh => h1 ⟨by rw [hh.1]; rfl, hh.2⟩), if_neg h2]

theorem len_toList (s : ByteArray) : s.data.toList.length = s.size := rfl
theorem str_ne {s : ByteArray} (h : 0 < s.size) : s.data.toList ≠ [] := by
  intro e
  have h1 := len_toList s
  rw [e] at h1
  simp only [List.length_nil] at h1
  omega

theorem c47 : (({ data := #[47] } : ByteArray)[0]).toNat = 47 := rfl
section
variable {s : ByteArray} {k g z : Nat} {h : k < s.size}
theorem next_slash (H : Hid (PM.scan 1 0 s.data.toList = PM.scan g z (rest s k))) (hc : (s[k].toNat : Int) = (({ data := #[47] } : ByteArray)[0]).toNat) (hz : 0 < z) (hg : (g : Int) < 4) :
    Hid (PM.scan 1 0 s.data.toList = PM.scan (g + 1) 0 (rest s (k + 1))) := by
  rw [c47] at hc
  exact Lib.hid (by rw [H.out, rest_cons s k h, scan_slash (by omega) hz (by omega)])
theorem next_seg (H : Hid (PM.scan 1 0 s.data.toList = PM.scan g z (rest s k))) (hc : PM.isSeg s[k] = true) (hz : (z : Int) < 6) :
    Hid (PM.scan 1 0 s.data.toList = PM.scan g (z + 1) (rest s (k + 1))) :=
  Lib.hid (by rw [H.out, rest_cons s k h, scan_seg hc (by omega)])
theorem depth_bad (hs : s.data.toList ≠ []) (H : PM.scan 1 0 s.data.toList = none) : PM.depthI s.data.toList = -1 := by
  rw [PM.depthI_ne _ hs]; unfold PM.scanD; rw [H]
theorem bad1 (hs : Hid (s.data.toList ≠ [])) (H : Hid (PM.scan 1 0 s.data.toList = PM.scan g z (rest s k))) (hc : (s[k].toNat : Int) = (({ data := #[47] } : ByteArray)[0]).toNat) (hg : (4 : Int) ≤ g) : PM.depthI s.data.toList = -1 := by
  rw [c47] at hc
  refine depth_bad hs.out ?_
  rw [H.out, rest_cons s k h]
  refine scan_bad (by omega) (fun hh => ?_)
  have : s[k] = 47 := UInt8.toNat_inj.1 (by rw [show (47 : UInt8).toNat = 47 from rfl]; omega)
  rw [this, PM.isSeg_47] at hh
  cases hh.1
theorem bad2 (hs : Hid (s.data.toList ≠ [])) (H : Hid (PM.scan 1 0 s.data.toList = PM.scan g z (rest s k))) (hc : (s[k].toNat : Int) = (({ data := #[47] } : ByteArray)[0]).toNat) (hg : ¬ 0 < z) : PM.depthI s.data.toList = -1 := by
  rw [c47] at hc
  refine depth_bad hs.out ?_
  rw [H.out, rest_cons s k h]
  refine scan_bad (by omega) (fun hh => ?_)
  have : s[k] = 47 := UInt8.toNat_inj.1 (by rw [show (47 : UInt8).toNat = 47 from rfl]; omega)
  rw [this, PM.isSeg_47] at hh
  cases hh.1
theorem bad3 (hs : Hid (s.data.toList ≠ [])) (H : Hid (PM.scan 1 0 s.data.toList = PM.scan g z (rest s k))) (hc : ¬ (s[k].toNat : Int) = (({ data := #[47] } : ByteArray)[0]).toNat) (hg : (6 : Int) ≤ z) : PM.depthI s.data.toList = -1 := by
  rw [c47] at hc
  refine depth_bad hs.out ?_
  rw [H.out, rest_cons s k h]
  exact scan_bad (by omega) (by omega)
theorem bad4 (hs : Hid (s.data.toList ≠ [])) (H : Hid (PM.scan 1 0 s.data.toList = PM.scan g z (rest s k))) (hc : ¬ (s[k].toNat : Int) = (({ data := #[47] } : ByteArray)[0]).toNat) (hg : ¬ PM.isSeg s[k] = true) : PM.depthI s.data.toList = -1 := by
  rw [c47] at hc
  refine depth_bad hs.out ?_
  rw [H.out, rest_cons s k h]
  exact scan_bad (by omega) (fun hh => hg hh.1)
end
theorem depth_end {s : ByteArray} {g z k : Nat} (hs : Hid (s.data.toList ≠ [])) (H : Hid (PM.scan 1 0 s.data.toList = PM.scan g z (rest s k))) (hk : s.size = k) : PM.depthI s.data.toList = if z = 0 then -1 else (g : Int) := by
  subst hk
  rw [PM.depthI_ne _ hs.out]
  unfold PM.scanD
  rw [H.out, rest_end]
  rfl

set_option maxHeartbeats 400000 in
theorem Depth_any (s : ByteArray) (w : World) (hs : s.size ≤ 9223372036854775807) :
    Calls Tryd.prog 49 #[.string s] w fun e w' => e = .returned (.int .i64 (PM.depthI s.data.toList)) ∧ w = w' := by
  go_enter Tryd.func49, Tryd.ntmps49
  by_cases h0 : s.toList = []
  · go_wp2; go_step3; go_wp2
    rw [Exit.noGoto_ret]; go_ret
    refine ⟨ret_int ?_, rfl⟩
    have h1 : s.data.toList = [] := by rw [← Lib.toList_data]; exact h0
    rw [h1, PM.depthI_nil]
  · have h1 : s.toList.isEmpty = false := by simpa using h0
    have h2 : s.data.toList ≠ [] := by rw [← Lib.toList_data]; exact h0
    clear h0
    have H2 := Lib.hid h2; clear h2
    go_wp2; go_step3; go_wp2; go_step3; go_wp2
    go_loop [3, 4, 11] (fun a b i => ∃ g z k : Nat, k ≤ s.size ∧ i = .int .i64 k ∧ a = .int .i64 g ∧ b = .int .i64 z ∧ 1 ≤ g ∧ g ≤ 4 ∧ z ≤ 6 ∧ Hid (PM.scan 1 0 s.data.toList = PM.scan g z (rest s k))) (fun _ _ i => s.size - (intOf i).toNat)
    case atStart => exact ⟨1, 0, 0, by omega, rfl, rfl, rfl, by omega, by omega, by omega, Lib.hid (by rw [rest_zero])⟩
    case round =>
      obtain ⟨g, z, k, hk, rfl, rfl, rfl, hg1, hg4, hz, H⟩ := hrel
      by_cases hlt : k < s.size
      · go_wp2_with (go_at_call 65; refine (isSegmentByte_any _ _).mono ?_; rintro e w' ⟨rfl, rfl⟩)
        · go_round
          case rel => exact ⟨g + 1, 0, k + 1, by omega, by go_num, by go_num, by go_num, by omega, by omega, by omega, next_slash (h := hlt) H ‹_› ‹_› ‹_›⟩
          case measure => simp [intOf]; omega
        · rw [Exit.noGoto_ret]; go_ret
          exact ⟨ret_int (bad1 (h := hlt) H2 H ‹_› ‹_›).symm, rfl⟩
        · rw [Exit.noGoto_ret]; go_ret
          exact ⟨ret_int (bad2 (h := hlt) H2 H ‹_› ‹_›).symm, rfl⟩
        · go_round
          case rel => exact ⟨g, z + 1, k + 1, by omega, by go_num, by go_num, by go_num, by omega, by omega, by omega, next_seg (h := hlt) H ‹_› ‹_›⟩
          case measure => simp [intOf]; omega
        · rw [Exit.noGoto_ret]; go_ret
          exact ⟨ret_int (bad3 (h := hlt) H2 H ‹_› ‹_›).symm, rfl⟩
        · rw [Exit.noGoto_ret]; go_ret
          exact ⟨ret_int (bad4 (h := hlt) H2 H ‹_› ‹_›).symm, rfl⟩
      · have he : s.size = k := by omega
        have hd := Lib.hid (depth_end H2 H he); clear he
        by_cases hz0 : z = 0
        · subst hz0
          go_wp2
          try rw [Exit.noGoto_ret]
          go_ret
          exact ⟨ret_int hd.out.symm, rfl⟩
        · have hz1 : ((z : Int) == 0) = false := by simpa using hz0
          rw [if_neg hz0] at hd
          clear hz0
          go_wp2
          try rw [Exit.noGoto_ret]
          go_ret
          exact ⟨ret_int hd.out.symm, rfl⟩

set_option maxHeartbeats 400000 in
theorem Valid_any (s : ByteArray) (w : World) (hs : s.size ≤ 9223372036854775807) :
    Calls Tryd.prog 36 #[.string s] w fun e w' => e = .returned (.bool (PM.okB s.data.toList)) ∧ w = w' := by
  go_enter Tryd.func36, Tryd.ntmps36
  go_wp2_with (go_at_call 49; refine (Depth_any _ _ hs).mono ?_; rintro e w' ⟨rfl, rfl⟩)
  go_ret
  exact ⟨ret_bool (PM.depth_nonneg _), rfl⟩

end Go.Proofs.YtpfljooceppcbaaDoor
