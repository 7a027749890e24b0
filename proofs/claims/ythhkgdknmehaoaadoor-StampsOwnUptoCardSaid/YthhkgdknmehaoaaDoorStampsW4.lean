/- The document's own answers of layer 4 on lists: the next stamp. -/
import Derived.Test.YthhkgdknmehaoaaDoorStampsW3
namespace Go.Proofs.YthhkgdknmehaoaaDoor
open Go.RowKit
set_option linter.unusedVariables false
/-- A number stored in what a call has grown. -/
theorem Grew.set {w w1 : World} {l : List Int} {g cap k : Nat} (y : Int) (h : Grew w l (.slice (some ⟨g, 0, none⟩) l.length cap) w1) (hg : w.heap.size ≤ g) : Grew w (l.set k y) (.slice (some ⟨g, 0, none⟩) l.length cap) (w1.setCell ⟨g, k, none⟩ (.int .i64 y)) := by
  have e := (h.1.stored k (.int .i64 y)).1
  have e2 : (i64s l).set k (.int .i64 y) = i64s (l.set k y) := by
    unfold i64s
    rw [List.map_set]
    rfl
  rw [e2] at e
  refine ⟨?_, h.2.setCell (p := ⟨g, k, none⟩) hg _⟩
  rw [List.length_set]
  exact e
theorem next_nil {l : List Int} (h : l.length = 0) : SM.next l = ([], 13) := by
  rw [List.length_eq_zero_iff] at h
  exact if_pos (.inr h)
theorem last_of {l : List Int} {k : Nat} {x : Int} (h : l.length = k + 1) (hx : l[k]? = some x) : SM.last l = x := by
  unfold SM.last
  rw [List.getLastD_eq_getLast?, List.getLast?_eq_getElem?, h, Nat.add_sub_cancel, hx]
  rfl
theorem next_top {l : List Int} {k : Nat} (hv : SM.valid l = true) (h : l.length = k + 1) (hx : l[k]? = some 1099511627776) : SM.next l = ([], 66) := by
  have hne : l ≠ [] := fun e => by rw [e] at h; cases h
  unfold SM.next
  rw [if_neg (by rw [hv]; simp [hne]), if_pos (last_of h hx)]
theorem next_ok {l : List Int} {k : Nat} {x : Int} (hv : SM.valid l = true) (h : l.length = k + 1) (hx : l[k]? = some x) (hn : x ≠ 1099511627776) : SM.next l = (l.set k (x + 1), 0) := by
  have hne : l ≠ [] := fun e => by rw [e] at h; cases h
  have e := last_of h hx
  unfold SM.next
  rw [if_neg (by rw [hv]; simp [hne]), e, if_neg hn]
  have hs := SM.snoc_of hne
  have hd : l.dropLast.length = k := by rw [List.length_dropLast, h]; rfl
  have e3 : l.set k (x + 1) = (l.dropLast ++ [SM.last l]).set k (x + 1) := by rw [← hs]
  rw [e3, List.set_append_right _ _ (by omega), hd, Nat.sub_self]
  rfl
set_option maxHeartbeats 1000000 in
theorem RefNext_any (A : Option Addr) (c : Nat) (l : List Int) (w : World) (hA : IntsAt w A l) (hl : l.length ≤ c) (hc : c ≤ 9223372036854775807) :
    Calls Tryd.prog 25 #[.slice A l.length c] w fun e w' => ∃ v, e = .returned (.tuple #[v, .int .i64 (SM.next l).2]) ∧ Grew w (SM.next l).1 v w' := by
  have HA := Lib.hid hA
  have HV := Lib.hid (RefValid_any A c l w hA hl hc)
  cases hv : SM.valid l with
  | false =>
    have HE := Lib.hid (show SM.next l = ([], 13) from if_pos (.inl hv))
    rw [hv] at HV
    clear hv hA
    go_enter Tryd.func25, Tryd.ntmps25
    go_wp2_with fail
    refine HV.out.mono ?_
    rintro x w2 ⟨rfl, rfl⟩
    go_wp2_with fail
    go_ret2
    exact ⟨_, two_back rfl (by rw [HE.out]), by rw [HE.out]; exact Grew.nil w⟩
  | true =>
    rw [hv] at HV
    have h4 := (SM.valid_iff.1 hv).1
    have hcnt := (SM.valid_iff.1 hv).2
    cases hn : l.length with
    | zero =>
      have HE := Lib.hid (next_nil hn)
      rw [hn] at HV
      clear hv hA hn
      go_enter Tryd.func25, Tryd.ntmps25
      go_wp2_with fail
      refine HV.out.mono ?_
      rintro x w2 ⟨rfl, rfl⟩
      go_wp2_with fail
      go_ret2
      exact ⟨_, two_back rfl (by rw [HE.out]), by rw [HE.out]; exact Grew.nil w⟩
    | succ k =>
      have hk : k < l.length := by omega
      have hx := hcnt l[k] (List.getElem_mem hk)
      obtain ⟨b, o, eA, _, hca⟩ := hA (by omega)
      have ca := hca k l[k] (List.getElem?_eq_getElem hk)
      have hkx : l[k]? = some l[k] := List.getElem?_eq_getElem hk
      have HX := Lib.hid (show (i64s l)[k]? = some (.int .i64 l[k]) by unfold i64s; rw [List.getElem?_map, List.getElem?_eq_getElem hk]; rfl)
      subst eA
      have HC := Lib.hid (RefCopy_any (some ⟨b, o, none⟩) c l w hA hl hc (by omega))
      rw [hn] at HV HC
      have hlc : k + 1 ≤ c := by omega
      clear hca hA hcnt
      generalize l[k] = x at ca hx hkx HX
      by_cases ht : x = 1099511627776
      · subst ht
        have HE := Lib.hid (next_top hv hn hkx)
        clear hv hn hx hl h4 hk hkx
        go_enter Tryd.func25, Tryd.ntmps25
        go_wp2_with fail
        refine HV.out.mono ?_
        rintro x w2 ⟨rfl, rfl⟩
        go_wp2_with fail
        go_ret2
        exact ⟨_, two_back rfl (by rw [HE.out]), by rw [HE.out]; exact Grew.nil w⟩
      · have HE := Lib.hid (next_ok hv hn hkx ht)
        have hd : (x == 1099511627776) = false := by simpa using ht
        have HN := Lib.hid hn
        clear hv hn ht hl h4 hk hkx
        go_enter Tryd.func25, Tryd.ntmps25
        go_wp2_with fail
        refine HV.out.mono ?_
        rintro z w2 ⟨rfl, rfl⟩
        go_wp2_with fail
        refine HC.out.mono ?_
        rintro z w3 ⟨v, rfl, hG⟩
        have hG1 := hG.1
        obtain ⟨g, cap, hv, hg, hgl⟩ := hG1.form (by rw [HN.out]; omega)
        subst hv
        have hcell : w3.cell? ⟨g, k, none⟩ = some (.int .i64 x) := (hG1.cellAt k (by rw [HN.out]; omega)).trans HX.out
        have hfr : w3.frozen? ⟨g, k, none⟩ = false := hG1.frozenAt k
        have HG := Lib.hid (hG.set (k := k) (x + 1) hg)
        clear hG hG1
        rw [HN.out] at HG
        rw [HN.out]
        go_wp2_with fail
        go_ret2
        exact ⟨_, two_back rfl (by rw [HE.out]), by rw [HE.out]; exact HG.out⟩
end Go.Proofs.YthhkgdknmehaoaaDoor
