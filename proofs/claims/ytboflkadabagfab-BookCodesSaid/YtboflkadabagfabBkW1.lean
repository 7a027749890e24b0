/- Small questions of layer 11: counters, addresses, modes, terms, the last counter, whether two stamps are one. -/
import Derived.Test.YtboflkadabagfabBkMem
import Derived.Test.YtboflkadabagfabPaths
import Derived.Test.YtboflkadabagfabOctetsW4
namespace Go.Proofs.Ytboflkadabagfab
open Go.RowKit
open BM (Gr Rc Bk g0 r0 b0)
set_option linter.unusedVariables false
set_option linter.unusedSimpArgs false
set_option maxRecDepth 100000
theorem b_isNode (n : Int) (w : World) : Calls Try.prog 89 #[.int .i64 n] w fun e w' => e = .returned (.bool (WM.node n)) ∧ w = w' := by
  have HE := Lib.hid (show WM.node n = (decide (0 ≤ n) && decide (n < 8)) from rfl)
  go_enter Try.func89, Try.ntmps89
  go_wp2_with fail
  all_goals
    go_ret
    exact ⟨ret_bool (by rw [HE.out]; simp; try omega), rfl⟩
theorem b_isCounter (n : Int) (w : World) : Calls Try.prog 72 #[.int .i64 n] w fun e w' => e = .returned (.bool (SM.count n)) ∧ w = w' := by
  have HE := Lib.hid (show SM.count n = (decide (1 ≤ n) && decide (n ≤ 1099511627776)) from rfl)
  go_enter Try.func72, Try.ntmps72
  go_wp2_with fail
  all_goals
    go_ret
    exact ⟨ret_bool (by rw [HE.out]; simp; try omega), rfl⟩
theorem r_counter (n : Int) (w : World) : Calls Try.prog 51 #[.int .i64 n] w fun e w' => e = .returned (.bool (SM.count n)) ∧ w = w' := by
  have HE := Lib.hid (show SM.count n = (decide (1 ≤ n) && decide (n ≤ 1099511627776)) from rfl)
  go_enter Try.func51, Try.ntmps51
  go_wp2_with fail
  all_goals
    go_ret
    exact ⟨ret_bool (by rw [HE.out]; simp; try omega), rfl⟩
theorem b_isNext (n : Int) (w : World) : Calls Try.prog 32 #[.int .i64 n] w fun e w' => e = .returned (.bool (BM.isNext n)) ∧ w = w' := by
  have HE := Lib.hid (show BM.isNext n = (decide (1 ≤ n) && decide (n ≤ 1099511627777)) from rfl)
  go_enter Try.func32, Try.ntmps32
  go_wp2_with fail
  all_goals
    go_ret
    exact ⟨ret_bool (by rw [HE.out]; simp; try omega), rfl⟩
theorem b_isBoots (n : Int) (w : World) : Calls Try.prog 33 #[.int .i64 n] w fun e w' => e = .returned (.bool (BM.isBoots n)) ∧ w = w' := by
  have HE := Lib.hid (show BM.isBoots n = (decide (0 ≤ n) && decide (n ≤ 1099511627776)) from rfl)
  go_enter Try.func33, Try.ntmps33
  go_wp2_with fail
  all_goals
    go_ret
    exact ⟨ret_bool (by rw [HE.out]; simp; try omega), rfl⟩
theorem b_isMode (n : Int) (w : World) : Calls Try.prog 91 #[.int .i64 n] w fun e w' => e = .returned (.bool (WM.okMode n)) ∧ w = w' := by
  have HE := Lib.hid (show WM.okMode n = (decide (n = 1) || decide (n = 2)) from rfl)
  by_cases h1 : n = 1
  · subst h1
    go_enter Try.func91, Try.ntmps91
    go_wp2_with fail
    go_ret
    exact ⟨rfl, rfl⟩
  · have d1 : (n == 1) = false := by simpa using h1
    have HF := Lib.hid (show WM.okMode n = (n == 2) by rw [HE.out, decide_eq_false h1, Bool.false_or, Bool.eq_iff_iff]; simp)
    clear h1
    go_enter Try.func91, Try.ntmps91
    go_wp2_with fail
    go_ret
    exact ⟨ret_bool HF.out.symm, rfl⟩
theorem b_isLongest (n : Int) (w : World) (hn : In64 n) : Calls Try.prog 34 #[.int .i64 n] w fun e w' => e = .returned (.bool (BM.isLongest n)) ∧ w = w' := by
  have HE := Lib.hid (show BM.isLongest n = (decide (n = 0) || TM.legal n) from rfl)
  by_cases h1 : n = 0
  · subst h1
    go_enter Try.func34, Try.ntmps34
    go_wp2_with fail
    go_ret
    exact ⟨rfl, rfl⟩
  · have d1 : (n == 0) = false := by simpa using h1
    have HF := Lib.hid (show BM.isLongest n = TM.legal n by rw [HE.out, decide_eq_false h1, Bool.false_or])
    have HN := Lib.hid hn
    clear h1 hn
    go_enter Try.func34, Try.ntmps34
    go_wp2_with (go_at_call 68; refine (Legal_any _ _ HN.out).mono ?_; rintro x w9 ⟨rfl, rfl⟩)
    go_ret
    exact ⟨ret_bool HF.out.symm, rfl⟩
/-- The last counter. -/
theorem last_get {l : List Int} (h : l ≠ []) : l[l.length - 1]? = some (BM.last l) := by
  unfold BM.last
  rw [List.getLastD_eq_getLast?, List.getLast?_eq_getElem?]
  have h0 : l.length - 1 < l.length := by have := List.length_pos_iff.2 h; omega
  rw [List.getElem?_eq_getElem h0]
  rfl
set_option maxHeartbeats 1000000 in
theorem b_last (u : Value) (l : List Int) (w : World) (h : HdI w u l) (h0 : l ≠ []) : Calls Try.prog 70 #[u] w fun e w' => e = .returned (.int .i64 (BM.last l)) ∧ w = w' := by
  obtain ⟨A, c, rfl, hs⟩ := h
  have hp := List.length_pos_iff.2 h0
  obtain ⟨b, o, eA, _, hc⟩ := hs.ints hp
  have h5 := hs.le
  have h6 := hs.cap
  have k0 := hc _ _ (last_get h0)
  subst eA
  clear hc hs h0
  obtain ⟨n, hn⟩ : ∃ n, l.length = n + 1 := ⟨l.length - 1, by omega⟩
  rw [hn] at k0 h5 ⊢
  rw [Nat.add_sub_cancel] at k0
  clear hn hp
  generalize BM.last l = x at k0 ⊢
  go_enter Try.func70, Try.ntmps70
  go_wp2_with fail
  go_ret
  exact ⟨rfl, rfl⟩
set_option maxHeartbeats 1000000 in
theorem r_last (u : Value) (l : List Int) (w : World) (h : HdI w u l) : Calls Try.prog 50 #[u] w fun e w' => e = .returned (.int .i64 (BM.last l)) ∧ w = w' := by
  obtain ⟨A, c, rfl, hs⟩ := h
  by_cases h0 : l = []
  · subst h0
    go_enter Try.func50, Try.ntmps50
    go_wp2_with fail
    go_ret
    exact ⟨rfl, rfl⟩
  have hp := List.length_pos_iff.2 h0
  obtain ⟨b, o, eA, _, hc⟩ := hs.ints hp
  have h5 := hs.le
  have h6 := hs.cap
  have k0 := hc _ _ (last_get h0)
  subst eA
  clear hc hs h0
  obtain ⟨n, hn⟩ : ∃ n, l.length = n + 1 := ⟨l.length - 1, by omega⟩
  rw [hn] at k0 h5 ⊢
  rw [Nat.add_sub_cancel] at k0
  clear hn hp
  generalize BM.last l = x at k0 ⊢
  go_enter Try.func50, Try.ntmps50
  go_wp2_with fail
  go_ret
  exact ⟨rfl, rfl⟩
set_option maxHeartbeats 1000000 in
theorem b_isGrantStamp (u : Value) (l : List Int) (w : World) (h : HdI w u l) : Calls Try.prog 73 #[u] w fun e w' => e = .returned (.bool (BM.isStamp l)) ∧ w = w' := by
  obtain ⟨A, c, rfl, hs⟩ := h
  have HS := Lib.hid hs
  clear hs
  by_cases h0 : l = []
  · subst h0
    go_enter Try.func73, Try.ntmps73
    go_wp2_with fail
    go_ret
    exact ⟨rfl, rfl⟩
  · have hp := List.length_pos_iff.2 h0
    have HF := Lib.hid (show BM.isStamp l = SM.valid l by unfold BM.isStamp; rw [decide_eq_true h0, Bool.true_and])
    clear h0
    go_enter Try.func73, Try.ntmps73
    go_wp2_with (go_at_call 92; refine (St.Valid_any A c l _ HS.out.ints HS.out.le HS.out.cap).mono ?_; rintro x w9 ⟨rfl, rfl⟩)
    go_ret
    exact ⟨ret_bool HF.out.symm, rfl⟩
set_option maxHeartbeats 2000000 in
theorem Equal_any (A B : Option Addr) (c d : Nat) (a b : List Int) (w : World) (hA : IntsAt w A a) (hB : IntsAt w B b) (ha : a.length ≤ c) (hb : b.length ≤ d) (hc : c ≤ 9223372036854775807) (hd : d ≤ 9223372036854775807) :
    Calls Try.prog 71 #[.slice A a.length c, .slice B b.length d] w fun e w' => e = .returned (.bool (decide (a = b))) ∧ Below w.heap.size w w' := by
  have HA := Lib.hid hA; clear hA
  have HB := Lib.hid hB; clear hB
  by_cases hlen : a.length = b.length
  · go_enter Try.func71, Try.ntmps71
    rw [← hlen]
    go_wp2_with fail
    go_loopw [5, 13] (fun _ i wx => ∃ k : Nat, i = .int .i64 (k : Int) ∧ k ≤ a.length ∧ Below w.heap.size w wx ∧ Hid (a.take k = b.take k)) (fun _ i _ => a.length - (intOf i).toNat)
    case atStart => exact ⟨0, rfl, by omega, Below.refl _ _, Lib.hid (by rw [List.take_zero, List.take_zero])⟩
    case round =>
      obtain ⟨k, rfl, hk, hW, HT⟩ := hrel
      have HW := Lib.hid hW; clear hW
      by_cases hlt : k < a.length
      · have hltb : k < b.length := by omega
        obtain ⟨ba, oa, eA, _, hca⟩ := (HA.out.below HW.out) (by omega)
        obtain ⟨bb, ob, eB, _, hcb⟩ := (HB.out.below HW.out) (by omega)
        subst eA
        subst eB
        have ca := hca k a[k] (List.getElem?_eq_getElem hlt)
        have cb := hcb k b[k] (List.getElem?_eq_getElem hltb)
        clear hca hcb
        by_cases he : a[k] = b[k]
        · have HS := Lib.hid (take_same HT.out hlt hltb he)
          rw [← he] at cb
          clear he
          generalize a[k] = x at ca cb
          go_wp2_with fail
          go_region
          all_goals
            go_wp2
            go_roundw
            case rel => exact ⟨k + 1, rfl, by omega, HW.out.drew, HS⟩
            case measure => simp only [intOf]; omega
        · have HN := Lib.hid (take_not hlt hltb he)
          have hd2 : (a[k] == b[k]) = false := by simpa using he
          have hd3 : (a[k] != b[k]) = true := by simpa using he
          clear he
          generalize a[k] = x at ca hd2 hd3
          generalize b[k] = y at cb hd2 hd3
          go_wp2_with fail
          go_region
          all_goals
            go_wp2
            try rw [Exit.noGoto_ret]
            go_ret
            exact ⟨ret_bool (decide_eq_false HN.out).symm, HW.out.drew⟩
      · have HE := Lib.hid (show a = b by have := HT.out; rwa [List.take_of_length_le (by omega), List.take_of_length_le (by omega)] at this)
        go_wp2_with fail
        go_ret
        exact ⟨ret_bool (decide_eq_true HE.out).symm, HW.out⟩
  · go_enter Try.func71, Try.ntmps71
    go_wp2_with fail
    go_ret
    exact ⟨ret_bool (decide_eq_false (fun e => hlen (by rw [e]))).symm, Below.refl _ _⟩
theorem equal_hd (u v : Value) (a b : List Int) (w : World) (h : HdI w u a) (k : HdI w v b) :
    Calls Try.prog 71 #[u, v] w fun e w' => e = .returned (.bool (decide (a = b))) ∧ Below w.heap.size w w' := by
  obtain ⟨A, c, rfl, h⟩ := h
  obtain ⟨B, d, rfl, k⟩ := k
  exact Equal_any A B c d a b w h.ints k.ints h.le k.le h.cap k.cap
theorem same_hd (u v : Value) (a b : List Int) (w : World) (h : HdI w u a) (k : HdI w v b) :
    Calls Try.prog 29 #[u, v] w fun e w' => e = .returned (.bool (decide (a = b))) ∧ Below w.heap.size w w' := by
  obtain ⟨A, c, rfl, h⟩ := h
  obtain ⟨B, d, rfl, k⟩ := k
  exact SameInts_any A B c d a b w h.ints k.ints h.le k.le h.cap k.cap
theorem rvalid_hd (u : Value) (l : List Int) (w : World) (h : HdI w u l) : Calls Try.prog 52 #[u] w fun e w' => e = .returned (.bool (SM.valid l)) ∧ w = w' := by
  obtain ⟨A, c, rfl, h⟩ := h
  exact St.RefValid_any A c l w h.ints h.le h.cap
set_option maxHeartbeats 1000000 in
theorem BytesEqual_any (A B : Option Addr) (c d : Nat) (a b : List UInt8) (w : World) (hA : Oct.BytesAt w A a) (hB : Oct.BytesAt w B b) :
    Calls Try.prog 24 #[.slice A a.length c, .slice B b.length d] w fun e w' => e = .returned (.bool (decide (a = b))) ∧ w = w' := by
  have h1 := Oct.str_of (c := c) hA
  have h2 := Oct.str_of (c := d) hB
  clear hA hB
  go_enter Try.func24, Try.ntmps24
  go_wp2_with fail
  go_ret
  exact ⟨ret_bool (by rw [Bool.eq_iff_iff]; simp), rfl⟩
end Go.Proofs.Ytboflkadabagfab
