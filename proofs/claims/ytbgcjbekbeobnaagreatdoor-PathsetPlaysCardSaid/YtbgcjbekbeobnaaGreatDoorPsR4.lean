/- The document's own answers of layer 5: what is dropped; numbers laid in order. -/
import Derived.Test.YtbgcjbekbeobnaaGreatDoorPsR3
namespace Go.Proofs.YtbgcjbekbeobnaaGreatDoor
open Go.RowKit
open SE (Ent)
set_option linter.unusedVariables false
set_option maxRecDepth 100000
theorem drop_step {l : List Ent} {id : Int} {k : Nat} (h : k < l.length) : SE.drop (l.take (k + 1)) id = if l[k].id = id then SE.drop (l.take k) id else SE.drop (l.take k) id ++ [l[k]] := by
  unfold SE.drop
  rw [List.take_add_one, List.getElem?_eq_getElem h, Option.toList_some, List.filter_append]
  split
  · rename_i he
    rw [List.filter_cons_of_neg (by simpa using he), List.filter_nil, List.append_nil]
  · rename_i he
    rw [List.filter_cons_of_pos (by simpa using he), List.filter_nil]
theorem drop_has (l : List Ent) (id : Int) : decide ((SE.drop l id).length < l.length) = SE.has l id := by
  cases h : SE.has l id with
  | false =>
    have hn := SE.has_no h
    refine decide_eq_false ?_
    have e : SE.drop l id = l := List.filter_eq_self.2 fun x hx => by simpa using hn x hx
    rw [e]; omega
  | true =>
    obtain ⟨e, he, hid⟩ := SE.has_iff.1 h
    refine decide_eq_true ?_
    unfold SE.drop
    refine List.length_filter_lt_length_iff_exists.2 ⟨e, he, by simpa using hid⟩
set_option maxHeartbeats 2000000 in
theorem RefDrop_any (A : Option Addr) (c : Nat) (l : List Ent) (id : Int) (w : World) (hA : EntsAt w A l) (hl : l.length ≤ c) (hc : c ≤ 9223372036854775807) (h64 : l.length ≤ 64) :
    Calls Tryz.prog 17 #[.slice A l.length c, .int .i64 id] w (TwoE A w (SE.drop l id) (.bool (SE.has l id))) := by
  have HA := Lib.hid hA; clear hA
  have HD := Lib.hid (drop_has l id)
  rw [← HD.out]
  go_enter Tryz.func17, Tryz.ntmps17
  go_wp2_with fail
  go_loopw [6, 7] (fun v i wx => ∃ k : Nat, i = .int .i64 (k : Int) ∧ k ≤ l.length ∧ Hid (GrewE w (SE.drop (l.take k) id) v wx)) (fun _ i _ => l.length - (intOf i).toNat)
  case atStart => exact ⟨0, rfl, by omega, Lib.hid (by rw [List.take_zero]; exact GrewE.nil w)⟩
  case round =>
    obtain ⟨k, rfl, hk, HG⟩ := hrel
    by_cases hlt : k < l.length
    · obtain ⟨b, o, eA, hb, hca⟩ := HA.out (by omega)
      subst eA
      obtain ⟨x0, x1, x2, x3⟩ := (hca k l[k] (List.getElem?_eq_getElem hlt)).below hb HG.out.2
      have HS := Lib.hid (drop_step (id := id) hlt)
      have HL := Lib.hid (show ((SE.drop (l.take k) id).length + 1) * 40 ≤ 140737488355328 by
        have := (SE.drop_sublist (l.take k) id).length_le
        rw [List.length_take] at this
        omega)
      clear hca
      generalize l[k] = x at x0 x1 x2 x3 HS
      by_cases he : x.id = id
      · have HS := Lib.hid (show SE.drop (l.take (k + 1)) id = SE.drop (l.take k) id from HS.out.trans (if_pos he))
        rw [he] at x0
        clear he
        go_wp2_with fail
        go_roundw
        case rel => exact ⟨k + 1, rfl, by omega, Lib.hid (by rw [HS.out]; exact HG.out)⟩
        case measure => simp only [intOf]; omega
      · have HS := Lib.hid (show SE.drop (l.take k) id ++ [x] = SE.drop (l.take (k + 1)) id from (HS.out.trans (if_neg he)).symm)
        have hd : (x.id == id) = false := by simpa using he
        go_wp2_with (at_builtin; refine app_ent rfl (.tmp 21) (.tmp 26) rfl _ _ HG.out rfl x rfl HL.out ?_; intro v2 w5 hg2; rw [HS.out] at hg2; have HG5 := Lib.hid hg2; clear hg2)
        go_wp2_with fail
        go_roundw
        case rel => exact ⟨k + 1, rfl, by omega, HG5⟩
        case measure => simp only [intOf]; omega
    · have hG := HG.out
      rw [List.take_of_length_le (show l.length ≤ k by omega)] at hG
      obtain ⟨C, cc, rfl, k1, k2⟩ := own_shapeE hG.1
      have HGF := Lib.hid hG
      clear hG HG
      generalize hn : (SE.drop l id).length = n at *
      have HN := Lib.hid hn; clear hn
      go_wp2_with fail
      go_ret2
      exact ⟨C, n, cc, rfl, HN.out.symm, EntsAt.own (by have := HGF.out.1; rw [HN.out] at this; exact this), k1, k2, HGF.out.2, .inr fun ad h => own_fresh HGF.out.1 h⟩
/-! Numbers laid in order, in place. -/
theorem i64_at {l : List Int} {i : Nat} {x : Int} (h : l[i]? = some x) : (i64s l)[i]? = some (.int .i64 x) := by unfold i64s; rw [List.getElem?_map, h]; rfl
theorem rise_more {l : List Int} {i : Nat} (h : i < l.length) : SE.rise (l.take (i + 1)) = SE.insI (SE.rise (l.take i)) l[i] := by
  unfold SE.rise
  rw [List.take_add_one, List.getElem?_eq_getElem h, Option.toList_some, List.foldl_append]
  rfl
theorem insI_at {S : List Int} {x : Int} {k : Nat} (hk : k ≤ S.length) (h1 : ∀ y ∈ S.take k, y ≤ x) (h2 : ∀ y ∈ S.drop k, x < y) : SE.insI S x = S.take k ++ x :: S.drop k := by
  have e1 : S = S.take k ++ S.drop k := (List.take_append_drop k S).symm
  have hd : (S.drop k).takeWhile (fun y => decide (y ≤ x)) = [] := by
    cases hd : S.drop k with
    | nil => rfl
    | cons y r =>
      have := h2 y (by rw [hd]; simp)
      rw [List.takeWhile_cons, if_neg (by simpa using this)]
  have hd2 : (S.drop k).dropWhile (fun y => decide (y ≤ x)) = S.drop k := by
    have h3 := List.takeWhile_append_dropWhile (p := fun y => decide (y ≤ x)) (l := S.drop k)
    rw [hd, List.nil_append] at h3
    exact h3
  unfold SE.insI
  conv => lhs; rw [e1]
  rw [List.takeWhile_append_of_pos (fun y hy => by simpa using h1 y hy), List.dropWhile_append_of_pos (fun y hy => by simpa using h1 y hy), hd, hd2, List.append_nil]
/-- The list while a number sinks: it stands at place k of those before it. -/
def sink (S : List Int) (x : Int) (R : List Int) (k : Nat) : List Int := S.take k ++ x :: (S.drop k ++ R)
theorem sink_len {S : List Int} {x : Int} {R : List Int} {k : Nat} (hk : k ≤ S.length) : (sink S x R k).length = S.length + 1 + R.length := by
  unfold sink
  simp only [List.length_append, List.length_cons, List.length_take, List.length_drop]
  omega
theorem sink_at {S : List Int} {x : Int} {R : List Int} {k : Nat} (hk : k ≤ S.length) : (sink S x R k)[k]? = some x := by
  unfold sink
  rw [List.getElem?_append_right (by rw [List.length_take]; omega), List.length_take, show k - min k S.length = 0 by omega]
  rfl
theorem sink_prev {S : List Int} {x : Int} {R : List Int} {k : Nat} (hk : k + 1 ≤ S.length) : (sink S x R (k + 1))[k]? = some S[k] := by
  unfold sink
  rw [List.getElem?_append_left (by rw [List.length_take]; omega), List.getElem?_take, if_pos (by omega), List.getElem?_eq_getElem (by omega)]
theorem sink_step {S : List Int} {x : Int} {R : List Int} {k : Nat} (hk : k + 1 ≤ S.length) : ((sink S x R (k + 1)).set (k + 1) S[k]).set k x = sink S x R k := by
  have hlt : k < S.length := by omega
  have e1 : S.take (k + 1) = S.take k ++ [S[k]] := by rw [List.take_add_one, List.getElem?_eq_getElem hlt]; rfl
  have e2 : S.drop k = S[k] :: S.drop (k + 1) := List.drop_eq_getElem_cons hlt
  have hl : (S.take k).length = k := by rw [List.length_take]; omega
  unfold sink
  rw [e1, e2, List.append_assoc, List.set_append_right _ _ (by omega), hl, show k + 1 - k = 1 by omega, List.set_append_right _ _ (by omega), hl, Nat.sub_self]
  rfl
set_option maxHeartbeats 4000000 in
theorem sorted_own {w w1 : World} {xs : List Int} {v : Value} (h : Grew w xs v w1) (hl : xs.length ≤ 1048576) :
    Calls Tryz.prog 44 #[v] w1 fun e w' => e = .returned v ∧ Grew w (SE.rise xs) v w' := by
  have HG := Lib.hid h
  obtain ⟨A, c, rfl, hc1, hc2⟩ := own_shape h.1
  clear h
  generalize hn : xs.length = n at *
  have HN := Lib.hid hn; clear hn
  have HG0 := Lib.hid (show w1.ownsRow w.heap.size 3 1 (.slice A n c) n (i64s xs) by have := HG.out.1; rw [HN.out] at this; exact this)
  go_enter Tryz.func44, Tryz.ntmps44
  go_wp2_with fail
  go_loopw [3] (fun i wx => ∃ i0 : Nat, i = .int .i64 (i0 : Int) ∧ 1 ≤ i0 ∧ (i0 ≤ n ∨ i0 = 1) ∧ Hid (wx.ownsRow w.heap.size 3 1 (.slice A n c) n (i64s (SE.rise (xs.take i0) ++ xs.drop i0))) ∧ Hid (Below w.heap.size w wx)) (fun i _ => n - (intOf i).toNat)
  case atStart =>
    refine ⟨1, rfl, by omega, .inr rfl, Lib.hid ?_, Lib.hid HG.out.2⟩
    have e : SE.rise (xs.take 1) ++ xs.drop 1 = xs := by
      cases xs with
      | nil => rfl
      | cons x r => rfl
    rw [e]
    exact HG0.out
  case round =>
    obtain ⟨i0, rfl, hi1, hi2, HO, HW⟩ := hrel
    by_cases hlt : i0 < n
    · have g1 : i0 < xs.length := by rw [HN.out]; exact hlt
      have hSl : (SE.rise (xs.take i0)).length = i0 := by rw [SE.rise_len, List.length_take]; omega
      have HSR := Lib.hid (SE.rise_rises (xs.take i0))
      have HRM := Lib.hid (rise_more g1)
      have HDR := Lib.hid (show xs.drop i0 = xs[i0] :: xs.drop (i0 + 1) from List.drop_eq_getElem_cons g1)
      obtain ⟨S, hS⟩ : ∃ S, SE.rise (xs.take i0) = S := ⟨_, rfl⟩
      rw [hS] at hSl HSR HRM HO
      have HSL := Lib.hid hSl
      clear hS hSl
      generalize xs[i0] = x at HRM HDR
      rw [HDR.out] at HO
      obtain ⟨g, cap, hv, hg, hgl⟩ := HO.out.form (by omega)
      injection hv with hv _ hc'
      subst hv
      subst hc'
      clear g1
      go_wp2_with fail
      go_loopw [4] (fun q wx => ∃ k : Nat, q = .int .i64 (k : Int) ∧ k ≤ i0 ∧ Hid (wx.ownsRow w.heap.size 3 1 (.slice (some ⟨g, 0, none⟩) n c) n (i64s (sink S x (xs.drop (i0 + 1)) k))) ∧ Hid (∀ y ∈ S.drop k, x < y) ∧ Hid (Below w.heap.size w wx)) (fun q _ => (intOf q).toNat)
      case atStart =>
        refine ⟨i0, rfl, Nat.le_refl _, Lib.hid ?_, Lib.hid ?_, HW⟩
        · have e : sink S x (xs.drop (i0 + 1)) i0 = S ++ x :: xs.drop (i0 + 1) := by
            unfold sink
            rw [List.take_of_length_le (by rw [HSL.out]; exact Nat.le_refl _), List.drop_of_length_le (by rw [HSL.out]; exact Nat.le_refl _)]
            rfl
          rw [e]
          exact HO.out
        · intro y hy
          rw [List.drop_of_length_le (by rw [HSL.out]; exact Nat.le_refl _)] at hy
          cases hy
      case round =>
        clear HO HW
        obtain ⟨k, rfl, hk, HO, HD, HW⟩ := hrel
        cases k with
        | zero =>
          have HT : ∀ y ∈ S.take 0, y ≤ x := by simp
          go_wp2_with fail
          go_quiet (fail)
          have HO2 := Lib.hid (show (wr.drewN nq).ownsRow w.heap.size 3 1 (.slice (some ⟨g, 0, none⟩) n c) n (i64s (sink S x (xs.drop (i0 + 1)) 0)) from HO.out)
          have HW2 := Lib.hid (below_drewN HW.out nq)
          have HE := Lib.hid (show sink S x (xs.drop (i0 + 1)) 0 = SE.rise (xs.take (i0 + 1)) ++ xs.drop (i0 + 1) by
            rw [HRM.out, insI_at (k := 0) (by rw [HSL.out]; omega) HT HD.out]
            unfold sink
            rw [List.append_assoc]; rfl)
          go_wp2_with fail
          go_roundw
          case rel => exact ⟨i0 + 1, rfl, by omega, .inl (by omega), Lib.hid (by rw [← HE.out]; exact HO2.out), HW2⟩
          case measure => simp only [intOf]; omega
        | succ k =>
          have hks : k < S.length := by rw [HSL.out]; omega
          have p0 := (HO.out.cellAt k (by omega)).trans (i64_at (sink_prev (x := x) (R := xs.drop (i0 + 1)) (by omega)))
          have p1 := (HO.out.cellAt (k + 1) (by omega)).trans (i64_at (sink_at (S := S) (R := xs.drop (i0 + 1)) (by omega)))
          have hf0 : wr.frozen? ⟨g, k, none⟩ = false := HO.out.frozenAt k
          have hf1 : wr.frozen? ⟨g, k + 1, none⟩ = false := HO.out.frozenAt (k + 1)
          have hdk : decide ((0 : Int) < ((k : Int) + 1)) = true := decide_eq_true (by omega)
          have HST := Lib.hid (sink_step (x := x) (R := xs.drop (i0 + 1)) (show k + 1 ≤ S.length by omega))
          have HSK := Lib.hid (show S.drop k = S[k] :: S.drop (k + 1) from List.drop_eq_getElem_cons hks)
          have HTK := Lib.hid (show S[k] ≤ x → ∀ y ∈ S.take (k + 1), y ≤ x from fun hle y hy => by
            obtain ⟨j, hj, rfl⟩ := List.getElem_of_mem hy
            rw [List.length_take] at hj
            rw [List.getElem_take]
            by_cases e : j = k
            · subst e; exact hle
            · have := List.pairwise_iff_getElem.1 HSR.out j k (by omega) hks (by omega)
              omega)
          generalize S[k] = y at p0 HST HSK HTK
          by_cases hyx : x < y
          · have HD1 := Lib.hid (show ∀ z ∈ S.drop k, x < z from fun z hz => by
              rw [HSK.out] at hz
              rcases List.mem_cons.1 hz with rfl | hz
              · exact hyx
              · exact HD.out z hz)
            go_wp2_with fail
            go_quiet (fail)
            have HO2 : (wr.drewN nq).ownsRow w.heap.size 3 1 (.slice (some ⟨g, 0, none⟩) n c) n (i64s (sink S x (xs.drop (i0 + 1)) (k + 1))) := HO.out
            have hO1 := (HO2.stored (k + 1) (.int .i64 y)).1
            have HO1 := Lib.hid (hO1.stored k (.int .i64 x)).1
            have HW1 := Lib.hid (((below_drewN HW.out nq).setCell (p := ⟨g, k + 1, none⟩) hg (.int .i64 y)).setCell (p := ⟨g, k, none⟩) hg (.int .i64 x))
            have HEQ := Lib.hid (show ((i64s (sink S x (xs.drop (i0 + 1)) (k + 1))).set (k + 1) (.int .i64 y)).set k (.int .i64 x) = i64s (sink S x (xs.drop (i0 + 1)) k) by
              rw [← HST.out]
              unfold i64s
              rw [List.map_set, List.map_set]; rfl)
            clear hO1 HO2
            go_wp2_with fail
            go_roundw
            case rel => exact ⟨k, rfl, by omega, Lib.hid (by rw [← HEQ.out]; exact HO1.out), HD1, HW1⟩
            case measure => simp only [intOf]; omega
          · have HT := HTK.out (by omega)
            go_wp2_with fail
            go_quiet (fail)
            have HO2 := Lib.hid (show (wr.drewN nq).ownsRow w.heap.size 3 1 (.slice (some ⟨g, 0, none⟩) n c) n (i64s (sink S x (xs.drop (i0 + 1)) (k + 1))) from HO.out)
            have HW2 := Lib.hid (below_drewN HW.out nq)
            have HE := Lib.hid (show sink S x (xs.drop (i0 + 1)) (k + 1) = SE.rise (xs.take (i0 + 1)) ++ xs.drop (i0 + 1) by
              rw [HRM.out, insI_at (k := (k + 1)) (by rw [HSL.out]; omega) HT HD.out]
              unfold sink
              rw [List.append_assoc]; rfl)
            go_wp2_with fail
            go_roundw
            case rel => exact ⟨i0 + 1, rfl, by omega, .inl (by omega), Lib.hid (by rw [← HE.out]; exact HO2.out), HW2⟩
            case measure => simp only [intOf]; omega
    · have hi0 : SE.rise (xs.take i0) ++ xs.drop i0 = SE.rise xs := by
        rw [List.take_of_length_le (by rw [HN.out]; omega), List.drop_of_length_le (by rw [HN.out]; omega), List.append_nil]
      rw [hi0] at HO
      have HRL := Lib.hid (show (SE.rise xs).length = n by rw [SE.rise_len, HN.out])
      clear hi0
      go_wp2_with fail
      go_ret
      exact ⟨rfl, by have := HO.out; unfold Grew; rw [HRL.out]; exact ⟨this, HW.out⟩⟩
end Go.Proofs.YtbgcjbekbeobnaaGreatDoor
