/- Over and Under of a set. -/
import Derived.Test.YtpfljooceppcbaaDoorPtAsk
namespace Go.Proofs.YtpfljooceppcbaaDoor
open Go.RowKit
open SE (Ent)
open PM (str)
open PT (blk ids set cut kidPairs lies Agrees segs)
set_option linter.unusedVariables false
set_option maxRecDepth 100000
/-- The numbers of a way's first k branches, one behind the other. -/
def wayIds (T : Tr) (ss : Way) (k : Nat) : List Int := (List.range k).flatMap fun j => ids T (ss.take j)
theorem wayIds_succ (T : Tr) (ss : Way) (k : Nat) : wayIds T ss (k + 1) = wayIds T ss k ++ ids T (ss.take k) := by
  unfold wayIds
  rw [List.range_succ, List.flatMap_append, List.flatMap_cons, List.flatMap_nil, List.append_nil]
theorem flat_perm {α β : Type} {f g : β → List α} : ∀ {ks : List β}, (∀ k ∈ ks, (f k).Perm (g k)) → (ks.flatMap f).Perm (ks.flatMap g)
  | [], _ => List.Perm.refl _
  | k :: r, h => by
    rw [List.flatMap_cons, List.flatMap_cons]
    exact (h k (by simp)).append (flat_perm fun j hj => h j (List.mem_cons_of_mem _ hj))
theorem way_perm {w : World} {T : Tr} {own : Owner} {L : List Ent} {ss : Way} {K : Nat} (hT : TreeAt w T own) (hA : Agrees T L) (hK : K ≤ ss.length) (hN : K < ss.length → T (ss.take (K + 1)) = none) :
    (wayIds T ss (K + 1)).Perm ((L.filter (fun e => (segs e).isPrefixOf ss)).map (·.id)) := by
  have h := PT.part_perm (fun e => (segs e).isPrefixOf ss) (fun _ => false) (fun k e => decide (segs e = ss.take k)) (List.range (K + 1)) List.nodup_range L (fun e he hf => ?_) (fun e he hf => ?_)
  · have h0 : L.filter (fun _ => false) = [] := by simp
    rw [h0, List.nil_append] at h
    refine List.Perm.trans ?_ (h.map _).symm
    rw [List.map_flatMap]
    unfold wayIds
    exact flat_perm fun k _ => hA (ss.take k)
  · right
    refine ⟨rfl, (segs e).length, ?_, ?_, fun j hj hne => ?_⟩
    · rw [List.mem_range]
      obtain ⟨t, ht⟩ := List.isPrefixOf_iff_prefix.1 hf
      refine Nat.lt_of_not_le fun hle => ?_
      have hl := congrArg List.length ht
      rw [List.length_append] at hl
      have hKs : K < ss.length := by omega
      have h1 := hN hKs
      have h2 := hA.there he
      have h3 : segs e = ss.take (K + 1) ++ (segs e).drop (K + 1) := by
        have : ss.take (K + 1) = (segs e).take (K + 1) := by rw [← ht, List.take_append_of_le_length hle]
        rw [this, List.take_append_drop]
      rw [h3] at h2
      have h4 := hT.isSome_prefix h2
      rw [h1] at h4
      cases h4
    · obtain ⟨t, ht⟩ := List.isPrefixOf_iff_prefix.1 hf
      simp [← ht]
    · rw [decide_eq_false_iff_not]
      intro e1
      obtain ⟨t, ht⟩ := List.isPrefixOf_iff_prefix.1 hf
      have hl := congrArg List.length e1
      rw [List.length_take] at hl
      rw [List.mem_range] at hj
      omega
  · refine ⟨rfl, fun k _ => ?_⟩
    rw [decide_eq_false_iff_not]
    intro e1
    rw [e1, List.isPrefixOf_iff_prefix.2 (List.take_prefix k ss)] at hf
    cases hf
theorem rise_congr {a b : List Int} (h : a.Perm b) : SE.rise a = SE.rise b := SE.rise_eq (SE.rise_rises a) ((SE.rise_perm a).trans h)
theorem over_list {L : List Ent} {q : List UInt8} (hI : SE.Inv L) (ho : PM.okB q = true) : (L.filter (fun e => (segs e).isPrefixOf (PM.segsOf q))).map (·.id) = (L.filter (fun e => PM.cov (SE.p e) q)).map (·.id) := by
  congr 1
  refine List.filter_congr fun e he => ?_
  unfold PM.cov PT.segs
  rw [hI.paths e he, ho]
  rfl
theorem under_list {L : List Ent} {q : List UInt8} (hI : SE.Inv L) (ho : PM.okB q = true) : lies L (PM.segsOf q) = (L.filter (fun e => PM.cov q (SE.p e))).map (·.id) := by
  unfold PT.lies
  congr 1
  refine List.filter_congr fun e he => ?_
  unfold PM.cov PT.segs
  rw [hI.paths e he, ho]
  rfl
theorem over_bad {L : List Ent} {q : List UInt8} (ho : PM.okB q = false) : SE.over L q = [] := by
  unfold SE.over
  have : L.filter (fun e => PM.cov (SE.p e) q) = [] := List.filter_eq_nil_iff.2 fun e _ => by unfold PM.cov; rw [ho]; simp
  rw [this]; rfl
theorem under_bad {L : List Ent} {q : List UInt8} (ho : PM.okB q = false) : SE.under L q = [] := by
  unfold SE.under
  have : L.filter (fun e => PM.cov q (SE.p e)) = [] := List.filter_eq_nil_iff.2 fun e _ => by unfold PM.cov; rw [ho]; simp
  rw [this]; rfl
theorem Sort_grew {w w1 : World} {xs : List Int} {v : Value} (h : Grew w xs v w1) (hl : xs.length ≤ 1048576) :
    Calls Tryd.prog 29 #[v] w1 fun e w' => e = .returned (.tuple #[]) ∧ Grew w (SE.rise xs) v w' :=
  (Sort_row h.1 hl).mono fun e w' ⟨h1, h2, h3⟩ => ⟨h1, h2, h.2.grown h3 h.2.size (fun k hk => (h.1.lt k hk).1)⟩
/-- The way is none: nothing is over it. -/
theorem over_none {w : World} {g : Option Addr} {q : ByteArray} (ht : Calls Tryd.prog 34 #[.pointer g, .string q] w fun e w' => e = .returned (.tuple #[.slice none 0 0, .pointer none]) ∧ Below w.heap.size w w') :
    Calls Tryd.prog 14 #[.pointer g, .string q] w (OneI w []) := by
  have HT := Lib.hid ht; clear ht
  go_enter Tryd.func14, Tryd.ntmps14
  go_wp2_with fail
  refine HT.out.mono ?_
  rintro e w1 ⟨rfl, hb⟩
  have HB := Lib.hid hb; clear hb
  go_wp2_with fail
  go_loopw [7, 9, 18] (fun v7 _ v18 wr => v18 = .int .i64 0 ∧ v7 = .slice none 0 0 ∧ Hid (wr = w1)) (fun _ _ _ _ => 0)
  case atStart => exact ⟨rfl, rfl, Lib.hid rfl⟩
  case round =>
    obtain ⟨rfl, rfl, HW⟩ := hrel
    have HC := Lib.hid (Sort_grew (Grew.nil wr) (by simp))
    go_wp2_with fail
    refine HC.out.mono ?_
    rintro e w2 ⟨rfl, hg⟩
    have HG := Lib.hid hg; clear hg
    go_wp2_with fail
    go_ret
    refine ⟨none, 0, 0, rfl, Lib.hid rfl, Lib.hid (IntsAt.nil _ _), Lib.hid ⟨rfl, .inl ⟨rfl, rfl⟩⟩, Lib.hid ?_, Nat.le_refl _, by omega⟩
    have := HG.out.2
    rw [HW.out] at this
    exact below_on HB.out this
set_option maxHeartbeats 2000000 in
theorem over_some {g M : Nat} {L D : List Ent} {T : Tr} {own : Owner} (q : ByteArray) (w : World) (hx : HasMax w) (ho : PM.okB q.data.toList = true) (hS : SetAt w g L T own M D) :
    Calls Tryd.prog 14 #[.pointer (some ⟨g, 0, none⟩), .string q] w (OneI w (SE.over L q.data.toList)) := by
  have HC := Lib.hid (trace_ok q w hx ho hS)
  have HP := Lib.hid (fun K h1 h2 => way_perm (K := K) (ss := PM.segsOf q.data.toList) hS.tree hS.agree h1 h2)
  have HO := Lib.hid (over_list (q := q.data.toList) hS.inv ho)
  have HS := Lib.hid hS
  have hL := hS.inv.len
  clear hS ho hx
  generalize hss : PM.segsOf q.data.toList = ss at HC HP HO
  go_enter Tryd.func14, Tryd.ntmps14
  go_wp2_with fail
  refine HC.out.mono ?_
  rintro e w1 ⟨K, A, c, rfl, hK, hall, hno, hown, hb⟩
  have HB := Lib.hid hb
  have HW := Lib.hid hown
  have HPK := Lib.hid (HP.out K hK hno)
  have HA := Lib.hid hall
  have hlen : (wayIds T ss (K + 1)).length ≤ 64 := by
    have h1 := HPK.out.length_eq
    rw [List.length_map] at h1
    have := List.length_filter_le (fun e => (segs e).isPrefixOf ss) L
    omega
  have hKA : ∃ b, A = some ⟨b, 0, none⟩ ∧ b < w1.heap.size ∧ ∀ j, j < K + 1 → w1.cell? ⟨b, j, none⟩ = some (.pointer (some ⟨blk T (ss.take j), 0, none⟩)) := by
    obtain ⟨b, cap, hv, _, hlt⟩ := hown.form (by omega)
    injection hv with hv
    subst hv
    refine ⟨b, rfl, hlt, fun j hj => ?_⟩
    have := hown.cells (g := b) rfl j _ (wayPtrs_at (T := T) (ss := ss) hj)
    rw [Addr.add_lit, Nat.zero_add] at this
    exact this
  obtain ⟨b, rfl, hblt, hca⟩ := hKA
  have HCA := Lib.hid hca
  have hcap : K + 1 ≤ c ∧ c ≤ 9223372036854775807 := by
    obtain ⟨_, _, e, h1, h2⟩ := own_shape hown
    injection e with _ _ e3
    subst e3
    exact ⟨h1, h2⟩
  obtain ⟨hcap1, hcap2⟩ := hcap
  clear hb hall hno hown hca
  generalize (if K = ss.length then ptrTo T ss else .pointer none) = endv
  go_wp2_with fail
  go_loopw [7, 9, 18] (fun v7 _ v18 wr => ∃ k : Nat, v18 = .int .i64 (k : Int) ∧ k ≤ K + 1 ∧ Hid (Grew w1 (wayIds T ss k) v7 wr)) (fun _ _ v18 _ => K + 1 - (intOf v18).toNat)
  case atStart => exact ⟨0, rfl, Nat.zero_le _, Lib.hid (Grew.nil w1)⟩
  case round =>
    obtain ⟨k, rfl, hk, HG⟩ := hrel
    by_cases hlt : k < K + 1
    · obtain ⟨n, hn⟩ := Option.isSome_iff_exists.1 (HA.out k (by omega))
      have hcell := (HG.out.2.cell (p := ⟨b, k, none⟩) hblt).trans (HCA.out k hlt)
      rw [PT.blk_some hn] at hcell
      have hN := (HS.out.tree.node _ n hn).below (HB.out.trans (HG.out.2.mono HB.out.size))
      have c0 := hN.cell0
      have HI := Lib.hid hN.intsAt
      have HSU := Lib.hid (show wayIds T ss (k + 1) = wayIds T ss k ++ n.ids by rw [wayIds_succ, PT.ids_some hn])
      have hle : (wayIds T ss k).length + n.ids.length ≤ 64 := by
        have h1 : (wayIds T ss (k + 1)).length ≤ (wayIds T ss (K + 1)).length := by
          obtain ⟨d, hd⟩ : ∃ d, K + 1 = k + 1 + d := ⟨K - k, by omega⟩
          rw [hd]
          unfold wayIds
          rw [show List.range (k + 1 + d) = List.range (k + 1) ++ (List.range d).map (fun x => k + 1 + x) from List.range_add, List.flatMap_append, List.length_append]
          omega
        rw [HSU.out, List.length_append] at h1
        omega
      clear hn hN
      go_wp2_with (at_builtin; refine app_more rfl (.tmp 22) (.tmp 26) rfl rfl HG.out HI.out rfl rfl (by omega) ?_; intro v2 w2 hg2 _ _; rw [← HSU.out] at hg2; have HG2 := Lib.hid hg2; clear hg2)
      go_roundw
      case rel => exact ⟨k + 1, by go_num, by omega, HG2⟩
      case measure => simp only [intOf]; omega
    · have hkk : k = K + 1 := by omega
      subst hkk
      have HC2 := Lib.hid (Sort_grew HG.out (by omega))
      obtain ⟨A7, c7, rfl, h71, h72⟩ := own_shape HG.out.1
      generalize hn7 : (wayIds T ss (K + 1)).length = n7 at *
      go_wp2_with fail
      refine HC2.out.mono ?_
      rintro e w2 ⟨rfl, hg⟩
      have HG2 := Lib.hid hg; clear hg
      go_wp2_with fail
      go_ret
      have hr : SE.rise (wayIds T ss (K + 1)) = SE.over L q.data.toList := by
        rw [rise_congr HPK.out, HO.out]; rfl
      have hg2 := HG2.out
      rw [hr] at hg2
      have := one_of_grew hg2 h71 h72
      obtain ⟨A', n', c', e, hm⟩ := this
      obtain ⟨m1, m2, m3, m4, m5, m6⟩ := hm
      refine ⟨A', n', c', e, m1, m2, Lib.hid (row_lower m3.out HB.out.size), Lib.hid (HB.out.trans (m4.out.mono HB.out.size)), m5, m6⟩
theorem gather_none (v : Value) (w : World) : Calls Tryd.prog 35 #[.pointer none, v] w fun e w' => e = .returned v ∧ w' = w := by
  go_enter Tryd.func35, Tryd.ntmps35
  go_wp2_with fail
  go_ret
  exact ⟨rfl, rfl⟩
/-- The way leads nowhere: nothing is under it. -/
theorem under_none {w : World} {g : Option Addr} {q : ByteArray} {A : Option Addr} {n c : Nat} (ht : Calls Tryd.prog 34 #[.pointer g, .string q] w fun e w' => (∃ v, e = .returned (.tuple #[v, .pointer none])) ∧ Below w.heap.size w w') :
    Calls Tryd.prog 15 #[.pointer g, .string q] w (OneI w []) := by
  have HT := Lib.hid ht; clear ht
  go_enter Tryd.func15, Tryd.ntmps15
  go_wp2_with fail
  refine HT.out.mono ?_
  rintro e w1 ⟨⟨v, rfl⟩, hb⟩
  have HB := Lib.hid hb; clear hb
  go_wp2_with fail
  refine (gather_none _ _).mono ?_
  rintro e w2 ⟨rfl, rfl⟩
  have HC := Lib.hid (Sort_grew (Grew.nil w2) (by simp))
  go_wp2_with fail
  refine HC.out.mono ?_
  rintro e w3 ⟨rfl, hg⟩
  have HG := Lib.hid hg; clear hg
  go_wp2_with fail
  go_ret
  exact ⟨none, 0, 0, rfl, Lib.hid rfl, Lib.hid (IntsAt.nil _ _), Lib.hid ⟨rfl, .inl ⟨rfl, rfl⟩⟩, Lib.hid (below_on HB.out HG.out.2), Nat.le_refl _, by omega⟩
set_option maxHeartbeats 2000000 in
theorem under_some {g M : Nat} {L D : List Ent} {T : Tr} {own : Owner} (q : ByteArray) (w : World) (hx : HasMax w) (ho : PM.okB q.data.toList = true) (hS : SetAt w g L T own M D) :
    Calls Tryd.prog 15 #[.pointer (some ⟨g, 0, none⟩), .string q] w (OneI w (SE.under L q.data.toList)) := by
  have HC := Lib.hid (trace_ok q w hx ho hS)
  have HO := Lib.hid (under_list (q := q.data.toList) hS.inv ho)
  have HS := Lib.hid hS
  have hL := hS.inv.len
  have hlies := PT.lies_len L (PM.segsOf q.data.toList)
  clear hS ho hx
  generalize hss : PM.segsOf q.data.toList = ss at HC HO hlies
  cases hT : T ss with
  | none =>
    have hemp : SE.under L q.data.toList = [] := by
      have h0 : lies L ss = [] := by
        unfold PT.lies
        rw [List.map_eq_nil_iff, List.filter_eq_nil_iff]
        intro e he hp
        obtain ⟨t, ht⟩ := List.isPrefixOf_iff_prefix.1 hp
        have h1 := HS.out.agree.there he
        rw [← ht] at h1
        have h2 := HS.out.tree.isSome_prefix h1
        rw [hT] at h2
        cases h2
      unfold SE.under
      rw [← HO.out, h0]; rfl
    rw [hemp]
    refine under_none (A := none) (n := 0) (c := 0) (HC.out.mono ?_)
    rintro e w1 ⟨K, A, c, rfl, hK, hall, hno, hown, hb⟩
    refine ⟨⟨.slice A (K + 1) c, ?_⟩, hb⟩
    by_cases h : K = ss.length
    · rw [if_pos h, ptrTo_none hT]
    · rw [if_neg h]
  | some n =>
    have HG := Lib.hid (fun w1 hT1 => gather_any w1 T own L hT1 HS.out.agree hL 5 ss n (by omega) hT [] (.slice none 0 0) w1 (Grew.nil w1) (by simp; omega))
    have HTN := Lib.hid hT; clear hT
    go_enter Tryd.func15, Tryd.ntmps15
    go_wp2_with fail
    refine HC.out.mono ?_
    rintro e w1 ⟨K, A, c, rfl, hK, hall, hno, hown, hb⟩
    have hKl : K = ss.length := by
      refine Classical.byContradiction fun h => ?_
      have hlt : K < ss.length := by omega
      have h1 := hno hlt
      have h2 : (T (ss.take (K + 1) ++ ss.drop (K + 1))).isSome = true := by rw [List.take_append_drop, HTN.out]; rfl
      have h3 := HS.out.tree.isSome_prefix h2
      rw [h1] at h3
      cases h3
    rw [if_pos hKl, ptrTo_some HTN.out]
    have HB := Lib.hid hb
    have HG1 := Lib.hid (HG.out w1 (HS.out.tree.below hb))
    clear hb hall hno hown hKl
    go_wp2_with fail
    refine HG1.out.mono ?_
    rintro e w2 ⟨v2, ys, rfl, hys, hg2, _, _⟩
    rw [List.nil_append] at hg2
    have HG2 := Lib.hid hg2
    have hyl : ys.length ≤ 64 := by have := hys.length_eq; omega
    have HY := Lib.hid hys
    have HC2 := Lib.hid (Sort_grew hg2 (by omega))
    obtain ⟨A7, c7, rfl, h71, h72⟩ := own_shape hg2.1
    clear hg2 hys
    generalize hn7 : ys.length = n7 at *
    go_wp2_with fail
    refine HC2.out.mono ?_
    rintro e w3 ⟨rfl, hg⟩
    have HG3 := Lib.hid hg; clear hg
    go_wp2_with fail
    go_ret
    have hr : SE.rise ys = SE.under L q.data.toList := by
      rw [rise_congr HY.out, HO.out]; rfl
    have hg2 := HG3.out
    rw [hr] at hg2
    obtain ⟨A', n', c', e, hm⟩ := one_of_grew hg2 h71 h72
    obtain ⟨m1, m2, m3, m4, m5, m6⟩ := hm
    exact ⟨A', n', c', e, m1, m2, Lib.hid (row_lower m3.out HB.out.size), Lib.hid (HB.out.trans (m4.out.mono HB.out.size)), m5, m6⟩
/-! ### At any path, of a set and of nil -/
theorem Over_set {g M : Nat} {L D : List Ent} {T : Tr} {own : Owner} (q : ByteArray) (w : World) (hx : HasMax w) (hq : q.size ≤ 140737488351232) (hS : SetAt w g L T own M D) :
    Calls Tryd.prog 14 #[.pointer (some ⟨g, 0, none⟩), .string q] w (OneI w (SE.over L q.data.toList)) := by
  cases ho : PM.okB q.data.toList with
  | true => exact over_some q w hx ho hS
  | false =>
    rw [over_bad ho]
    exact over_none ((trace_bad q w (by omega) ho hS.cell1).mono fun e w' ⟨h1, h2⟩ => ⟨h1, by rw [h2]; exact Below.refl _ _⟩)
theorem Under_set {g M : Nat} {L D : List Ent} {T : Tr} {own : Owner} (q : ByteArray) (w : World) (hx : HasMax w) (hq : q.size ≤ 140737488351232) (hS : SetAt w g L T own M D) :
    Calls Tryd.prog 15 #[.pointer (some ⟨g, 0, none⟩), .string q] w (OneI w (SE.under L q.data.toList)) := by
  cases ho : PM.okB q.data.toList with
  | true => exact under_some q w hx ho hS
  | false =>
    rw [under_bad ho]
    exact under_none (A := none) (n := 0) (c := 0) ((trace_bad q w (by omega) ho hS.cell1).mono fun e w' ⟨h1, h2⟩ => ⟨⟨_, h1⟩, by rw [h2]; exact Below.refl _ _⟩)
theorem Over_nil (q : ByteArray) (w : World) (hx : HasMax w) (hq : q.size ≤ 140737488351232) : Calls Tryd.prog 14 #[.pointer none, .string q] w (OneI w []) := over_none (trace_nil q w hx (by omega))
theorem Under_nil (q : ByteArray) (w : World) (hx : HasMax w) (hq : q.size ≤ 140737488351232) : Calls Tryd.prog 15 #[.pointer none, .string q] w (OneI w []) :=
  under_none (A := none) (n := 0) (c := 0) ((trace_nil q w hx (by omega)).mono fun e w' ⟨h1, h2⟩ => ⟨⟨_, h1⟩, h2⟩)
end Go.Proofs.YtpfljooceppcbaaDoor
