/- The document's tick. -/
import Derived.Test.YtbcpphckjfbkbaaClkW5
namespace Go.Proofs.Ytbcpphckjfbkbaa
open Go.RowKit
open CK (Ck)
set_option linter.unusedVariables false
set_option linter.unusedSimpArgs false
set_option maxRecDepth 100000
theorem RefLeast_at (d a : Int) (w : World) (hd : -9223372036854775808 ≤ d ∧ d ≤ 9223372036854775807) (ha : -9223372036854775808 ≤ a ∧ a ≤ 9223372036854775807) {m : Int} (hm : (TM.least d a : Int) = m) :
    Calls Try.prog 25 #[.int .i64 d, .int .i64 a] w fun e w' => e = .returned (.int .i64 m) ∧ Below w.heap.size w w' := by
  subst hm
  exact (Tm.RefLeast_any d a w hd ha).mono fun e w' h => ⟨h.1, h.2.below (Nat.le_refl _)⟩
theorem app_own {w1 : World} {ops : Array Oper} {rest : List Oper} {o : Oper} {a : Act} {Q : Exit → Act → World → Prop} (hgd : o.guard = none) (s x : Operand)
    (ho : o.op = .call { callee := .builtin .append, args := #[s, x], argTypes := #[27, 27] })
    (base : Nat) (v : Value) (pre : List Int) (hown : w1.ownsRow base 3 1 v pre.length (i64s pre)) (hb : base ≤ w1.heap.size) (hs : a.eval s = v) (k : Int) (hx : a.eval x = .slice (some ⟨w1.heap.size, 0, none⟩) 1 1) (hl : (pre.length + 1) * 8 ≤ 140737488355328)
    (h : ∀ v' w2, w2.ownsRow base 3 1 v' (pre ++ [k]).length (i64s (pre ++ [k])) → Mod v.ownBlock.toList w1 w2 → wpList Try.prog ops Q rest (a.put o.dst v') w2) : wpList Try.prog ops Q (o :: rest) a (w1.alloc (.cells #[.int .i64 k] 3)) := by
  obtain ⟨i0, hi, hz0, hz1, hz2⟩ := info_parts info_int
  refine wpList_append_own_at _ hgd s x 27 ho base 3 i0 (.int .i64 0) 1 8 Try.underlying27 hi hz0 hz1 hz2 rfl (by decide) v pre.length (i64s pre) hs (hown.alloc _) ⟨w1.heap.size, 0, none⟩ 1 1 [.int .i64 k] hx rfl
    (World.news_of_block (cs := #[.int .i64 k]) (t := 3) (fr := (0, 0)) (heap_alloc_new w1 _)) (one_i64 (l := [k])) (by unfold maxLen; omega) (by omega) (by rw [World.size_alloc]; omega) ?_
  intro v' w2 hown' hgrow _ _
  refine h v' w2 (by rw [List.length_append, i64s_append]; exact hown') (((Mod.refl _ w1).alloc _).grown hgrow (fun k hk => .inl (by rw [hk]; simp)))
theorem step_app_own {w1 W : World} {ops : Array Oper} {o : Oper} {a : Act} {K : Act → World → Prop} {Q : Exit → Act → World → Prop} {E : Prop} (hgd : o.guard = none) (s x : Operand)
    (ho : o.op = .call { callee := .builtin .append, args := #[s, x], argTypes := #[27, 27] })
    (base : Nat) (v : Value) (pre : List Int) (hown : w1.ownsRow base 3 1 v pre.length (i64s pre)) (hb : base ≤ w1.heap.size) (hs : a.eval s = v) (k : Int) (hW : W = (w1.alloc (.cells #[.int .i64 k] 3)).drew) (hx : a.eval x = .slice (some ⟨w1.heap.size, 0, none⟩) 1 1) (hl : (pre.length + 1) * 8 ≤ 140737488355328)
    (h : ∀ v' w2, w2.ownsRow base 3 1 v' (pre ++ [k]).length (i64s (pre ++ [k])) → Mod v.ownBlock.toList w1 w2 → K (a.put o.dst v') w2) : if Region.wanted o (yielded ops a.tmps) = true then Oper.wp Try.prog o a W K Q else E := by
  have hw : Region.wanted o (yielded ops a.tmps) = true := by simp [Region.wanted, hgd]
  rw [if_pos hw]
  subst hW
  obtain ⟨i0, hi, hz0, hz1, hz2⟩ := info_parts info_int
  obtain ⟨v', w', hr, h2, h3, _, _⟩ := run_append_own_at (P := Try.prog) (w1.alloc (.cells #[.int .i64 k] 3)).drew base 27 o.type 3 i0 (.int .i64 0) 1 8 Try.underlying27 hi hz0 hz1 hz2 rfl (by decide) v pre.length (i64s pre) ((hown.alloc _).drew) ⟨w1.heap.size, 0, none⟩ 1 1 [.int .i64 k] rfl
    (World.news_of_block (cs := #[.int .i64 k]) (t := 3) (fr := (0, 0)) (heap_alloc_new w1 _)) (one_i64 (l := [k])) (by unfold maxLen; omega) (by omega) (by show base ≤ (w1.alloc (.cells #[.int .i64 k] 3)).heap.size; rw [World.size_alloc]; omega)
  unfold Oper.wp execOp
  simp only [ho, resolve, invoke, builtin, Sem.run_bind, Sem.run_pure, Result.andThen_ok, List.map_toArray, List.map_cons, List.map_nil, hs, hx, hr]
  exact h v' w' (by rw [List.length_append, i64s_append]; exact h2) (((Mod.refl _ w1).alloc _).drew.grown h3 (fun k hk => .inl (by rw [hk]; simp)))
/-- The clocks' times as a tick makes them, one behind the other. -/
def zipK (ts bs : List Int) (k : Nat) : List Int := (List.zipWith (· + ·) ts bs).take k
theorem zipK_len {ts bs : List Int} {k : Nat} (hl : bs.length = ts.length) (hk : k ≤ bs.length) : (zipK ts bs k).length = k := by
  unfold zipK; rw [List.length_take, List.length_zipWith]; omega
theorem zipK_next {ts bs : List Int} {k : Nat} (h1 : k < ts.length) (h2 : k < bs.length) : zipK ts bs (k + 1) = zipK ts bs k ++ [ts[k] + bs[k]] := by
  unfold zipK
  rw [List.take_add_one, List.getElem?_zipWith, List.getElem?_eq_getElem h1, List.getElem?_eq_getElem h2]
  rfl
theorem zipK_all {ts bs : List Int} {k : Nat} (hl : bs.length = ts.length) (hk : bs.length ≤ k) : zipK ts bs k = List.zipWith (· + ·) ts bs := by
  unfold zipK; rw [List.take_of_length_le]; rw [List.length_zipWith]; omega
set_option maxHeartbeats 8000000 in
theorem RefTick_any {w : World} {A : Option Addr} {n : Nat} {c : Ck} (h : RefAt w A n c) (d : Int) (B : Option Addr) (m : Nat) (bs : List Int) (hB : IntsAt w B bs) (hl : bs.length ≤ m) (hm : m ≤ 9223372036854775807) (hd : -9223372036854775808 ≤ d ∧ d ≤ 9223372036854775807) (hi : In64 bs) :
    Calls Try.prog 14 #[.agg #[.int .i64 c.tr, .slice A c.ts.length n, .int .i64 c.dr], .int .i64 d, .slice B bs.length m] w (Out w A (CK.step c d bs) (CK.err c d bs)) := by
  have HX := Lib.hid (((Below.refl _ w).alloc (Nat.le_refl _) (.cells (rv c A n) 33)).alloc (by simp) (.cells #[.int .i64 0, .slice none 0 0, .int .i64 0] 33))
  have HW := Lib.hid ((Whole.new w 33 (rv c A n)).alloc (.cells #[.int .i64 0, .slice none 0 0, .int .i64 0] 33))
  have HZ := Lib.hid (Whole.new (w.alloc (.cells (rv c A n) 33)) 33 #[.int .i64 0, .slice none 0 0, .int .i64 0])
  rw [World.size_alloc] at HZ
  have HSZ := Lib.hid (show ((w.alloc (.cells (rv c A n) 33)).alloc (.cells #[.int .i64 0, .slice none 0 0, .int .i64 0] 33)).heap.size = w.heap.size + 2 by simp)
  have HA := Lib.hid (fun ad (e : A = some ad) (h0 : 0 < c.ts.length) => show ad.block < w.heap.size by obtain ⟨b, o, e2, hb, _⟩ := h.ints h0; rw [e2] at e; injection e with e; subst e; exact hb)
  have HBN := Lib.hid (fun ad (e : B = some ad) (h0 : 0 < bs.length) => show ad.block < w.heap.size by obtain ⟨b, o, e2, hb, _⟩ := hB h0; rw [e2] at e; injection e with e; subst e; exact hb)
  have H0 := Lib.hid h
  have HR := Lib.hid (h.below HX.out)
  have HB := Lib.hid (hB.below HX.out)
  have hone := h.ok.one
  have h8 := h.ok.le
  have hle := h.le
  have hcap := h.cap
  have HI := Lib.hid hi
  clear h hB hi
  go_enter Try.func14, Try.ntmps14
  go_upto_region 1 with (fail)
  unfold rv at HX HW HZ HSZ HR HB
  generalize (w.alloc (.cells #[.int .i64 c.tr, .slice A c.ts.length n, .int .i64 c.dr] 33)).alloc (.cells #[.int .i64 0, .slice none 0 0, .int .i64 0] 33) = W at HX HW HZ HSZ HR HB ⊢
  have HNE := Lib.hid (fun ad (e : A = some ad) => show ad.block ≠ w.heap.size + 1 by have := HA.out ad e (by omega); omega)
  have k0 : W.cell? ⟨w.heap.size, 0, none⟩ = some (.int .i64 c.tr) := HW.out.cell 0
  have k1 : W.cell? ⟨w.heap.size, 1, none⟩ = some (.slice A c.ts.length n) := HW.out.cell 1
  have k2 : W.cell? ⟨w.heap.size, 2, none⟩ = some (.int .i64 c.dr) := HW.out.cell 2
  have z0 : W.cell? ⟨w.heap.size + 1, 0, none⟩ = some (.int .i64 0) := HZ.out.cell 0
  have z1 : W.cell? ⟨w.heap.size + 1, 1, none⟩ = some (.slice none 0 0) := HZ.out.cell 1
  have z2 : W.cell? ⟨w.heap.size + 1, 2, none⟩ = some (.int .i64 0) := HZ.out.cell 2
  have f0 := HZ.out.frozen 0
  have f1 := HZ.out.frozen 1
  have f2 := HZ.out.frozen 2
  have HEX := Lib.hid (fun (V : World) (hV : Below W.heap.size W V) (er : Int) (he : CK.err c d bs = er) (h0 : er ≠ 0) => show Out w A (CK.step c d bs) (CK.err c d bs) (.returned (.tuple #[.agg #[.int .i64 c.tr, .slice A c.ts.length n, .int .i64 c.dr], .int .i64 er])) (((V.setCell ⟨w.heap.size + 1, 0, none⟩ (.int .i64 c.tr)).setCell ⟨w.heap.size + 1, 1, none⟩ (.slice A c.ts.length n)).setCell ⟨w.heap.size + 1, 2, none⟩ (.int .i64 c.dr)) by
    rw [he, CK.step_no (by rw [he]; exact h0)]
    have hE := ref_exit (b := w.heap.size + 1) (HR.out.below hV) (below_on HX.out hV) (by omega) HNE.out (.int .i64 c.tr) (.slice A c.ts.length n) (.int .i64 c.dr)
    exact ⟨A, n, rfl, Lib.hid hE.1, Lib.hid hE.2, Lib.hid (fun ad e => .inr e)⟩)
  by_cases h1 : bs.length = c.ts.length
  case neg =>
    have hne : ((bs.length : Int) == (c.ts.length : Int)) = false := beq_eq_false_iff_ne.2 (by omega)
    have hne' : ¬ (bs.length : Int) = (c.ts.length : Int) := by omega
    have HE := Lib.hid (HEX.out _ (Below.refl _ _) 2 (CK.err_range (.inl h1)) (by decide))
    clear h1
    go_wp2_with fail
    refine bodyPost_ret (v := .tuple #[.agg #[.int .i64 c.tr, .slice A c.ts.length n, .int .i64 c.dr], .int .i64 2]) (by simp [results, Try.results14, go_sem, z0, z1, z2]) rfl ?_
    exact HE.out
  have HL := Lib.hid h1
  have k1' : W.cell? ⟨w.heap.size, 1, none⟩ = some (.slice A bs.length n) := by rw [h1]; exact k1
  by_cases h2 : d < 0
  · have HE := Lib.hid (HEX.out _ (Below.refl _ _) 2 (CK.err_range (.inr (.inl h2))) (by decide))
    rw [← h1] at HE
    clear k1 h1
    go_wp2_with fail
    refine bodyPost_ret (v := .tuple #[.agg #[.int .i64 c.tr, .slice A bs.length n, .int .i64 c.dr], .int .i64 2]) (by simp [results, Try.results14, go_sem, z0, z1, z2]) rfl ?_
    exact HE.out
  rw [← h1] at HEX
  clear k1 h1
  go_wp2_with fail
  go_loopw [8] (fun i wr => ∃ k : Nat, i = .int .i64 (k : Int) ∧ k ≤ bs.length ∧ W = wr ∧ Hid (∀ j (h : j < bs.length), j < k → 0 ≤ bs[j])) (fun i _ => bs.length - (intOf i).toNat)
  case atStart => exact ⟨0, rfl, Nat.zero_le _, rfl, Lib.hid (fun j _ hj => absurd hj (Nat.not_lt_zero _))⟩
  case round =>
    obtain ⟨k, rfl, hk, rfl, HN⟩ := hrel
    by_cases hlt : k < bs.length
    · obtain ⟨b, o, eB, hb, hcell⟩ := ints_cell HB.out hlt
      subst eB
      by_cases hx : bs[k] < 0
      · have HE := Lib.hid (HEX.out _ (Below.refl _ _) 2 (CK.err_range (.inr (.inr (CK.neg_true (List.getElem_mem hlt) hx)))) (by decide))
        generalize bs[k] = x at hcell hx
        go_wp2_with fail
        refine bodyPost_ret (v := .tuple #[.agg #[.int .i64 c.tr, .slice A bs.length n, .int .i64 c.dr], .int .i64 2]) (by simp [results, Try.results14, go_sem, z0, z1, z2]) rfl ?_
        exact HE.out
      · have HN' := Lib.hid (fun j (h : j < bs.length) (hj : j < k + 1) => show 0 ≤ bs[j] from if e : j = k then by subst e; omega else HN.out j h (by omega))
        generalize bs[k] = x at hcell hx
        go_wp2_with fail
        go_roundw
        case rel => exact ⟨k + 1, rfl, by omega, trivial, HN'⟩
        case measure => simp only [intOf]; omega
    · have HNG := Lib.hid (CK.neg_false (bs := bs) (fun a ha => by obtain ⟨j, hj, rfl⟩ := List.getElem_of_mem ha; exact HN.out j hj (by omega)))
      clear HN
      have htr0 := H0.out.ok.tr
      by_cases htr : 1152921504606846976 - c.tr < d
      · have HE := Lib.hid (HEX.out _ (Below.refl _ _) 30 (CK.err_time HL.out (by omega) HNG.out (.inl (decide_eq_true htr))) (by decide))
        go_wp2_with fail
        refine bodyPost_ret (v := .tuple #[.agg #[.int .i64 c.tr, .slice A bs.length n, .int .i64 c.dr], .int .i64 30]) (by simp [results, Try.results14, go_sem, z0, z1, z2]) rfl ?_
        exact HE.out
      have HLT := Lib.hid (CK.late_not.2 (show d ≤ 1152921504606846976 - c.tr by omega))
      go_wp2_with fail
      go_loopw [9] (fun i wx => ∃ k : Nat, i = .int .i64 (k : Int) ∧ k ≤ bs.length ∧ Hid (Below W.heap.size W wx) ∧ Hid (∀ j (h1 : j < c.ts.length) (h2 : j < bs.length), j < k → CK.late c.ts[j] bs[j] = false)) (fun i _ => bs.length - (intOf i).toNat)
      case atStart => exact ⟨0, rfl, Nat.zero_le _, Lib.hid (Below.refl _ _), Lib.hid (fun j _ _ hj => absurd hj (Nat.not_lt_zero _))⟩
      case round =>
        obtain ⟨k, rfl, hk, HV, HN⟩ := hrel
        clear z0 z1 z2 k0 k1' k2 f0 f1 f2
        have HZ2 := Lib.hid ((Mod.of_below HV.out []).whole HZ.out (by simp))
        have HW2 := Lib.hid ((Mod.of_below HV.out []).whole HW.out (by simp))
        have k0 : wr.cell? ⟨w.heap.size, 0, none⟩ = some (.int .i64 c.tr) := HW2.out.cell 0
        have k1 : wr.cell? ⟨w.heap.size, 1, none⟩ = some (.slice A bs.length n) := by rw [HL.out]; exact HW2.out.cell 1
        have k2 : wr.cell? ⟨w.heap.size, 2, none⟩ = some (.int .i64 c.dr) := HW2.out.cell 2
        have z0 : wr.cell? ⟨w.heap.size + 1, 0, none⟩ = some (.int .i64 0) := HZ2.out.cell 0
        have z1 : wr.cell? ⟨w.heap.size + 1, 1, none⟩ = some (.slice none 0 0) := HZ2.out.cell 1
        have z2 : wr.cell? ⟨w.heap.size + 1, 2, none⟩ = some (.int .i64 0) := HZ2.out.cell 2
        have f0 := HZ2.out.frozen 0
        have f1 := HZ2.out.frozen 1
        have f2 := HZ2.out.frozen 2
        by_cases hlt : k < bs.length
        · obtain ⟨b, o, eB, hb, hcell⟩ := ints_cell (HB.out.below HV.out) hlt
          subst eB
          have hkt : k < c.ts.length := by have := HL.out; omega
          obtain ⟨b2, o2, eA, hb2, hcell2⟩ := ints_cell (HR.out.ints.below HV.out) hkt
          subst eA
          have HT := Lib.hid (fun h => CK.lateAny_true hkt hlt h)
          have HXX := Lib.hid (fun (h : CK.late c.ts[k] bs[k] = false) j (h1 : j < c.ts.length) (h2 : j < bs.length) (hjk : j < k + 1) => (show CK.late c.ts[j] bs[j] = false from if e : j = k then by subst e; exact h else HN.out j h1 h2 (by omega)))
          have ht0 := H0.out.ok.ts _ (List.getElem_mem hkt)
          generalize c.ts[k] = t at hcell2 HT HXX ht0
          generalize bs[k] = x at hcell HT HXX
          have q1 : wr.drew.cell? ⟨w.heap.size, 1, none⟩ = some (.slice (some ⟨b2, o2, none⟩) bs.length n) := k1
          have q2 : wr.drew.cell? ⟨b, o + k, none⟩ = some (.int .i64 x) := hcell
          have q3 : wr.drew.cell? ⟨b2, o2 + k, none⟩ = some (.int .i64 t) := hcell2
          by_cases hx : 1152921504606846976 - t < x
          · have HE := Lib.hid (HEX.out wr.drew (Below.drew HV.out) 30 (CK.err_time HL.out (by omega) HNG.out (.inr (HT.out (decide_eq_true hx)))) (by decide))
            go_wp2_with fail
            go_region
            clear q1 q2 q3 hcell hcell2
            have z0' : wr.drew.cell? ⟨w.heap.size + 1, 0, none⟩ = some (.int .i64 0) := z0
            have z1' : wr.drew.cell? ⟨w.heap.size + 1, 1, none⟩ = some (.slice none 0 0) := z1
            have z2' : wr.drew.cell? ⟨w.heap.size + 1, 2, none⟩ = some (.int .i64 0) := z2
            have k0' : wr.drew.cell? ⟨w.heap.size, 0, none⟩ = some (.int .i64 c.tr) := k0
            have k1' : wr.drew.cell? ⟨w.heap.size, 1, none⟩ = some (.slice (some ⟨b2, o2, none⟩) bs.length n) := k1
            have k2' : wr.drew.cell? ⟨w.heap.size, 2, none⟩ = some (.int .i64 c.dr) := k2
            have f0' := (Whole.drewN HZ2.out 1).frozen 0
            have f1' := (Whole.drewN HZ2.out 1).frozen 1
            have f2' := (Whole.drewN HZ2.out 1).frozen 2
            go_wp2_with fail
            refine bodyPost_ret (v := .tuple #[.agg #[.int .i64 c.tr, .slice (some ⟨b2, o2, none⟩) bs.length n, .int .i64 c.dr], .int .i64 30]) (by simp [results, Try.results14, go_sem, z0, z1, z2]) rfl ?_
            exact HE.out
          · have HX' := Lib.hid (HXX.out (CK.late_not.2 (show x ≤ 1152921504606846976 - t by omega)))
            go_wp2_with fail
            go_region
            go_wp2_with fail
            go_roundw
            case rel => exact ⟨k + 1, rfl, by omega, Lib.hid (Below.drew HV.out), HX'⟩
            case measure => simp only [intOf]; omega
        · have HLA := Lib.hid (CK.lateAny_false (ts := c.ts) (bs := bs) (fun j h1 h2 => HN.out j h1 h2 (by omega)))
          clear HN
          go_wp2_with fail
          have HP0 := Lib.hid (Whole.new wr 33 #[.int .i64 (c.tr + d), .slice none 0 0, .int .i64 c.dr])
          have HV2 := Lib.hid (HV.out.alloc (by exact HV.out.size) (.cells #[.int .i64 (c.tr + d), .slice none 0 0, .int .i64 c.dr] 33))
          have HWS := Lib.hid (show w.heap.size + 2 ≤ wr.heap.size by have := HV.out.size; have := HSZ.out; omega)
          clear k0 k1 k2 z0 z1 z2 f0 f1 f2 HZ2 HW2
          generalize wr.alloc (.cells #[.int .i64 (c.tr + d), .slice none 0 0, .int .i64 c.dr] 33) = V at HP0 HV2 ⊢
          generalize wr.heap.size = p at HP0 HWS ⊢
          clear HV
          go_loopw [11] (fun i wr => ∃ (k : Nat) (v : Value), i = .int .i64 (k : Int) ∧ k ≤ bs.length ∧ Hid (wr.ownsRow V.heap.size 3 1 v (zipK c.ts bs k).length (i64s (zipK c.ts bs k))) ∧ Hid (Whole wr p 33 #[.int .i64 (c.tr + d), v, .int .i64 (CK.drift d c.dr (bs.take k))]) ∧ Hid (Mod [p] V wr)) (fun i _ => bs.length - (intOf i).toNat)
          case atStart => exact ⟨0, .slice none 0 0, rfl, Nat.zero_le _, Lib.hid (World.ownsRow_nil _ _ _ _), HP0, Lib.hid (Mod.refl _ _)⟩
          case round =>
            obtain ⟨k, v, rfl, hk, HO, HP, HM⟩ := hrel
            have HW3 := Lib.hid (HM.out.whole ((Mod.of_below HV2.out []).whole HW.out (by simp)) (by simp; have := HWS.out; omega))
            by_cases hlt : k < bs.length
            · obtain ⟨b, o, eB, hb, hcell0⟩ := ints_cell (HB.out.below HV2.out) hlt
              subst eB
              have hkt : k < c.ts.length := by have := HL.out; omega
              obtain ⟨b2, o2, eA, hb2, hcell20⟩ := ints_cell (HR.out.ints.below HV2.out) hkt
              have hbp : b ≠ p := by have h1 : b < w.heap.size := HBN.out _ rfl (by omega); have := HWS.out; omega
              have hbp2 : b2 ≠ p := by have h1 : b2 < w.heap.size := HA.out _ eA (by omega); have := HWS.out; omega
              subst eA
              have hcell : wr.cell? ⟨b, o + k, none⟩ = some (.int .i64 bs[k]) := (HM.out.cell (p := ⟨b, o + k, none⟩) hb (by simpa using hbp)).trans hcell0
              have hcell2 : wr.cell? ⟨b2, o2 + k, none⟩ = some (.int .i64 c.ts[k]) := (HM.out.cell (p := ⟨b2, o2 + k, none⟩) hb2 (by simpa using hbp2)).trans hcell20
              have HC0 := Lib.hid hcell0
              clear hcell0 hcell20
              have k1 : wr.cell? ⟨w.heap.size, 1, none⟩ = some (.slice (some ⟨b2, o2, none⟩) bs.length n) := by rw [HL.out]; exact HW3.out.cell 1
              have o1 : wr.cell? ⟨p, 1, none⟩ = some v := HP.out.cell 1
              have fp := HP.out.frozen 1
              have e1 := CK.late_not.1 (CK.lateAny_not HLA.out hkt hlt)
              have e2 := CK.neg_not HNG.out _ (List.getElem_mem hlt)
              have e3 := H0.out.ok.ts _ (List.getElem_mem hkt)
              have HZN := Lib.hid (zipK_next hkt hlt)
              have HDT := Lib.hid (CK.drift_take (d := d) (r := c.dr) hlt)
              have HLEN := Lib.hid (show ((zipK c.ts bs k).length + 1) * 8 ≤ 140737488355328 by rw [zipK_len HL.out hk]; have := HL.out; omega)
              have HVP := Lib.hid (show p ∉ v.ownBlock.toList from fun hx => by
                have := (HO.out.lt p (by simpa using hx)).1
                have := HP0.out.lt
                omega)
              have HVS := Lib.hid (show V.heap.size ≤ wr.heap.size from HM.out.size)
              have HIX := Lib.hid (HI.out _ (List.getElem_mem hlt))
              obtain ⟨mm, hmm⟩ : ∃ m, (TM.least d bs[k] : Int) = m := ⟨_, rfl⟩
              have HLE := Lib.hid (fun W' => RefLeast_at d bs[k] W' hd HIX.out hmm)
              rw [hmm] at HDT
              clear hmm
              generalize c.ts[k] = t at hcell2 HZN e1 e3
              generalize hgx : bs[k] = x at hcell HZN e1 e2 HLE HC0
              clear hgx
              have HWR := Lib.hid (show IntKind.i64.wrap (t + x) = t + x by rw [IntKind.wrap_i64]; omega)
              have q1 : wr.drew.cell? ⟨w.heap.size, 1, none⟩ = some (.slice (some ⟨b2, o2, none⟩) bs.length n) := k1
              have q2 : wr.drew.cell? ⟨b, o + k, none⟩ = some (.int .i64 x) := hcell
              have q3 : wr.drew.cell? ⟨b2, o2 + k, none⟩ = some (.int .i64 t) := hcell2
              have q5 : (wr.alloc (.cells #[.int .i64 (IntKind.i64.wrap (t + x))] 3)).drew.cell? ⟨p, 1, none⟩ = some v := (HP.out.alloc _).cell 1
              have q6 : (wr.alloc (.cells #[.int .i64 (IntKind.i64.wrap (t + x))] 3)).cell? ⟨p, 1, none⟩ = some v := (HP.out.alloc _).cell 1
              have q4 : wr.drew.cell? ⟨p, 1, none⟩ = some v := o1
              go_wp2_with fail
              go_cut [11] (fun s11 wx => ∃ v2, s11 = .int .i64 (k : Int) ∧ Hid (wx.ownsRow V.heap.size 3 1 v2 (zipK c.ts bs (k + 1)).length (i64s (zipK c.ts bs (k + 1)))) ∧ Hid (Whole wx p 33 #[.int .i64 (c.tr + d), v2, .int .i64 (CK.drift d c.dr (bs.take k))]) ∧ Hid (Mod [p] V wx))
              case first =>
                go_region_law (refine step_app_own rfl (.tmp 73) (.tmp 84) rfl V.heap.size v (zipK c.ts bs k) HO.out HVS.out rfl (IntKind.i64.wrap (t + x)) rfl rfl HLEN.out ?_; intro v2 w2 hown hmod; rw [HWR.out, ← HZN.out] at hown; obtain ⟨A2, c2, rfl, _, _⟩ := own_shape hown; have HO2 := Lib.hid hown; have HM2 := Lib.hid hmod; have HP2 := Lib.hid (hmod.whole HP.out HVP.out); have fp2 := HP2.out.frozen 1; have op2 : w2.cell? ⟨p, 1, none⟩ = some v := HP2.out.cell 1; clear hown hmod)
                all_goals
                  go_wp2
                  go_meet
                  exact ⟨_, rfl, Lib.hid (own_far HO2.out (fun hx => by have := (HO2.out.lt p hx).1; have := HP0.out.lt; omega) _), Lib.hid (by have := HP2.out.store 1 (.slice A2 (zipK c.ts bs (k + 1)).length c2); exact this), Lib.hid ((HM.out.trans HM2.out (fun x hx => .inr (by have := (HO.out.lt x (by simpa using hx)).1; omega))).store (p := ⟨p, 1, none⟩) (.inl (by simp)) _)⟩
              case rest =>
                obtain ⟨v2, rfl, HO2, HP2, HM2⟩ := hcut
                clear q1 q2 q3 q4 q5 q6 hcell hcell2 o1 fp k1 HO HP HM HW3
                have hcell : wc.cell? ⟨b, o + k, none⟩ = some (.int .i64 x) := (HM2.out.cell (p := ⟨b, o + k, none⟩) hb (by simpa using hbp)).trans HC0.out
                have o2 : wc.cell? ⟨p, 2, none⟩ = some (.int .i64 (CK.drift d c.dr (bs.take k))) := HP2.out.cell 2
                have f2 := HP2.out.frozen 2
                generalize CK.drift d c.dr (bs.take k) = r at o2 HP2 HDT
                have q2 : wc.drew.cell? ⟨b, o + k, none⟩ = some (.int .i64 x) := hcell
                have q4 : wc.drew.cell? ⟨p, 2, none⟩ = some (.int .i64 r) := o2
                have HV2P := Lib.hid (show v2.ownBlock ≠ some p from fun hx => by have := (HO2.out.lt p hx).1; have := HP0.out.lt; omega)
                clear HVP HLEN HVS HWR HZN e1 e2 e3
                go_wp2_with fail
                go_region_with (go_at_call 25; refine (HLE.out _).mono ?_; rintro e w5 ⟨rfl, hb5⟩
                                have HO5 := Lib.hid ((Mod.of_below hb5 []).own (show wc.drew.ownsRow _ _ _ _ _ _ from HO2.out.drew) (by simp))
                                have HP5 := Lib.hid ((Mod.of_below hb5 []).whole (show Whole wc.drew p _ _ from HP2.out) (by simp))
                                have HM5 := Lib.hid (HM2.out.drew.trans (Mod.of_below hb5 [p]) (by simp))
                                have o5 : w5.cell? ⟨p, 2, none⟩ = some (.int .i64 r) := HP5.out.cell 2
                                have f5 := HP5.out.frozen 2
                                clear hb5)
                all_goals
                  go_wp2_with fail
                  go_roundw
                  case rel => exact ⟨k + 1, v2, rfl, by omega, Lib.hid (own_far HO5.out HV2P.out _), Lib.hid (by rw [HDT.out]; exact HP5.out.store 2 (.int .i64 (max r mm))), Lib.hid (HM5.out.store (p := ⟨p, 2, none⟩) (.inl (by simp)) _)⟩
                  case measure => simp only [intOf]; omega
            · obtain ⟨A2, c2, e, j1, j2⟩ := own_shape HO.out
              have HO' := HO.out
              have HP' := HP.out
              rw [List.take_of_length_le (by omega)] at HP'
              rw [zipK_all HL.out (by omega)] at HO' e j1
              subst e
              have HO3 := Lib.hid HO'
              have HP3 := Lib.hid HP'
              have HE := Lib.hid (CK.err_ok.2 ⟨HL.out, by omega, HNG.out, HLT.out, HLA.out⟩)
              have HZ3 := Lib.hid (HM.out.whole ((Mod.of_below HV2.out []).whole HZ.out (by simp)) (by simp; have := HWS.out; omega))
              have o0 : wr.cell? ⟨p, 0, none⟩ = some (.int .i64 (c.tr + d)) := HP3.out.cell 0
              have o1 : wr.cell? ⟨p, 1, none⟩ = some (.slice A2 (List.zipWith (· + ·) c.ts bs).length c2) := HP3.out.cell 1
              have o2 : wr.cell? ⟨p, 2, none⟩ = some (.int .i64 (CK.drift d c.dr bs)) := HP3.out.cell 2
              have z0 : wr.cell? ⟨w.heap.size + 1, 0, none⟩ = some (.int .i64 0) := HZ3.out.cell 0
              have z1 : wr.cell? ⟨w.heap.size + 1, 1, none⟩ = some (.slice none 0 0) := HZ3.out.cell 1
              have z2 : wr.cell? ⟨w.heap.size + 1, 2, none⟩ = some (.int .i64 0) := HZ3.out.cell 2
              have f0 := HZ3.out.frozen 0
              have f1 := HZ3.out.frozen 1
              have f2 := HZ3.out.frozen 2
              clear HO' HP' HO HP
              have HFIN := Lib.hid (show Out w A (CK.step c d bs) (CK.err c d bs) (.returned (.tuple #[.agg #[.int .i64 (c.tr + d), .slice A2 (List.zipWith (· + ·) c.ts bs).length c2, .int .i64 (CK.drift d c.dr bs)], .int .i64 0])) (((wr.setCell ⟨w.heap.size + 1, 0, none⟩ (.int .i64 (c.tr + d))).setCell ⟨w.heap.size + 1, 1, none⟩ (.slice A2 (List.zipWith (· + ·) c.ts bs).length c2)).setCell ⟨w.heap.size + 1, 2, none⟩ (.int .i64 (CK.drift d c.dr bs))) by
                have hst : CK.step c d bs = CK.go c d bs := CK.step_ok HE.out
                have hRA : RefAt wr A2 c2 (CK.step c d bs) := ⟨by rw [hst]; exact IntsAt.own HO3.out, by rw [hst]; exact j1, j2, CK.step_sound H0.out.ok⟩
                have hBW : Below w.heap.size w wr := (below_on HX.out HV2.out).trans (HM.out.below (Nat.le_trans (below_on HX.out HV2.out).size (Nat.le_refl _)) (by simp; have := HWS.out; omega))
                have hA2 : ∀ ad, A2 = some ad → V.heap.size ≤ ad.block := fun ad e => (own_at HO3.out ad e).1
                have hVz : w.heap.size + 2 ≤ V.heap.size := by have := HP0.out.lt; have := HWS.out; omega
                have hE := ref_exit (b := w.heap.size + 1) hRA hBW (by omega) (fun ad e => by have := hA2 ad e; omega) (.int .i64 (c.tr + d)) (.slice A2 (List.zipWith (· + ·) c.ts bs).length c2) (.int .i64 (CK.drift d c.dr bs))
                rw [HE.out]
                exact ⟨A2, c2, by rw [hst]; rfl, Lib.hid hE.1, Lib.hid hE.2, Lib.hid (fun ad e => .inl (by have := hA2 ad e; omega))⟩)
              generalize (List.zipWith (· + ·) c.ts bs).length = nz at o1 HFIN
              generalize CK.drift d c.dr bs = dz at o2 HFIN
              go_wp2_with fail
              refine bodyPost_ret (v := .tuple #[.agg #[.int .i64 (c.tr + d), .slice A2 nz c2, .int .i64 dz], .int .i64 0]) (by simp [results, Try.results14, go_sem, z0, z1, z2]) rfl ?_
              exact HFIN.out
end Go.Proofs.Ytbcpphckjfbkbaa
