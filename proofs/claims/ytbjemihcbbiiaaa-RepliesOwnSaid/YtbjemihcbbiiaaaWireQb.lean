/- Texts that belong together: WireW8d, WireW8e, WireW8f. -/
import Derived.Test.YtbjemihcbbiiaaaWireW8
namespace Go.Proofs.Ytbjemihcbbiiaaa
open Go.RowKit
open Oct (RAt BytesAt)
open WM (Msg)
set_option linter.unusedVariables false
set_option maxRecDepth 100000
attribute [local go_sem] run_store_func run_store_nilFunc
set_option maxHeartbeats 4000000 in
theorem taken_d (A : Option Addr) (c : Nat) (xs : List UInt8) (w : World) (h : BytesAt w A xs) (hl : xs.length ≤ 140737488355328) (hkk : (headM xs).kind = 4) :
    Calls Try.prog 35 #[.slice A xs.length c] w fun e w' => ∃ sv, e = .returned (.agg (cellsM (WM.taken 4 xs) sv)) ∧ Hid (w'.ownsRow w.heap.size 3 1 sv (WM.taken 4 xs).stamp.length (i64s (WM.taken 4 xs).stamp)) ∧ Below w.heap.size w w' := by
  have HA := Lib.hid h; clear h
  have HKK := Lib.hid hkk; clear hkk
  go_enter Try.func35, Try.ntmps35
  go_wp2_with fail
  have HZ := Lib.hid (show w.heap.size + 1 = (w.alloc (.cells #[.int .i64 0, .int .i64 0, .int .i64 0, .int .i64 0, .int .i64 0, .int .i64 0, .int .i64 0, .string ⟨#[]⟩, .int .i64 0, .int .i64 0, .int .i64 0, .bool false, .int .i64 0, .slice none 0 0, .int .i64 0, .int .i64 0] 32)).heap.size by simp)
  have HB0 := Lib.hid ((Below.refl _ w).alloc (Nat.le_refl _) (.cells #[.int .i64 0, .int .i64 0, .int .i64 0, .int .i64 0, .int .i64 0, .int .i64 0, .int .i64 0, .string ⟨#[]⟩, .int .i64 0, .int .i64 0, .int .i64 0, .bool false, .int .i64 0, .slice none 0 0, .int .i64 0, .int .i64 0] 32))
  have HV := Lib.hid (Whole.new w 32 #[.int .i64 0, .int .i64 0, .int .i64 0, .int .i64 0, .int .i64 0, .int .i64 0, .int .i64 0, .string ⟨#[]⟩, .int .i64 0, .int .i64 0, .int .i64 0, .bool false, .int .i64 0, .slice none 0 0, .int .i64 0, .int .i64 0])
  generalize w.alloc (.cells #[.int .i64 0, .int .i64 0, .int .i64 0, .int .i64 0, .int .i64 0, .int .i64 0, .int .i64 0, .string ⟨#[]⟩, .int .i64 0, .int .i64 0, .int .i64 0, .bool false, .int .i64 0, .slice none 0 0, .int .i64 0, .int .i64 0] 32) = wa at HZ HB0 HV ⊢
  refine (Oct.NewReader_any A c xs wa (HA.out.below HB0.out) hl).mono ?_
  rintro e w1 ⟨r, b, rfl, hR, hb1, hr1, hr2, hbb1, hbb2⟩
  have HB1 := Lib.hid (below_on HB0.out hb1)
  have HV1 := Lib.hid ((Mod.of_below hb1 []).whole HV.out (by simp))
  have HSZ := Lib.hid hb1.size
  clear hb1
  have HR := Lib.hid hR; clear hR
  have HN := Lib.hid (show w.heap.size + 1 ≤ r ∧ r < w1.heap.size ∧ w.heap.size + 1 ≤ b ∧ b < w1.heap.size from ⟨by rw [HZ.out]; exact hr1, hr2, by rw [HZ.out]; exact hbb1, hbb2⟩)
  clear hr1 hr2 hbb1 hbb2
  have HR1 := Lib.hid (show RdAt (w1.alloc (.cells #[.pointer (some ⟨r, 0, none⟩)] 102)).drew w1.heap.size r b (xs, 0) from
    (RdAt.drew ⟨Whole.new _ _ _, by
      obtain ⟨A', c', h1, h2, h3⟩ := HR.out
      exact ⟨A', c', h1.alloc _, h2.below ((Below.refl _ w1).alloc (Nat.le_refl _) _), h3⟩, by have := HN.out; omega⟩))
  have HS := HR1.out.ptr
  have HM := Lib.hid (((Mod.refl [r] w1).alloc (.cells #[.pointer (some ⟨r, 0, none⟩)] 102)).drew)
  have HLT := Lib.hid (show w1.heap.size < (w1.alloc (.cells #[.pointer (some ⟨r, 0, none⟩)] 102)).drew.heap.size from by show _ < (w1.alloc (.cells #[.pointer (some ⟨r, 0, none⟩)] 102)).heap.size; simp)
  go_upto_region 2 with (fail)
  go_cut [4] (fun s4 wx => ∃ g : Nat, s4 = .pointer (some ⟨g, 0, none⟩) ∧ Hid (Fin w wx w1.heap.size r b g xs))
  case first =>
    go_region_held3 (fun w2 : World => w2.cell? ⟨w1.heap.size, 0, none⟩ = some (.pointer (some ⟨r, 0, none⟩)))
      (first
        | (with_reducible exact HS)
        | (with_reducible exact alloc_cell HS)
        | (with_reducible (repeat (first | exact HS | refine (far_cell HG.out.new _).trans ?_)); done)
        | (go_keep; done))
      (first
        | (go_at_call 65; (with_reducible refine (num_tnum _ w1.heap.size r b _ HR1.out).mono ?_); rintro x w2 ⟨rfl, hT⟩; replace HLT := Lib.hid (Nat.lt_of_lt_of_le HLT.out hT.2.size); replace HR1 := Lib.hid hT.1; replace HM := Lib.hid (HM.out.trans hT.2 (fun x hx => .inl hx)); (try (replace HG := Lib.hid (HG.out.took hT.2 HN.out.2.1); (try clear HF c0 c1 c2 c3 c4 c5 c6 c7 c8 c9 c10 c11 c12 c13 c14 c15); have HF := fun i => HG.out.blk.frozen i; obtain ⟨c0, c1, c2, c3, c4, c5, c6, c7, c8, c9, c10, c11, c12, c13, c14, c15⟩ := msg_cells HG.out.blk)); clear hT; replace HS := HR1.out.ptr)
        | (go_at_call 65; refine (num_alloc w1 _ w1.heap.size r b _ HR1.out (w1.heap.size + 1) (by show w1.heap.size + 1 = (w1.alloc (.cells #[.pointer (some ⟨r, 0, none⟩)] 102)).heap.size; simp) HN.out.2.1 HLT.out).mono ?_; rintro x w2 ⟨rfl, hR9, hM9, hG9⟩; replace HLT := Lib.hid (Nat.lt_of_lt_of_le HLT.out hM9.size); replace HR1 := Lib.hid hR9; replace HM := Lib.hid (HM.out.trans hM9 (fun x hx => .inl hx)); have HG := Lib.hid hG9; clear hR9 hM9 hG9; replace HS := HR1.out.ptr; have HF := fun i => HG.out.blk.frozen i; obtain ⟨c0, c1, c2, c3, c4, c5, c6, c7, c8, c9, c10, c11, c12, c13, c14, c15⟩ := msg_cells HG.out.blk)
        | (go_at_call 65; refine (num_alloc w1 _ w1.heap.size r b _ HR1.out _ rfl HN.out.2.1 HLT.out).mono ?_; rintro x w2 ⟨rfl, hR9, hM9, hG9⟩; replace HLT := Lib.hid (Nat.lt_of_lt_of_le HLT.out hM9.size); replace HR1 := Lib.hid hR9; replace HM := Lib.hid (HM.out.trans hM9 (fun x hx => .inl hx)); have HG := Lib.hid hG9; clear hR9 hM9 hG9; replace HS := HR1.out.ptr; have HF := fun i => HG.out.blk.frozen i; obtain ⟨c0, c1, c2, c3, c4, c5, c6, c7, c8, c9, c10, c11, c12, c13, c14, c15⟩ := msg_cells HG.out.blk))
    all_goals
      go_wp2_with fail
      go_meet
      first
        | exact ⟨_, rfl, Lib.hid (fin16 HB1.out HN.out rfl HR1.out HM.out HG.out HV1.out (put16 HG.out.blk (headM xs) (.slice none 0 0)))⟩
        | exact ⟨_, rfl, Lib.hid (fin_of HB1.out HN.out rfl (RdAt.alloc HR1.out _) (HM.out.alloc _) HLT.out (Whole.new w2 _ _) HV1.out)⟩
  case rest =>
    obtain ⟨g, rfl, HF⟩ := hcut
    clear HS HM HLT HR1 HR HV1 HB1 HSZ HZ HB0 HV HN HA
    generalize w1.heap.size = q at HF ⊢
    have HE := Lib.hid (taken_part xs)
    have HX := Lib.hid HF.out.below
    have HRS := Lib.hid HF.out.res
    have HFR := Lib.hid HF.out.far
    have HNW := Lib.hid HF.out.new
    have HB := Lib.hid HF.out.both
    clear HF
    generalize hTK : WM.taken 4 xs = TK at HE
    have HTK := Lib.hid hTK
    clear hTK
    generalize headM xs = M0 at HE HB HKK
    generalize headS xs = S0 at HE HB
    by_cases hk : M0.kind = 4
    · have HE1 := Lib.hid (show TK = (WM.doneT M0 S0).1 by rw [HE.out]; unfold WM.partT; rw [if_neg (show ¬ M0.kind = 1 by omega), if_neg (show ¬ M0.kind = 2 by omega), if_neg (show ¬ M0.kind = 3 by omega), if_pos hk])
      have c0 : wc.cell? ⟨g, 0, none⟩ = some (.int .i64 4) := by rw [← hk]; exact HB.out.blk.cell 0
      clear hk HE
      go_wp2_with fail
      refine (layout_done wc).mono ?_
      rintro e w3 ⟨rfl, hb3⟩
      clear c0
      have HB3 := Lib.hid ((HB.out.below hb3).below ((Below.refl _ w3).alloc (Nat.le_refl _) (.cells #[fnV 55, fnV 56, fnV 57] 84)))
      clear hb3
      go_wp2_with fail
      refine (rdone_any wc _ q r b g S0 M0 (.slice none 0 0) HB3.out).mono ?_
      rintro e w5 ⟨rfl, sv5, hB5⟩
      rw [← HE1.out] at hB5
      obtain ⟨A5, n5, hv5, _, _⟩ := own_shape hB5.own
      subst hv5
      have HB5 := Lib.hid hB5
      clear hB5 HB3
      generalize (WM.doneT M0 S0).2 = S5 at HB5
      have HR5 := Lib.hid (HB5.out.mod.whole HRS.out (by have h1 := HFR.out; have h2 := HNW.out; simp; omega))
      have HX5 := Lib.hid (HX.out.trans (HB5.out.mod.below HX.out.size (by intro x hx; have h1 := HFR.out; have h2 := HNW.out; simp at hx; omega)))
      clear HE1
      have HLD := Lib.hid (msg_range HB5.out.blk)
      go_wp2_with (first
        | (refine wpList_load_mid rfl 32 (.tmp 4) rfl g 0 rfl (cellsM TK (.slice A5 TK.stamp.length n5)).toList _ HLD.out Try.underlying32 rfl (by kernel_rfl) ?_)
        | (refine wpList_store_row rfl 32 (.tmp 2) (.tmp 30) rfl w.heap.size (cellsM TK (.slice A5 TK.stamp.length n5)) rfl rfl 32 _ HR5.out (by kernel_rfl) rfl (by simp [cellsM, Value.oneCell']) ?_))
      obtain ⟨hK, hM⟩ := row16 HR5.out TK (.slice A5 TK.stamp.length n5)
      have HO := Lib.hid (hM.own HB5.out.own (fun k hk => by have h1 := (HB5.out.own.lt k hk).1; have h2 := HX.out.size; have h4 := HB5.out.old; have h5 := HNW.out; simp; omega))
      have HX6 := Lib.hid (HX5.out.trans (hM.below HX5.out.size (by simp)))
      have HK := Lib.hid hK
      clear hK hM
      generalize (World.setRow _ _ _) = w6 at HO HX6 HK ⊢
      obtain ⟨c0, c1, c2, c3, c4, c5, c6, c7, c8, c9, c10, c11, c12, c13, c14, c15⟩ := msg_cells HK.out
      change bodyPost Try.prog _ _ Exit.ret _ _
      refine bodyPost_ret (v := .agg (cellsM TK (.slice A5 TK.stamp.length n5))) (by simp [results, Try.results35, go_sem, c0, c1, c2, c3, c4, c5, c6, c7, c8, c9, c10, c11, c12, c13, c14, c15, cellsM]) rfl ?_
      exact ⟨(.slice A5 TK.stamp.length n5), by rw [HTK.out], Lib.hid (by rw [HTK.out]; exact own_base HO.out HX.out.size), HX6.out⟩
    exact absurd HKK.out (by omega)
end Go.Proofs.Ytbjemihcbbiiaaa
namespace Go.Proofs.Ytbjemihcbbiiaaa
open Go.RowKit
open Oct (RAt BytesAt)
open WM (Msg)
set_option linter.unusedVariables false
set_option maxRecDepth 100000
attribute [local go_sem] run_store_func run_store_nilFunc
set_option maxHeartbeats 4000000 in
theorem taken_e (A : Option Addr) (c : Nat) (xs : List UInt8) (w : World) (h : BytesAt w A xs) (hl : xs.length ≤ 140737488355328) (hkk : (headM xs).kind = 5) :
    Calls Try.prog 35 #[.slice A xs.length c] w fun e w' => ∃ sv, e = .returned (.agg (cellsM (WM.taken 4 xs) sv)) ∧ Hid (w'.ownsRow w.heap.size 3 1 sv (WM.taken 4 xs).stamp.length (i64s (WM.taken 4 xs).stamp)) ∧ Below w.heap.size w w' := by
  have HA := Lib.hid h; clear h
  have HKK := Lib.hid hkk; clear hkk
  go_enter Try.func35, Try.ntmps35
  go_wp2_with fail
  have HZ := Lib.hid (show w.heap.size + 1 = (w.alloc (.cells #[.int .i64 0, .int .i64 0, .int .i64 0, .int .i64 0, .int .i64 0, .int .i64 0, .int .i64 0, .string ⟨#[]⟩, .int .i64 0, .int .i64 0, .int .i64 0, .bool false, .int .i64 0, .slice none 0 0, .int .i64 0, .int .i64 0] 32)).heap.size by simp)
  have HB0 := Lib.hid ((Below.refl _ w).alloc (Nat.le_refl _) (.cells #[.int .i64 0, .int .i64 0, .int .i64 0, .int .i64 0, .int .i64 0, .int .i64 0, .int .i64 0, .string ⟨#[]⟩, .int .i64 0, .int .i64 0, .int .i64 0, .bool false, .int .i64 0, .slice none 0 0, .int .i64 0, .int .i64 0] 32))
  have HV := Lib.hid (Whole.new w 32 #[.int .i64 0, .int .i64 0, .int .i64 0, .int .i64 0, .int .i64 0, .int .i64 0, .int .i64 0, .string ⟨#[]⟩, .int .i64 0, .int .i64 0, .int .i64 0, .bool false, .int .i64 0, .slice none 0 0, .int .i64 0, .int .i64 0])
  generalize w.alloc (.cells #[.int .i64 0, .int .i64 0, .int .i64 0, .int .i64 0, .int .i64 0, .int .i64 0, .int .i64 0, .string ⟨#[]⟩, .int .i64 0, .int .i64 0, .int .i64 0, .bool false, .int .i64 0, .slice none 0 0, .int .i64 0, .int .i64 0] 32) = wa at HZ HB0 HV ⊢
  refine (Oct.NewReader_any A c xs wa (HA.out.below HB0.out) hl).mono ?_
  rintro e w1 ⟨r, b, rfl, hR, hb1, hr1, hr2, hbb1, hbb2⟩
  have HB1 := Lib.hid (below_on HB0.out hb1)
  have HV1 := Lib.hid ((Mod.of_below hb1 []).whole HV.out (by simp))
  have HSZ := Lib.hid hb1.size
  clear hb1
  have HR := Lib.hid hR; clear hR
  have HN := Lib.hid (show w.heap.size + 1 ≤ r ∧ r < w1.heap.size ∧ w.heap.size + 1 ≤ b ∧ b < w1.heap.size from ⟨by rw [HZ.out]; exact hr1, hr2, by rw [HZ.out]; exact hbb1, hbb2⟩)
  clear hr1 hr2 hbb1 hbb2
  have HR1 := Lib.hid (show RdAt (w1.alloc (.cells #[.pointer (some ⟨r, 0, none⟩)] 102)).drew w1.heap.size r b (xs, 0) from
    (RdAt.drew ⟨Whole.new _ _ _, by
      obtain ⟨A', c', h1, h2, h3⟩ := HR.out
      exact ⟨A', c', h1.alloc _, h2.below ((Below.refl _ w1).alloc (Nat.le_refl _) _), h3⟩, by have := HN.out; omega⟩))
  have HS := HR1.out.ptr
  have HM := Lib.hid (((Mod.refl [r] w1).alloc (.cells #[.pointer (some ⟨r, 0, none⟩)] 102)).drew)
  have HLT := Lib.hid (show w1.heap.size < (w1.alloc (.cells #[.pointer (some ⟨r, 0, none⟩)] 102)).drew.heap.size from by show _ < (w1.alloc (.cells #[.pointer (some ⟨r, 0, none⟩)] 102)).heap.size; simp)
  go_upto_region 2 with (fail)
  go_cut [4] (fun s4 wx => ∃ g : Nat, s4 = .pointer (some ⟨g, 0, none⟩) ∧ Hid (Fin w wx w1.heap.size r b g xs))
  case first =>
    go_region_held3 (fun w2 : World => w2.cell? ⟨w1.heap.size, 0, none⟩ = some (.pointer (some ⟨r, 0, none⟩)))
      (first
        | (with_reducible exact HS)
        | (with_reducible exact alloc_cell HS)
        | (with_reducible (repeat (first | exact HS | refine (far_cell HG.out.new _).trans ?_)); done)
        | (go_keep; done))
      (first
        | (go_at_call 65; (with_reducible refine (num_tnum _ w1.heap.size r b _ HR1.out).mono ?_); rintro x w2 ⟨rfl, hT⟩; replace HLT := Lib.hid (Nat.lt_of_lt_of_le HLT.out hT.2.size); replace HR1 := Lib.hid hT.1; replace HM := Lib.hid (HM.out.trans hT.2 (fun x hx => .inl hx)); (try (replace HG := Lib.hid (HG.out.took hT.2 HN.out.2.1); (try clear HF c0 c1 c2 c3 c4 c5 c6 c7 c8 c9 c10 c11 c12 c13 c14 c15); have HF := fun i => HG.out.blk.frozen i; obtain ⟨c0, c1, c2, c3, c4, c5, c6, c7, c8, c9, c10, c11, c12, c13, c14, c15⟩ := msg_cells HG.out.blk)); clear hT; replace HS := HR1.out.ptr)
        | (go_at_call 65; refine (num_alloc w1 _ w1.heap.size r b _ HR1.out (w1.heap.size + 1) (by show w1.heap.size + 1 = (w1.alloc (.cells #[.pointer (some ⟨r, 0, none⟩)] 102)).heap.size; simp) HN.out.2.1 HLT.out).mono ?_; rintro x w2 ⟨rfl, hR9, hM9, hG9⟩; replace HLT := Lib.hid (Nat.lt_of_lt_of_le HLT.out hM9.size); replace HR1 := Lib.hid hR9; replace HM := Lib.hid (HM.out.trans hM9 (fun x hx => .inl hx)); have HG := Lib.hid hG9; clear hR9 hM9 hG9; replace HS := HR1.out.ptr; have HF := fun i => HG.out.blk.frozen i; obtain ⟨c0, c1, c2, c3, c4, c5, c6, c7, c8, c9, c10, c11, c12, c13, c14, c15⟩ := msg_cells HG.out.blk)
        | (go_at_call 65; refine (num_alloc w1 _ w1.heap.size r b _ HR1.out _ rfl HN.out.2.1 HLT.out).mono ?_; rintro x w2 ⟨rfl, hR9, hM9, hG9⟩; replace HLT := Lib.hid (Nat.lt_of_lt_of_le HLT.out hM9.size); replace HR1 := Lib.hid hR9; replace HM := Lib.hid (HM.out.trans hM9 (fun x hx => .inl hx)); have HG := Lib.hid hG9; clear hR9 hM9 hG9; replace HS := HR1.out.ptr; have HF := fun i => HG.out.blk.frozen i; obtain ⟨c0, c1, c2, c3, c4, c5, c6, c7, c8, c9, c10, c11, c12, c13, c14, c15⟩ := msg_cells HG.out.blk))
    all_goals
      go_wp2_with fail
      go_meet
      first
        | exact ⟨_, rfl, Lib.hid (fin16 HB1.out HN.out rfl HR1.out HM.out HG.out HV1.out (put16 HG.out.blk (headM xs) (.slice none 0 0)))⟩
        | exact ⟨_, rfl, Lib.hid (fin_of HB1.out HN.out rfl (RdAt.alloc HR1.out _) (HM.out.alloc _) HLT.out (Whole.new w2 _ _) HV1.out)⟩
  case rest =>
    obtain ⟨g, rfl, HF⟩ := hcut
    clear HS HM HLT HR1 HR HV1 HB1 HSZ HZ HB0 HV HN HA
    generalize w1.heap.size = q at HF ⊢
    have HE := Lib.hid (taken_part xs)
    have HX := Lib.hid HF.out.below
    have HRS := Lib.hid HF.out.res
    have HFR := Lib.hid HF.out.far
    have HNW := Lib.hid HF.out.new
    have HB := Lib.hid HF.out.both
    clear HF
    generalize hTK : WM.taken 4 xs = TK at HE
    have HTK := Lib.hid hTK
    clear hTK
    generalize headM xs = M0 at HE HB HKK
    generalize headS xs = S0 at HE HB
    by_cases hk : M0.kind = 5
    · have HE1 := Lib.hid (show TK = (WM.opT 4 M0 S0).1 by rw [HE.out]; unfold WM.partT; rw [if_neg (show ¬ M0.kind = 1 by omega), if_neg (show ¬ M0.kind = 2 by omega), if_neg (show ¬ M0.kind = 3 by omega), if_neg (show ¬ M0.kind = 4 by omega), if_pos hk])
      have c0 : wc.cell? ⟨g, 0, none⟩ = some (.int .i64 5) := by rw [← hk]; exact HB.out.blk.cell 0
      clear hk HE
      go_wp2_with fail
      refine (layout_op wc).mono ?_
      rintro e w3 ⟨rfl, hb3⟩
      clear c0
      have HB3 := Lib.hid ((HB.out.below hb3).below ((Below.refl _ w3).alloc (Nat.le_refl _) (.cells #[fnV 58, fnV 59, fnV 60] 84)))
      clear hb3
      go_wp2_with fail
      refine (rop_any wc _ q r b g S0 M0 (.slice none 0 0) HB3.out).mono ?_
      rintro e w5 ⟨rfl, sv5, hB5⟩
      rw [← HE1.out] at hB5
      obtain ⟨A5, n5, hv5, _, _⟩ := own_shape hB5.own
      subst hv5
      have HB5 := Lib.hid hB5
      clear hB5 HB3
      generalize (WM.opT 4 M0 S0).2 = S5 at HB5
      have HR5 := Lib.hid (HB5.out.mod.whole HRS.out (by have h1 := HFR.out; have h2 := HNW.out; simp; omega))
      have HX5 := Lib.hid (HX.out.trans (HB5.out.mod.below HX.out.size (by intro x hx; have h1 := HFR.out; have h2 := HNW.out; simp at hx; omega)))
      clear HE1
      have HLD := Lib.hid (msg_range HB5.out.blk)
      go_wp2_with (first
        | (refine wpList_load_mid rfl 32 (.tmp 4) rfl g 0 rfl (cellsM TK (.slice A5 TK.stamp.length n5)).toList _ HLD.out Try.underlying32 rfl (by kernel_rfl) ?_)
        | (refine wpList_store_row rfl 32 (.tmp 2) (.tmp 30) rfl w.heap.size (cellsM TK (.slice A5 TK.stamp.length n5)) rfl rfl 32 _ HR5.out (by kernel_rfl) rfl (by simp [cellsM, Value.oneCell']) ?_))
      obtain ⟨hK, hM⟩ := row16 HR5.out TK (.slice A5 TK.stamp.length n5)
      have HO := Lib.hid (hM.own HB5.out.own (fun k hk => by have h1 := (HB5.out.own.lt k hk).1; have h2 := HX.out.size; have h4 := HB5.out.old; have h5 := HNW.out; simp; omega))
      have HX6 := Lib.hid (HX5.out.trans (hM.below HX5.out.size (by simp)))
      have HK := Lib.hid hK
      clear hK hM
      generalize (World.setRow _ _ _) = w6 at HO HX6 HK ⊢
      obtain ⟨c0, c1, c2, c3, c4, c5, c6, c7, c8, c9, c10, c11, c12, c13, c14, c15⟩ := msg_cells HK.out
      change bodyPost Try.prog _ _ Exit.ret _ _
      refine bodyPost_ret (v := .agg (cellsM TK (.slice A5 TK.stamp.length n5))) (by simp [results, Try.results35, go_sem, c0, c1, c2, c3, c4, c5, c6, c7, c8, c9, c10, c11, c12, c13, c14, c15, cellsM]) rfl ?_
      exact ⟨(.slice A5 TK.stamp.length n5), by rw [HTK.out], Lib.hid (by rw [HTK.out]; exact own_base HO.out HX.out.size), HX6.out⟩
    exact absurd HKK.out (by omega)
end Go.Proofs.Ytbjemihcbbiiaaa
namespace Go.Proofs.Ytbjemihcbbiiaaa
open Go.RowKit
open Oct (RAt BytesAt)
open WM (Msg)
set_option linter.unusedVariables false
set_option maxRecDepth 100000
attribute [local go_sem] run_store_func run_store_nilFunc
set_option maxHeartbeats 4000000 in
theorem taken_f (A : Option Addr) (c : Nat) (xs : List UInt8) (w : World) (h : BytesAt w A xs) (hl : xs.length ≤ 140737488355328) (hkk : ¬ (1 ≤ (headM xs).kind ∧ (headM xs).kind ≤ 5)) :
    Calls Try.prog 35 #[.slice A xs.length c] w fun e w' => ∃ sv, e = .returned (.agg (cellsM (WM.taken 4 xs) sv)) ∧ Hid (w'.ownsRow w.heap.size 3 1 sv (WM.taken 4 xs).stamp.length (i64s (WM.taken 4 xs).stamp)) ∧ Below w.heap.size w w' := by
  have HA := Lib.hid h; clear h
  have HKK := Lib.hid hkk; clear hkk
  go_enter Try.func35, Try.ntmps35
  go_wp2_with fail
  have HZ := Lib.hid (show w.heap.size + 1 = (w.alloc (.cells #[.int .i64 0, .int .i64 0, .int .i64 0, .int .i64 0, .int .i64 0, .int .i64 0, .int .i64 0, .string ⟨#[]⟩, .int .i64 0, .int .i64 0, .int .i64 0, .bool false, .int .i64 0, .slice none 0 0, .int .i64 0, .int .i64 0] 32)).heap.size by simp)
  have HB0 := Lib.hid ((Below.refl _ w).alloc (Nat.le_refl _) (.cells #[.int .i64 0, .int .i64 0, .int .i64 0, .int .i64 0, .int .i64 0, .int .i64 0, .int .i64 0, .string ⟨#[]⟩, .int .i64 0, .int .i64 0, .int .i64 0, .bool false, .int .i64 0, .slice none 0 0, .int .i64 0, .int .i64 0] 32))
  have HV := Lib.hid (Whole.new w 32 #[.int .i64 0, .int .i64 0, .int .i64 0, .int .i64 0, .int .i64 0, .int .i64 0, .int .i64 0, .string ⟨#[]⟩, .int .i64 0, .int .i64 0, .int .i64 0, .bool false, .int .i64 0, .slice none 0 0, .int .i64 0, .int .i64 0])
  generalize w.alloc (.cells #[.int .i64 0, .int .i64 0, .int .i64 0, .int .i64 0, .int .i64 0, .int .i64 0, .int .i64 0, .string ⟨#[]⟩, .int .i64 0, .int .i64 0, .int .i64 0, .bool false, .int .i64 0, .slice none 0 0, .int .i64 0, .int .i64 0] 32) = wa at HZ HB0 HV ⊢
  refine (Oct.NewReader_any A c xs wa (HA.out.below HB0.out) hl).mono ?_
  rintro e w1 ⟨r, b, rfl, hR, hb1, hr1, hr2, hbb1, hbb2⟩
  have HB1 := Lib.hid (below_on HB0.out hb1)
  have HV1 := Lib.hid ((Mod.of_below hb1 []).whole HV.out (by simp))
  have HSZ := Lib.hid hb1.size
  clear hb1
  have HR := Lib.hid hR; clear hR
  have HN := Lib.hid (show w.heap.size + 1 ≤ r ∧ r < w1.heap.size ∧ w.heap.size + 1 ≤ b ∧ b < w1.heap.size from ⟨by rw [HZ.out]; exact hr1, hr2, by rw [HZ.out]; exact hbb1, hbb2⟩)
  clear hr1 hr2 hbb1 hbb2
  have HR1 := Lib.hid (show RdAt (w1.alloc (.cells #[.pointer (some ⟨r, 0, none⟩)] 102)).drew w1.heap.size r b (xs, 0) from
    (RdAt.drew ⟨Whole.new _ _ _, by
      obtain ⟨A', c', h1, h2, h3⟩ := HR.out
      exact ⟨A', c', h1.alloc _, h2.below ((Below.refl _ w1).alloc (Nat.le_refl _) _), h3⟩, by have := HN.out; omega⟩))
  have HS := HR1.out.ptr
  have HM := Lib.hid (((Mod.refl [r] w1).alloc (.cells #[.pointer (some ⟨r, 0, none⟩)] 102)).drew)
  have HLT := Lib.hid (show w1.heap.size < (w1.alloc (.cells #[.pointer (some ⟨r, 0, none⟩)] 102)).drew.heap.size from by show _ < (w1.alloc (.cells #[.pointer (some ⟨r, 0, none⟩)] 102)).heap.size; simp)
  go_upto_region 2 with (fail)
  go_cut [4] (fun s4 wx => ∃ g : Nat, s4 = .pointer (some ⟨g, 0, none⟩) ∧ Hid (Fin w wx w1.heap.size r b g xs))
  case first =>
    go_region_held3 (fun w2 : World => w2.cell? ⟨w1.heap.size, 0, none⟩ = some (.pointer (some ⟨r, 0, none⟩)))
      (first
        | (with_reducible exact HS)
        | (with_reducible exact alloc_cell HS)
        | (with_reducible (repeat (first | exact HS | refine (far_cell HG.out.new _).trans ?_)); done)
        | (go_keep; done))
      (first
        | (go_at_call 65; (with_reducible refine (num_tnum _ w1.heap.size r b _ HR1.out).mono ?_); rintro x w2 ⟨rfl, hT⟩; replace HLT := Lib.hid (Nat.lt_of_lt_of_le HLT.out hT.2.size); replace HR1 := Lib.hid hT.1; replace HM := Lib.hid (HM.out.trans hT.2 (fun x hx => .inl hx)); (try (replace HG := Lib.hid (HG.out.took hT.2 HN.out.2.1); (try clear HF c0 c1 c2 c3 c4 c5 c6 c7 c8 c9 c10 c11 c12 c13 c14 c15); have HF := fun i => HG.out.blk.frozen i; obtain ⟨c0, c1, c2, c3, c4, c5, c6, c7, c8, c9, c10, c11, c12, c13, c14, c15⟩ := msg_cells HG.out.blk)); clear hT; replace HS := HR1.out.ptr)
        | (go_at_call 65; refine (num_alloc w1 _ w1.heap.size r b _ HR1.out (w1.heap.size + 1) (by show w1.heap.size + 1 = (w1.alloc (.cells #[.pointer (some ⟨r, 0, none⟩)] 102)).heap.size; simp) HN.out.2.1 HLT.out).mono ?_; rintro x w2 ⟨rfl, hR9, hM9, hG9⟩; replace HLT := Lib.hid (Nat.lt_of_lt_of_le HLT.out hM9.size); replace HR1 := Lib.hid hR9; replace HM := Lib.hid (HM.out.trans hM9 (fun x hx => .inl hx)); have HG := Lib.hid hG9; clear hR9 hM9 hG9; replace HS := HR1.out.ptr; have HF := fun i => HG.out.blk.frozen i; obtain ⟨c0, c1, c2, c3, c4, c5, c6, c7, c8, c9, c10, c11, c12, c13, c14, c15⟩ := msg_cells HG.out.blk)
        | (go_at_call 65; refine (num_alloc w1 _ w1.heap.size r b _ HR1.out _ rfl HN.out.2.1 HLT.out).mono ?_; rintro x w2 ⟨rfl, hR9, hM9, hG9⟩; replace HLT := Lib.hid (Nat.lt_of_lt_of_le HLT.out hM9.size); replace HR1 := Lib.hid hR9; replace HM := Lib.hid (HM.out.trans hM9 (fun x hx => .inl hx)); have HG := Lib.hid hG9; clear hR9 hM9 hG9; replace HS := HR1.out.ptr; have HF := fun i => HG.out.blk.frozen i; obtain ⟨c0, c1, c2, c3, c4, c5, c6, c7, c8, c9, c10, c11, c12, c13, c14, c15⟩ := msg_cells HG.out.blk))
    all_goals
      go_wp2_with fail
      go_meet
      first
        | exact ⟨_, rfl, Lib.hid (fin16 HB1.out HN.out rfl HR1.out HM.out HG.out HV1.out (put16 HG.out.blk (headM xs) (.slice none 0 0)))⟩
        | exact ⟨_, rfl, Lib.hid (fin_of HB1.out HN.out rfl (RdAt.alloc HR1.out _) (HM.out.alloc _) HLT.out (Whole.new w2 _ _) HV1.out)⟩
  case rest =>
    obtain ⟨g, rfl, HF⟩ := hcut
    clear HS HM HLT HR1 HR HV1 HB1 HSZ HZ HB0 HV HN HA
    generalize w1.heap.size = q at HF ⊢
    have HE := Lib.hid (taken_part xs)
    have HX := Lib.hid HF.out.below
    have HRS := Lib.hid HF.out.res
    have HFR := Lib.hid HF.out.far
    have HNW := Lib.hid HF.out.new
    have HB := Lib.hid HF.out.both
    clear HF
    generalize hTK : WM.taken 4 xs = TK at HE
    have HTK := Lib.hid hTK
    clear hTK
    generalize headM xs = M0 at HE HB HKK
    generalize headS xs = S0 at HE HB
    have HE1 := Lib.hid (show TK = M0 by rw [HE.out]; unfold WM.partT; rw [if_neg (show ¬ M0.kind = 1 by have := HKK.out; omega), if_neg (show ¬ M0.kind = 2 by have := HKK.out; omega), if_neg (show ¬ M0.kind = 3 by have := HKK.out; omega), if_neg (show ¬ M0.kind = 4 by have := HKK.out; omega), if_neg (show ¬ M0.kind = 5 by have := HKK.out; omega)])
    have hno : ¬ (1 ≤ M0.kind ∧ M0.kind ≤ 5) := by have := HKK.out; omega
    have c0 : wc.cell? ⟨g, 0, none⟩ = some (.int .i64 M0.kind) := HB.out.blk.cell 0
    have HNO := Lib.hid hno
    clear HE hno
    go_wp2_with fail
    refine (layout_no M0.kind wc HNO.out).mono ?_
    rintro e w3 ⟨rfl, hb3⟩
    clear c0
    have HB5 := Lib.hid ((HB.out.below hb3).below ((Below.refl _ w3).alloc (Nat.le_refl _) (.cells #[.nilFunc, .nilFunc, .nilFunc] 84)))
    rw [← HE1.out] at HB5
    clear hb3
    have HR5 := Lib.hid (HB5.out.mod.whole HRS.out (by have h1 := HFR.out; have h2 := HNW.out; simp; omega))
    have HX5 := Lib.hid (HX.out.trans (HB5.out.mod.below HX.out.size (by intro x hx; have h1 := HFR.out; have h2 := HNW.out; simp at hx; omega)))
    clear HE1
    have HLD := Lib.hid (msg_range HB5.out.blk)
    go_wp2_with (first
      | (refine wpList_load_mid rfl 32 (.tmp 4) rfl g 0 rfl (cellsM TK (.slice none 0 0)).toList _ HLD.out Try.underlying32 rfl (by kernel_rfl) ?_)
      | (refine wpList_store_row rfl 32 (.tmp 2) (.tmp 30) rfl w.heap.size (cellsM TK (.slice none 0 0)) rfl rfl 32 _ HR5.out (by kernel_rfl) rfl (by simp [cellsM, Value.oneCell']) ?_))
    obtain ⟨hK, hM⟩ := row16 HR5.out TK (.slice none 0 0)
    have HO := Lib.hid (hM.own HB5.out.own (fun k hk => by have h1 := (HB5.out.own.lt k hk).1; have h2 := HX.out.size; have h4 := HB5.out.old; have h5 := HNW.out; simp; omega))
    have HX6 := Lib.hid (HX5.out.trans (hM.below HX5.out.size (by simp)))
    have HK := Lib.hid hK
    clear hK hM
    generalize (World.setRow _ _ _) = w6 at HO HX6 HK ⊢
    obtain ⟨c0, c1, c2, c3, c4, c5, c6, c7, c8, c9, c10, c11, c12, c13, c14, c15⟩ := msg_cells HK.out
    change bodyPost Try.prog _ _ Exit.ret _ _
    refine bodyPost_ret (v := .agg (cellsM TK (.slice none 0 0))) (by simp [results, Try.results35, go_sem, c0, c1, c2, c3, c4, c5, c6, c7, c8, c9, c10, c11, c12, c13, c14, c15, cellsM]) rfl ?_
    exact ⟨(.slice none 0 0), by rw [HTK.out], Lib.hid (by rw [HTK.out]; exact own_base HO.out HX.out.size), HX6.out⟩
end Go.Proofs.Ytbjemihcbbiiaaa
