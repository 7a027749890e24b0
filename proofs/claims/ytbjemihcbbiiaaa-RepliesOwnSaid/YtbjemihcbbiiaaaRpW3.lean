/- The client goes on as far as its Ask says. -/
import Derived.Test.YtbjemihcbbiiaaaRpW2
namespace Go.Proofs.Ytbjemihcbbiiaaa
open Go.RowKit
open RP (Kp St)
open WM (Msg)
set_option linter.unusedVariables false
set_option linter.unusedSimpArgs false
set_option maxRecDepth 100000
theorem cell_ad {w : World} {p : Addr} {v : Value} (h : w.cell? p = some v) (o : Obj) : (w.alloc o).drew.cell? p = some v := by
  show (w.alloc o).cell? p = some v
  rw [World.cell?_alloc_lt _ _ _ (World.block_lt_of_cell? w _ h)]
  exact h
theorem cell_a {w : World} {p : Addr} {v : Value} (h : w.cell? p = some v) (o : Obj) : (w.alloc o).cell? p = some v := by
  rw [World.cell?_alloc_lt _ _ _ (World.block_lt_of_cell? w _ h)]
  exact h
theorem cell_s2 {w : World} {p : Addr} {v : Value} (h : w.cell? p = some v) {b : Nat} (hn : p.block ≠ b) (x y : Value) : ((w.setCell ⟨b, 0, none⟩ x).setCell ⟨b, 1, none⟩ y).cell? p = some v := by
  rw [World.cell?_setCell_other _ _ _ _ (fun e => hn (by rw [← e])), World.cell?_setCell_other _ _ _ _ (fun e => hn (by rw [← e]))]
  exact h
/-- The places, the first j of them seen through. -/
def mid (k : Kp) (b l : Int) (j : Nat) : Kp := ⟨b, l, (k.ans.take j).map (RP.keepIf b l) ++ k.ans.drop j⟩
theorem mid_zero (k : Kp) (b l : Int) : mid k b l 0 = ⟨b, l, k.ans⟩ := by unfold mid; simp
theorem mid_end (k : Kp) (b l : Int) (h : k.ans.length = 8) : mid k b l 8 = ⟨b, l, k.ans.map (RP.keepIf b l)⟩ := by
  unfold mid
  rw [List.take_of_length_le (by omega), List.drop_of_length_le (by omega), List.append_nil]
theorem mid_ans {k : Kp} {b l : Int} {j : Nat} {x : Msg} (h : k.ans[j]? = some x) : (mid k b l (j + 1)).ans = (k.ans.take j).map (RP.keepIf b l) ++ RP.keepIf b l x :: k.ans.drop (j + 1) := by
  obtain ⟨hj, e⟩ := List.getElem?_eq_some_iff.1 h
  unfold mid
  rw [List.take_add_one, h, List.map_append, List.append_assoc]
  rfl
theorem mid_old {k : Kp} {b l : Int} {j : Nat} {x : Msg} (h : k.ans[j]? = some x) : (mid k b l j).ans = (k.ans.take j).map (RP.keepIf b l) ++ x :: k.ans.drop (j + 1) := by
  obtain ⟨hj, e⟩ := List.getElem?_eq_some_iff.1 h
  unfold mid
  rw [List.drop_eq_getElem_cons hj, e]
theorem mid_at {k : Kp} {b l : Int} {j : Nat} {x : Msg} (h : k.ans[j]? = some x) : (mid k b l j).ans[j]? = some x := by
  have hj := (List.getElem?_eq_some_iff.1 h).1
  have hl : ((k.ans.take j).map (RP.keepIf b l)).length = j := by rw [List.length_map, List.length_take]; omega
  rw [mid_old h, List.getElem?_append_right (by rw [hl]; exact Nat.le_refl _), hl, Nat.sub_self]
  rfl
theorem mid_yes {k : Kp} {b l : Int} {j : Nat} {x : Msg} (h : k.ans[j]? = some x) (hh : RP.has b l x = true) : mid k b l (j + 1) = mid k b l j := by
  have e : (mid k b l (j + 1)).ans = (mid k b l j).ans := by rw [mid_ans h, mid_old h]; unfold RP.keepIf; rw [hh]; simp
  show (⟨b, l, (mid k b l (j + 1)).ans⟩ : Kp) = ⟨b, l, (mid k b l j).ans⟩
  rw [e]
theorem mid_no {k : Kp} {b l : Int} {j : Nat} {x : Msg} (h : k.ans[j]? = some x) (hh : RP.has b l x = false) : (⟨(mid k b l j).boot, (mid k b l j).low, (mid k b l j).ans.set j WM.zero⟩ : Kp) = mid k b l (j + 1) := by
  have hj := (List.getElem?_eq_some_iff.1 h).1
  have e : (mid k b l j).ans.set j WM.zero = (mid k b l (j + 1)).ans := by
    rw [mid_ans h, mid_old h, show RP.keepIf b l x = WM.zero by unfold RP.keepIf; rw [hh]; rfl]
    have hl : ((k.ans.take j).map (RP.keepIf b l)).length = j := by rw [List.length_map, List.length_take]; omega
    rw [List.set_append_right _ _ (by rw [hl]; exact Nat.le_refl _), hl, Nat.sub_self]
    rfl
  show (⟨b, l, (mid k b l j).ans.set j WM.zero⟩ : Kp) = ⟨b, l, (mid k b l (j + 1)).ans⟩
  rw [e]
/-- A message out of a row of eight, by value. -/
theorem run_index_slot {l xs : List Value} {j : Nat} (w : World) (hj : j < 8) (hx : xs.length = 16) (h : (l.drop (j * 16)).take 16 = xs) :
    (Instr.index 62 (.agg l.toArray) (.int .i64 (j : Int))).run Try.prog w = .ok (.agg xs.toArray) w := by
  have hs : (Try.prog.info? 32).map (·.size) = some 16 := by kernel_rfl
  cases hq : Try.prog.info? 32 with
  | none => rw [hq] at hs; cases hs
  | some ti =>
    have hz : ti.size = 16 := by rw [hq] at hs; simpa using hs
    have h2 : ((j : Int) < 8) := by omega
    have hagg : (isAgg 32).run Try.prog w = .ok true w := by
      unfold isAgg
      rw [Sem.run_bind, run_underlying Try.underlying32 w]
      rfl
    have he : (l.toArray.extract (j * 16) (j * 16 + 16)) = xs.toArray := by
      apply Array.ext'
      rw [Array.toList_extract, ← h]
      simp [List.extract_eq_take_drop]
    simp [Instr.index, run_underlying Try.underlying62, asIntOf, h2, hj, h, sizeOf, typeInfo, hq, hz, part, hagg, he]
theorem set_self {α : Type} {l : List α} {i : Nat} {x : α} (h : l[i]? = some x) : l.set i x = l := by
  apply List.ext_getElem?
  intro j
  rw [List.getElem?_set]
  by_cases e : i = j
  · subst e; rw [h]; simp; exact (List.getElem?_eq_some_iff.1 h).1
  · simp [e]
theorem zero_one : (cellsM WM.zero (.slice none 0 0)).all (·.oneCell') = true := by kernel_rfl
theorem fit_zero (w : World) : Fit w none 0 WM.zero :=
  ⟨(by constructor <;> first | (unfold In64 WM.zero; decide) | (unfold WM.zero; decide) | (intro x hx; cases hx)), IntsAt.nil _ _, (by intro ad e; cases e), Nat.le_refl _, (by omega)⟩
section
variable {w : World} {g lo up i : Nat} {s : St} {k : Kp}
set_option maxHeartbeats 4000000 in
theorem follow_any (h : RepAt w g lo up s) (hi : s[i]? = some k) (hk : RP.Ok k) (m : Msg) (sv : Value) (hm : RP.AskB m) :
    Calls Try.prog 25 #[.pointer (some ⟨g, i * 130, none⟩), .agg (cellsM m sv)] w fun e w' => (∃ v, e = .returned v) ∧ Hid (RepAt w' g lo up (s.set i (RP.follow k m))) ∧ Hid (Mod [g] w w') := by
  have HX := Lib.hid ((Below.refl w.heap.size w).alloc (Nat.le_refl _) (.cells (cellsM m sv) 32))
  have HR := Lib.hid (h.below HX.out)
  have HK := Lib.hid (Whole.new w 32 (cellsM m sv))
  have HI := Lib.hid hi
  have HOK := Lib.hid hk
  have HM := Lib.hid hm
  have HG := Lib.hid (show g < w.heap.size from h.ltS)
  have HL := Lib.hid h.le
  clear h hi hk hm
  go_enter Try.func25, Try.ntmps25
  go_upto_region 1 with (fail)
  generalize w.alloc (.cells (cellsM m sv) 32) = w0 at HX HR HK ⊢
  go_cut [4] from 5 to 12 (fun p wx => ∃ P, p = .pointer (some ⟨P, 0, none⟩) ∧ Hid (RepAt wx g lo up s) ∧ Hid (Whole wx P 61 #[.int .i64 (RP.aftB k.boot k.low m), .int .i64 (RP.aftL k.boot k.low m)]) ∧ Hid (Below w.heap.size w wx) ∧ Hid (w.heap.size < P))
  case first =>
    go_wp2_with fail
    have hc := HR.out.cl i k HI.out
    have HS : w0.drew.cell? ⟨g, i * 130, none⟩ = some (.int .i64 k.boot) ∧ w0.drew.cell? ⟨g, i * 130 + 1, none⟩ = some (.int .i64 k.low) ∧ (w0.drew.cell? ⟨w.heap.size, 0, none⟩ = some (.int .i64 m.kind) ∧ w0.drew.cell? ⟨w.heap.size, 1, none⟩ = some (.int .i64 m.frm) ∧ w0.drew.cell? ⟨w.heap.size, 2, none⟩ = some (.int .i64 m.dst) ∧ w0.drew.cell? ⟨w.heap.size, 3, none⟩ = some (.int .i64 m.boot) ∧ w0.drew.cell? ⟨w.heap.size, 4, none⟩ = some (.int .i64 m.seq) ∧ w0.drew.cell? ⟨w.heap.size, 5, none⟩ = some (.int .i64 m.low) ∧ w0.drew.cell? ⟨w.heap.size, 6, none⟩ = some (.int .i64 m.verb) ∧ w0.drew.cell? ⟨w.heap.size, 7, none⟩ = some (.string m.path) ∧ w0.drew.cell? ⟨w.heap.size, 8, none⟩ = some (.int .i64 m.mode) ∧ w0.drew.cell? ⟨w.heap.size, 9, none⟩ = some (.int .i64 m.term) ∧ w0.drew.cell? ⟨w.heap.size, 10, none⟩ = some (.int .i64 m.id) ∧ w0.drew.cell? ⟨w.heap.size, 11, none⟩ = some (.bool m.fresh) ∧ w0.drew.cell? ⟨w.heap.size, 12, none⟩ = some (.int .i64 m.code) ∧ w0.drew.cell? ⟨w.heap.size, 13, none⟩ = some (sv) ∧ w0.drew.cell? ⟨w.heap.size, 14, none⟩ = some (.int .i64 m.origin) ∧ w0.drew.cell? ⟨w.heap.size, 15, none⟩ = some (.int .i64 m.number)) := ⟨hc.bt, hc.lw, msg_cells HK.out⟩
    clear hc
    have hg0 : g < w0.heap.size := HR.out.ltS
    have hz0 : w.heap.size < w0.heap.size := HK.out.lt
    go_region_held3 (fun w' : World => w'.cell? ⟨g, i * 130, none⟩ = some (.int .i64 k.boot) ∧ w'.cell? ⟨g, i * 130 + 1, none⟩ = some (.int .i64 k.low) ∧ (w'.cell? ⟨w.heap.size, 0, none⟩ = some (.int .i64 m.kind) ∧ w'.cell? ⟨w.heap.size, 1, none⟩ = some (.int .i64 m.frm) ∧ w'.cell? ⟨w.heap.size, 2, none⟩ = some (.int .i64 m.dst) ∧ w'.cell? ⟨w.heap.size, 3, none⟩ = some (.int .i64 m.boot) ∧ w'.cell? ⟨w.heap.size, 4, none⟩ = some (.int .i64 m.seq) ∧ w'.cell? ⟨w.heap.size, 5, none⟩ = some (.int .i64 m.low) ∧ w'.cell? ⟨w.heap.size, 6, none⟩ = some (.int .i64 m.verb) ∧ w'.cell? ⟨w.heap.size, 7, none⟩ = some (.string m.path) ∧ w'.cell? ⟨w.heap.size, 8, none⟩ = some (.int .i64 m.mode) ∧ w'.cell? ⟨w.heap.size, 9, none⟩ = some (.int .i64 m.term) ∧ w'.cell? ⟨w.heap.size, 10, none⟩ = some (.int .i64 m.id) ∧ w'.cell? ⟨w.heap.size, 11, none⟩ = some (.bool m.fresh) ∧ w'.cell? ⟨w.heap.size, 12, none⟩ = some (.int .i64 m.code) ∧ w'.cell? ⟨w.heap.size, 13, none⟩ = some (sv) ∧ w'.cell? ⟨w.heap.size, 14, none⟩ = some (.int .i64 m.origin) ∧ w'.cell? ⟨w.heap.size, 15, none⟩ = some (.int .i64 m.number)))
      (first
        | exact HS
        | (obtain ⟨s0, s1, s2, s3, s4, s5, s6, s7, s8, s9, s10, s11, s12, s13, s14, s15, s16, s17⟩ := HS; exact ⟨cell_ad s0 _, cell_ad s1 _, cell_ad s2 _, cell_ad s3 _, cell_ad s4 _, cell_ad s5 _, cell_ad s6 _, cell_ad s7 _, cell_ad s8 _, cell_ad s9 _, cell_ad s10 _, cell_ad s11 _, cell_ad s12 _, cell_ad s13 _, cell_ad s14 _, cell_ad s15 _, cell_ad s16 _, cell_ad s17 _⟩)
        | (obtain ⟨s0, s1, s2, s3, s4, s5, s6, s7, s8, s9, s10, s11, s12, s13, s14, s15, s16, s17⟩ := HS; exact ⟨cell_a s0 _, cell_a s1 _, cell_a s2 _, cell_a s3 _, cell_a s4 _, cell_a s5 _, cell_a s6 _, cell_a s7 _, cell_a s8 _, cell_a s9 _, cell_a s10 _, cell_a s11 _, cell_a s12 _, cell_a s13 _, cell_a s14 _, cell_a s15 _, cell_a s16 _, cell_a s17 _⟩)
        | (have hh := HS5.out; obtain ⟨s0, s1, s2, s3, s4, s5, s6, s7, s8, s9, s10, s11, s12, s13, s14, s15, s16, s17⟩ := hh; exact ⟨cell_a s0 _, cell_a s1 _, cell_a s2 _, cell_a s3 _, cell_a s4 _, cell_a s5 _, cell_a s6 _, cell_a s7 _, cell_a s8 _, cell_a s9 _, cell_a s10 _, cell_a s11 _, cell_a s12 _, cell_a s13 _, cell_a s14 _, cell_a s15 _, cell_a s16 _, cell_a s17 _⟩)
        | (have hh := HS5.out; obtain ⟨s0, s1, s2, s3, s4, s5, s6, s7, s8, s9, s10, s11, s12, s13, s14, s15, s16, s17⟩ := hh; exact ⟨cell_s2 s0 (show g ≠ w0.heap.size by omega) _ _, cell_s2 s1 (show g ≠ w0.heap.size by omega) _ _, cell_s2 s2 (show w.heap.size ≠ w0.heap.size by omega) _ _, cell_s2 s3 (show w.heap.size ≠ w0.heap.size by omega) _ _, cell_s2 s4 (show w.heap.size ≠ w0.heap.size by omega) _ _, cell_s2 s5 (show w.heap.size ≠ w0.heap.size by omega) _ _, cell_s2 s6 (show w.heap.size ≠ w0.heap.size by omega) _ _, cell_s2 s7 (show w.heap.size ≠ w0.heap.size by omega) _ _, cell_s2 s8 (show w.heap.size ≠ w0.heap.size by omega) _ _, cell_s2 s9 (show w.heap.size ≠ w0.heap.size by omega) _ _, cell_s2 s10 (show w.heap.size ≠ w0.heap.size by omega) _ _, cell_s2 s11 (show w.heap.size ≠ w0.heap.size by omega) _ _, cell_s2 s12 (show w.heap.size ≠ w0.heap.size by omega) _ _, cell_s2 s13 (show w.heap.size ≠ w0.heap.size by omega) _ _, cell_s2 s14 (show w.heap.size ≠ w0.heap.size by omega) _ _, cell_s2 s15 (show w.heap.size ≠ w0.heap.size by omega) _ _, cell_s2 s16 (show w.heap.size ≠ w0.heap.size by omega) _ _, cell_s2 s17 (show w.heap.size ≠ w0.heap.size by omega) _ _⟩)
        | (go_keep; done))
      (first
        | (go_at_call 37; refine (after_any k.boot k.low m sv _).mono ?_; rintro x w5 ⟨rfl, hb⟩; have HB5 := Lib.hid (show Below w0.heap.size w0 w5 from below_on (by first | exact Below.drew (Below.refl _ w0) | exact Below.drew ((Below.refl _ w0).alloc (Nat.le_refl _) _)) hb); have HR5 := Lib.hid (HR.out.below HB5.out); have HK5 := Lib.hid (blk_below HK.out HB5.out); replace HS := And.intro (HR5.out.cl i k HI.out).bt (And.intro (HR5.out.cl i k HI.out).lw (msg_cells HK5.out)); have HS5 := Lib.hid HS; (first | (have HN := Lib.hid (blk_below (show Whole (w0.alloc (.cells #[.int .i64 0, .int .i64 0] 61)).drew w0.heap.size 61 #[.int .i64 0, .int .i64 0] from Whole.new w0 _ _) hb); have n0 : w5.cell? ⟨w0.heap.size, 0, none⟩ = some (.int .i64 0) := HN.out.cell 0; have n1 : w5.cell? ⟨w0.heap.size, 1, none⟩ = some (.int .i64 0) := HN.out.cell 1; have nf0 := HN.out.frozen 0; have nf1 := HN.out.frozen 1) | skip); clear hb))
    · go_wp2_with fail
      go_meet
      exact ⟨_, rfl, Lib.hid (HR5.out.below ((Below.refl _ _).alloc (Nat.le_refl _) _)), Lib.hid (Whole.new w5 _ _), Lib.hid ((below_on HX.out HB5.out).alloc (below_on HX.out HB5.out).size _), Lib.hid (by have := HB5.out.size; omega)⟩
    · go_wp2_with fail
      go_meet
      have hBf := (HB5.out.setCell (p := ⟨w0.heap.size, 0, none⟩) (Nat.le_refl _) (.int .i64 (RP.aftB k.boot k.low m))).setCell (p := ⟨w0.heap.size, 1, none⟩) (Nat.le_refl _) (.int .i64 (RP.aftL k.boot k.low m))
      exact ⟨_, rfl, Lib.hid (HR.out.below hBf), Lib.hid ((HN.out.store 0 _).store 1 _), Lib.hid (below_on HX.out hBf), Lib.hid hz0⟩
  case rest =>
  obtain ⟨P, rfl, HR6, HP6, HX6, HPl⟩ := hcut
  clear HX HR HK
  go_upto_region 2 with (fail)
  go_cut [18] from 13 to 17 (fun b wx => b = .bool (decide (RP.aftB k.boot k.low m = k.boot ∧ RP.aftL k.boot k.low m = k.low)) ∧ Hid (RepAt wx g lo up s) ∧ Hid (Whole wx P 61 #[.int .i64 (RP.aftB k.boot k.low m), .int .i64 (RP.aftL k.boot k.low m)]) ∧ Hid (Below w.heap.size w wx))
  case first =>
    have hc0 := (HR6.out.cl i k HI.out).bt
    have hc1 := (HR6.out.cl i k HI.out).lw
    have hp0 : World.cell? _ ⟨P, 0, none⟩ = some (Value.int .i64 (RP.aftB k.boot k.low m)) := HP6.out.cell 0
    have hp1 : World.cell? _ ⟨P, 1, none⟩ = some (Value.int .i64 (RP.aftL k.boot k.low m)) := HP6.out.cell 1
    by_cases e1 : RP.aftB k.boot k.low m = k.boot
    · by_cases e2 : RP.aftL k.boot k.low m = k.low
      · rw [e1] at hp0
        rw [e2] at hp1
        go_quiet (fail)
        go_wp2_with fail
        go_meet
        exact ⟨by simp [e1, e2], Lib.hid (HR6.out.below (Mod.below ((Mod.refl [] _).drewN _) (Nat.le_refl _) (by simp))), Lib.hid (HP6.out.drewN _), Lib.hid (below_on HX6.out (Mod.below ((Mod.refl [] _).drewN _) (Nat.le_refl _) (by simp)))⟩
      · have e2' : (RP.aftL k.boot k.low m == k.low) = false := by simp [e2]
        rw [e1] at hp0
        go_quiet (fail)
        go_wp2_with fail
        go_meet
        exact ⟨by simp [e2], Lib.hid (HR6.out.below (Mod.below ((Mod.refl [] _).drewN _) (Nat.le_refl _) (by simp))), Lib.hid (HP6.out.drewN _), Lib.hid (below_on HX6.out (Mod.below ((Mod.refl [] _).drewN _) (Nat.le_refl _) (by simp)))⟩
    · have e1' : (RP.aftB k.boot k.low m == k.boot) = false := by simp [e1]
      go_quiet (fail)
      go_wp2_with fail
      go_meet
      exact ⟨by simp [e1], Lib.hid (HR6.out.below (Mod.below ((Mod.refl [] _).drewN _) (Nat.le_refl _) (by simp))), Lib.hid (HP6.out.drewN _), Lib.hid (below_on HX6.out (Mod.below ((Mod.refl [] _).drewN _) (Nat.le_refl _) (by simp)))⟩
  case rest =>
  obtain ⟨rfl, HR7, HP7, HX7⟩ := hcut
  clear HR6 HP6 HX6
  by_cases e : RP.aftB k.boot k.low m = k.boot ∧ RP.aftL k.boot k.low m = k.low
  · have HE := Lib.hid (show RP.follow k m = k by unfold RP.follow; rw [if_pos e])
    rw [decide_eq_true e]
    clear e
    go_wp2_with fail
    refine bodyPost_ret (results_none rfl _ _ _) rfl ?_
    exact ⟨⟨_, rfl⟩, Lib.hid (by rw [HE.out, set_self HI.out]; exact HR7.out), Lib.hid (Mod.of_below HX7.out _)⟩
  · have HE := Lib.hid (show RP.follow k m = ⟨RP.aftB k.boot k.low m, RP.aftL k.boot k.low m, k.ans.map (RP.keepIf (RP.aftB k.boot k.low m) (RP.aftL k.boot k.low m))⟩ by unfold RP.follow; rw [if_neg e])
    rw [decide_eq_false e]
    clear e
    have HBL := Lib.hid (show 0 ≤ RP.aftL k.boot k.low m ∧ RP.aftL k.boot k.low m ≤ 1099511627776 by
      have := HOK.out.l0; have := HOK.out.l1; have := HM.out.l; have := HM.out.s
      unfold RP.aftL; split <;> (try split) <;> omega)
    generalize RP.aftB k.boot k.low m = b at *
    generalize RP.aftL k.boot k.low m = l at *
    have hc0 := (HR7.out.cl i k HI.out).bt
    have hc1 := (HR7.out.cl i k HI.out).lw
    have hf0 := HR7.out.fr (i * 130)
    have hf1 := HR7.out.fr (i * 130 + 1)
    have hp0 : World.cell? _ ⟨P, 0, none⟩ = some (Value.int .i64 b) := HP7.out.cell 0
    have hp1 : World.cell? _ ⟨P, 1, none⟩ = some (Value.int .i64 l) := HP7.out.cell 1
    go_upto_region 4 with (fail)
    have HSP := HR7.out.span HI.out b l
    have HR8 := Lib.hid HSP.1
    have HM8 := Lib.hid HSP.2
    have HP8 := Lib.hid (HSP.2.whole HP7.out (by have := HPl.out; have := HG.out; simp; omega))
    have HX8 := Lib.hid (show Mod [g] w _ from (Mod.of_below HX7.out [g]).trans HSP.2 (by simp))
    clear HSP
    rw [← mid_zero k b l] at HR8
    change Code.wp _ _ _ _ (wc.setCells g (i * 130) [.int .i64 b, .int .i64 l])
    generalize wc.setCells g (i * 130) [.int .i64 b, .int .i64 l] = w8 at HR8 HM8 HP8 HX8 ⊢
    clear hc0 hc1 hf0 hf1 hp0 hp1 HR7 HP7 HX7 HM8
    have HK8 := Lib.hid (HR8.out.cl i (mid k b l 0) (by rw [List.getElem?_set_self (by exact (List.getElem?_eq_some_iff.1 HI.out).1)]))
    rw [mid_zero] at HK8
    obtain ⟨cs, k1, k2, k3, k4⟩ := sl_all k.ans (i * 130 + 2) HK8.out.sl
    have HLD := Lib.hid k3
    have HCS := Lib.hid k4
    have HCN := Lib.hid k2
    have HLN := Lib.hid (show cs.flatten.length = 128 by rw [flat_len cs k2, k1, HOK.out.n8])
    clear k1 k2 k3 k4 HK8
    go_wp2_with (refine wpList_load_mid rfl 62 (.tmp 25) rfl g (i * 130 + 2) rfl cs.flatten _ HLD.out Try.underlying62 rfl (by rw [HLN.out]; kernel_rfl) ?_)
    go_loopw [27] (fun iv wr => ∃ j : Nat, iv = .int .i64 (j : Int) ∧ j ≤ 8 ∧ Hid (RepAt wr g lo up (s.set i (mid k b l j))) ∧ Hid (Mod [g] w8 wr)) (fun iv _ => 8 - (intOf iv).toNat)
    case atStart => exact ⟨0, rfl, Nat.zero_le _, HR8, Lib.hid (Mod.refl _ _)⟩
    case round =>
      obtain ⟨j, rfl, hj, HRj, HMj⟩ := hrel
      by_cases hjn : j < 8
      · have d1 : ((j : Int) < 8) := by omega
        have d2 : ((0 : Int) ≤ (j : Int)) := by omega
        have hw : IntKind.i64.wrap ((j : Int) + 1) = (j : Int) + 1 := IntWalk.i64_in _ (by omega)
        have HN := Lib.hid (show k.ans[j]? = some (k.ans[j]'(by have := HOK.out.n8; omega)) from List.getElem?_eq_getElem _)
        generalize k.ans[j]'(by have := HOK.out.n8; omega) = x at HN
        obtain ⟨A, c, e1, e2, e3⟩ := HCS.out j x HN.out
        have HFL := Lib.hid (flat_at cs j _ HCN.out e1)
        have HFx := Lib.hid e2
        have hidx := fun w : World => run_index_slot (xs := slotC x A c) w hjn rfl (flat_at cs j _ HCN.out e1)
        unfold slotC cellsM at hidx
        clear e1 e2 e3 HFL
        have HPj := Lib.hid (HMj.out.whole HP8.out (by have := HPl.out; have := HG.out; simp; omega))
        have hp0 : ∀ o : Obj, (wr.alloc o).cell? ⟨P, 0, none⟩ = some (.int .i64 b) := fun o => cell_a (HPj.out.cell 0) o
        have hp1 : ∀ o : Obj, (wr.alloc o).cell? ⟨P, 1, none⟩ = some (.int .i64 l) := fun o => cell_a (HPj.out.cell 1) o
        have HH := Lib.hid (fun w : World => has_any b l x (.slice A x.stamp.length c) w HBL.out)
        unfold cellsM at HH
        have HRa := Lib.hid (fun o : Obj => HRj.out.below ((Below.refl _ wr).alloc (Nat.le_refl _) o))
        have HMa := Lib.hid (fun o : Obj => HMj.out.alloc o)
        go_wp2_with fail
        refine (HH.out _).mono ?_
        rintro e w9 ⟨rfl, hb9⟩
        have HR9 := Lib.hid ((HRa.out _).below hb9)
        have HM9 := Lib.hid (show Mod [g] w8 w9 from (HMa.out _).trans (Mod.of_below hb9 []) (by simp))
        clear hb9 HRa HMa hp0 hp1 HRj HMj HPj
        cases hh : RP.has b l x with
        | true =>
          have HM1 := Lib.hid (mid_yes HN.out hh)
          clear hh
          go_wp2_with fail
          go_roundw
          case rel => exact ⟨j + 1, rfl, by omega, Lib.hid (by rw [HM1.out]; exact HR9.out), HM9⟩
          case measure => simp [intOf]; omega
        | false =>
          have HM1 := Lib.hid (mid_no HN.out hh)
          clear hh
          have HST := Lib.hid (HR9.out.store (i := i) (j := j) (k := mid k b l j) (List.getElem?_set_self (List.getElem?_eq_some_iff.1 HI.out).1) hjn (fit_zero w9) (by intro ad e; cases e) (by intro ad e; cases e))
          obtain ⟨A0, c0, hsl, _⟩ := (HR9.out.cl i (mid k b l j) (List.getElem?_set_self (List.getElem?_eq_some_iff.1 HI.out).1)).sl j x (mid_at HN.out)
          have k0 := hsl 0 _ rfl
          have k1 := hsl 1 _ rfl
          have k2 := hsl 2 _ rfl
          have k3 := hsl 3 _ rfl
          have k4 := hsl 4 _ rfl
          have k5 := hsl 5 _ rfl
          have k6 := hsl 6 _ rfl
          have k7 := hsl 7 _ rfl
          have k8 := hsl 8 _ rfl
          have k9 := hsl 9 _ rfl
          have k10 := hsl 10 _ rfl
          have k11 := hsl 11 _ rfl
          have k12 := hsl 12 _ rfl
          have k13 := hsl 13 _ rfl
          have k14 := hsl 14 _ rfl
          have k15 := hsl 15 _ rfl
          simp only [Nat.add_zero] at k0
          clear hsl
          have g0 := HR9.out.fr (i * 130 + 2 + j * 16)
          have g1 := HR9.out.fr (i * 130 + 2 + j * 16 + 1)
          have g2 := HR9.out.fr (i * 130 + 2 + j * 16 + 2)
          have g3 := HR9.out.fr (i * 130 + 2 + j * 16 + 3)
          have g4 := HR9.out.fr (i * 130 + 2 + j * 16 + 4)
          have g5 := HR9.out.fr (i * 130 + 2 + j * 16 + 5)
          have g6 := HR9.out.fr (i * 130 + 2 + j * 16 + 6)
          have g7 := HR9.out.fr (i * 130 + 2 + j * 16 + 7)
          have g8 := HR9.out.fr (i * 130 + 2 + j * 16 + 8)
          have g9 := HR9.out.fr (i * 130 + 2 + j * 16 + 9)
          have g10 := HR9.out.fr (i * 130 + 2 + j * 16 + 10)
          have g11 := HR9.out.fr (i * 130 + 2 + j * 16 + 11)
          have g12 := HR9.out.fr (i * 130 + 2 + j * 16 + 12)
          have g13 := HR9.out.fr (i * 130 + 2 + j * 16 + 13)
          have g14 := HR9.out.fr (i * 130 + 2 + j * 16 + 14)
          have g15 := HR9.out.fr (i * 130 + 2 + j * 16 + 15)
          go_wp2_with fail
          go_roundw
          case rel => exact ⟨j + 1, rfl, by omega, Lib.hid (by have h1 := HST.out.1; rw [List.set_set, HM1.out] at h1; exact h1), Lib.hid (HM9.out.trans HST.out.2 (by simp))⟩
          case measure => simp [intOf]; omega
      · have e8 : j = 8 := by omega
        subst e8
        have d1 : decide (((8 : Nat) : Int) < 8) = false := by simp
        rw [mid_end k b l HOK.out.n8] at HRj
        go_wp2_with fail
        go_end0
        exact ⟨⟨_, rfl⟩, Lib.hid (by rw [HE.out]; exact HRj.out), Lib.hid (HX8.out.trans HMj.out (by simp))⟩
end
end Go.Proofs.Ytbjemihcbbiiaaa
