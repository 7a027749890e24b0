/- The law's own example: awake. -/
import Derived.Test.YtbjemihcbbiiaaaRpSt
namespace Go.Proofs.Ytbjemihcbbiiaaa
open Go.RowKit
open RP (Kp St)
open WM (Msg)
set_option linter.unusedVariables false
set_option linter.unusedSimpArgs false
set_option maxRecDepth 100000
set_option maxHeartbeats 40000000 in
theorem awake_any (w : World) : Calls Try.prog 9 #[] w fun e w' => e = .returned (.bool true) ∧ Below w.heap.size w w' := by
  go_enter Try.func9, Try.ntmps9
  go_upto_region 2 with (go_at_call 8; refine (New_any w).mono ?_; rintro e w3 ⟨rfl, rfl⟩)
  have HR0 := Lib.hid (Rt.new (Below.refl w.heap.size w))
  generalize w.alloc (.cells zrep.toArray 67) = w1 at HR0 ⊢
  go_cut [2, 3] from 11 to 16 (fun v p wx => v = .int .i64 3 ∧ (∃ b A c, p = .pointer (some ⟨b, 0, none⟩) ∧ Hid (Whole wx b 32 (cellsM WM.zero (.slice A 0 c)))) ∧ Hid (Rt w wx w.heap.size sA1))
  case first =>
    go_wp2_with (first | (go_at_call 11; refine (l_ask _ _ _ _).mono ?_; rintro e w3 ⟨rfl, hb⟩; replace HR0 := Lib.hid (HR0.out.below hb); clear hb) | (go_at_call 13; refine (Rt.seen HR0.out (askM 1 1 1) (wide_ask (by unfold In64; omega) (by unfold In64; omega) (by unfold In64; omega)) rfl).mono ?_; rintro e w4 ⟨A1, c1, rfl, h, hm⟩; have HR1 : Hid (Rt w w4 w.heap.size sA1) := h; clear h HR0; clear hm; rw [vA1, aA1]; unfold cellsM WM.zero))
    go_meet
    exact ⟨rfl, ⟨_, A1, c1, rfl, Lib.hid (Whole.new w4 _ _)⟩, Lib.hid (HR1.out.alloc _)⟩
  case rest =>
  clear HR0
  obtain ⟨rfl, ⟨b, A, c, rfl, HB⟩, HR1⟩ := hcut
  go_upto_region 3 with (fail)
  go_cut [40] from 17 to 39 (fun v wx => v = .bool false ∧ Hid (Rt w wx w.heap.size sA3))
  case first =>
    have c0 : World.cell? _ ⟨b, 0, none⟩ = some (Value.int .i64 0) := HB.out.cell 0
    go_wp2_with (first | (go_at_call 11; refine (l_ask _ _ _ _).mono ?_; rintro e w3 ⟨rfl, hb⟩; replace HR1 := Lib.hid (HR1.out.below hb); clear hb) | (go_at_call 12; refine (l_ref _ _ _).mono ?_; rintro e w3 ⟨rfl, hb⟩; replace HR1 := Lib.hid (HR1.out.below hb); clear hb) | (go_at_call 10; refine (Rt.keep HR1.out (askM 1 1 1) (refM 1 1) (wide_ask (by unfold In64; omega) (by unfold In64; omega) (by unfold In64; omega)) rfl (wide_ref (by unfold In64; omega) (by unfold In64; omega)) rfl).mono ?_; rintro e w4 ⟨rfl, h⟩; have HR2 : Hid (Rt w w4 w.heap.size sA2) := h; clear h HR1; rw [kA2]) | (go_at_call 11; refine (l_ask _ _ _ _).mono ?_; rintro e w3 ⟨rfl, hb⟩; replace HR2 := Lib.hid (HR2.out.below hb); clear hb) | (go_at_call 12; refine (l_ref _ _ _).mono ?_; rintro e w3 ⟨rfl, hb⟩; replace HR2 := Lib.hid (HR2.out.below hb); clear hb) | (go_at_call 10; refine (Rt.keep HR2.out (askM 1 1 1) (refM 1 1) (wide_ask (by unfold In64; omega) (by unfold In64; omega) (by unfold In64; omega)) rfl (wide_ref (by unfold In64; omega) (by unfold In64; omega)) rfl).mono ?_; rintro e w4 ⟨rfl, h⟩; have HR3 : Hid (Rt w w4 w.heap.size sA3) := h; clear h HR2; rw [kA3]))
    go_meet
    exact ⟨rfl, HR3⟩
  case rest =>
  clear HB HR1
  obtain ⟨rfl, HR3⟩ := hcut
  go_upto_region 5 with (fail)
  go_cut [4, 5] from 41 to 46 (fun v p wx => v = .int .i64 2 ∧ (∃ b A c, p = .pointer (some ⟨b, 0, none⟩) ∧ Hid (b ≠ w.heap.size) ∧ Hid (Whole wx b 32 (cellsM (refM 1 1) (.slice A 0 c)))) ∧ Hid (Rt w wx w.heap.size sA4))
  case first =>
    go_wp2_with (first | (go_at_call 11; refine (l_ask _ _ _ _).mono ?_; rintro e w3 ⟨rfl, hb⟩; replace HR3 := Lib.hid (HR3.out.below hb); clear hb) | (go_at_call 13; refine (Rt.seen HR3.out (askM 1 1 1) (wide_ask (by unfold In64; omega) (by unfold In64; omega) (by unfold In64; omega)) rfl).mono ?_; rintro e w4 ⟨A1, c1, rfl, h, hm⟩; have HR4 : Hid (Rt w w4 w.heap.size sA4) := h; clear h HR3; clear hm; rw [vA4, aA4]; unfold cellsM refM))
    go_meet
    exact ⟨rfl, ⟨_, A1, c1, rfl, Lib.hid (by have := HR4.out.at_.ltS; omega), Lib.hid (Whole.new w4 _ _)⟩, Lib.hid (HR4.out.alloc _)⟩
  case rest =>
  clear HR3
  obtain ⟨rfl, ⟨b, A, c, rfl, HNE, HB⟩, HR4⟩ := hcut
  go_upto_region 6 with (fail)
  go_cut [6, 7] from 47 to 52 (fun v p wx => v = .int .i64 3 ∧ Hid (Whole wx b 32 (cellsM (refM 1 1) (.slice A 0 c))) ∧ Hid (Rt w wx w.heap.size sA5))
  case first =>
    go_wp2_with (first | (go_at_call 11; refine (l_ask _ _ _ _).mono ?_; rintro e w3 ⟨rfl, hb⟩; replace HR4 := Lib.hid (HR4.out.below hb); replace HB := Lib.hid (blk_below HB.out hb); clear hb) | (go_at_call 13; refine (Rt.seen HR4.out (askM 1 2 2) (wide_ask (by unfold In64; omega) (by unfold In64; omega) (by unfold In64; omega)) rfl).mono ?_; rintro e w4 ⟨A1, c1, rfl, h, hm⟩; have HR5 : Hid (Rt w w4 w.heap.size sA5) := h; clear h HR4; replace HB := Lib.hid (hm.out.whole HB.out (by simp; exact HNE.out)); clear hm; rw [vA5, aA5]; unfold cellsM WM.zero))
    go_meet
    exact ⟨rfl, Lib.hid (HB.out.alloc _), Lib.hid (HR5.out.alloc _)⟩
  case rest =>
  clear HB HR4
  obtain ⟨rfl, HB, HR5⟩ := hcut
  go_upto_region 7 with (fail)
  go_cut [8, 9] from 53 to 58 (fun v p wx => v = .int .i64 1 ∧ Hid (Whole wx b 32 (cellsM (refM 1 1) (.slice A 0 c))) ∧ Hid (Rt w wx w.heap.size sA6))
  case first =>
    go_wp2_with (first | (go_at_call 11; refine (l_ask _ _ _ _).mono ?_; rintro e w3 ⟨rfl, hb⟩; replace HR5 := Lib.hid (HR5.out.below hb); replace HB := Lib.hid (blk_below HB.out hb); clear hb) | (go_at_call 13; refine (Rt.seen HR5.out (askM 1 1 1) (wide_ask (by unfold In64; omega) (by unfold In64; omega) (by unfold In64; omega)) rfl).mono ?_; rintro e w4 ⟨A1, c1, rfl, h, hm⟩; have HR6 : Hid (Rt w w4 w.heap.size sA6) := h; clear h HR5; replace HB := Lib.hid (hm.out.whole HB.out (by simp; exact HNE.out)); clear hm; rw [vA6, aA6]; unfold cellsM WM.zero))
    go_meet
    exact ⟨rfl, Lib.hid (HB.out.alloc _), Lib.hid (HR6.out.alloc _)⟩
  case rest =>
  clear HB HR5
  obtain ⟨rfl, HB, HR6⟩ := hcut
  have c12 : World.cell? _ ⟨b, 12, none⟩ = some (Value.int .i64 60) := HB.out.cell 12
  have c4 : World.cell? _ ⟨b, 4, none⟩ = some (Value.int .i64 1) := HB.out.cell 4
  go_wp2_with (go_at_call 14; refine (Rt.len HR6.out 1).mono ?_; rintro e w3 ⟨rfl, h⟩; have HR7 : Hid (Rt w w3 w.heap.size sA6) := h; clear h HR6 c12 c4; rw [nA6])
  go_ret
  exact ⟨rfl, HR7.out.bel⟩
end Go.Proofs.Ytbjemihcbbiiaaa
