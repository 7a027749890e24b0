/- The walk of RepliesOwn: it answers true, and old memory stands. -/
import Derived.Test.YtbjemihcbbiiaaaRows
import Derived.Test.YtbjemihcbbiiaaaRpOwn
import Derived.Test.YtbjemihcbbiiaaaRpArg
import Derived.Test.YtbjemihcbbiiaaaLaw
import Derived.JoinedCond
import Derived.OpenShut
import Derived.Deep.CutBlock
namespace Go.Proofs.Ytbjemihcbbiiaaa.lawRepliesOwn
open Go Go.RowKit Go.ChangeShapes Go.WideShapes Go.ChangeAt
set_option linter.unusedVariables false
set_option linter.unusedSimpArgs false
open RP (Kp St Ad)
open WM (Msg)
set_option maxRecDepth 100000
theorem blk_range {w : World} {p : Nat} {m : Msg} {A : Option Addr} {c : Nat} (h : MsgBlk w p m (.slice A m.stamp.length c)) : w.rangeAt p 0 (slotC m A c) := fun j v hv => by
  unfold slotC at hv
  rw [Array.getElem?_toList] at hv
  rw [Nat.zero_add, h.cell]
  exact hv
theorem fresh_ne {w w1 wi : World} {n : Nat} {A : Option Addr} {c g k : Nat} {xs : List Value} (h : w.ownsRow w1.heap.size 3 1 (.slice A n c) n xs) (hg : g < wi.heap.size) (hb : Below k wi w1) {ad : Addr} (e : A = some ad) : ad.block ≠ g := by
  have h1 := (h.lt ad.block (by rw [e]; rfl)).1
  have h2 := hb.size
  omega
section
variable {w wx : World} {m a : Msg} {A0 A1 : Option Addr} {c0 c1 : Nat}
theorem ownM (h : Ow w wx m a A0 A1 c0 c1) (hm : Came w A0 c0 m) :
    Calls Try.prog 17 #[.agg (cellsM m (.slice A0 m.stamp.length c0))] wx fun e w' => ∃ A' c', e = .returned (.agg (cellsM m (.slice A' m.stamp.length c'))) ∧ Hid (Fit w' A' c' m) ∧ Hid (w'.ownsRow wx.heap.size 3 1 (.slice A' m.stamp.length c') m.stamp.length (i64s m.stamp)) ∧ Hid (Below wx.heap.size wx w') :=
  (l_own A0 c0 m wx (hm.ints.below h.bel) (by have := hm.le; have := hm.cap; omega)).mono fun e w' ⟨A', c', he, ho, hb⟩ => ⟨A', c', he, Lib.hid (own_fit hm.wide ho.out), ho, Lib.hid hb⟩
theorem ownA (h : Ow w wx m a A0 A1 c0 c1) (ha : Came w A1 c1 a) :
    Calls Try.prog 17 #[.agg (cellsM a (.slice A1 a.stamp.length c1))] wx fun e w' => ∃ A' c', e = .returned (.agg (cellsM a (.slice A' a.stamp.length c'))) ∧ Hid (Fit w' A' c' a) ∧ Hid (w'.ownsRow wx.heap.size 3 1 (.slice A' a.stamp.length c') a.stamp.length (i64s a.stamp)) ∧ Hid (Below wx.heap.size wx w') :=
  (l_own A1 c1 a wx (ha.ints.below h.bel) (by have := ha.le; have := ha.cap; omega)).mono fun e w' ⟨A', c', he, ho, hb⟩ => ⟨A', c', he, Lib.hid (own_fit ha.wide ho.out), ho, Lib.hid hb⟩
end
set_option maxHeartbeats 40000000 in
theorem walk (A0 : Option Addr) (c0 : Nat) (m : Msg) (A1 : Option Addr) (c1 : Nat) (a : Msg) (w : World) (hm : Came w A0 c0 m) (ha : Came w A1 c1 a) :
    Calls Try.prog 7 #[.agg (cellsM m (.slice A0 m.stamp.length c0)), .agg (cellsM a (.slice A1 a.stamp.length c1))] w (LK.True_ w) := by
  have HM := Lib.hid hm
  have HA := Lib.hid ha
  have HO := Lib.hid (show Ow w ((w.alloc (.cells (cellsM m (.slice A0 m.stamp.length c0)) 32)).alloc (.cells (cellsM a (.slice A1 a.stamp.length c1)) 32)) m a A0 A1 c0 c1 from
    ⟨((Below.refl w.heap.size w).alloc (Nat.le_refl _) _).alloc (by simp) _, (Whole.new w 32 (cellsM m (.slice A0 m.stamp.length c0))).alloc _, by
      have h := Whole.new (w.alloc (.cells (cellsM m (.slice A0 m.stamp.length c0)) 32)) 32 (cellsM a (.slice A1 a.stamp.length c1))
      have e : (w.alloc (.cells (cellsM m (.slice A0 m.stamp.length c0)) 32)).heap.size = w.heap.size + 1 := by simp
      rw [e] at h
      exact h⟩)
  have HS := Lib.hid (show w.heap.size + 2 ≤ ((w.alloc (.cells (cellsM m (.slice A0 m.stamp.length c0)) 32)).alloc (.cells (cellsM a (.slice A1 a.stamp.length c1)) 32)).heap.size by simp)
  clear hm ha
  go_enter Try.func7, Try.ntmps7
  go_upto_region 1 with (fail)
  generalize (w.alloc (.cells (cellsM m (.slice A0 m.stamp.length c0)) 32)).alloc (.cells (cellsM a (.slice A1 a.stamp.length c1)) 32) = w0 at HO HS ⊢
  go_upto_region 4 with (
    go_at_call 9
    refine (awake_any w0).mono ?_
    rintro e w1 ⟨rfl, hb⟩
    replace HO := Lib.hid (HO.out.below hb)
    replace HS := Lib.hid (show w.heap.size + 2 ≤ w1.heap.size by have := HS.out; have := hb.size; omega)
    clear hb)
  go_cut [6, 7] from 24 to 30 (fun v p wx => v = .int .i64 1 ∧ ∃ b, p = .pointer (some ⟨b, 0, none⟩) ∧ Hid (MsgBlk wx b WM.zero (.slice none 0 0)) ∧ Hid (Ow w wx m a A0 A1 c0 c1) ∧ Hid (w.heap.size + 2 ≤ wx.heap.size))
  case first =>
    have HL := Lib.hid (blk_range HO.out.bm)
    go_wp2_with (first
      | (refine wpList_load_mid rfl 32 (.tmp 2) rfl w.heap.size 0 rfl (slotC m A0 c0) _ HL.out Try.underlying32 rfl (by kernel_rfl) ?_)
      | (go_at_call 17
         refine (ownM HO.out HM.out).mono ?_
         rintro e w3 ⟨A', c', rfl, _, _, hb⟩
         have HO3 := Lib.hid (HO.out.below hb.out)
         have HS3 := Lib.hid (show w.heap.size + 2 ≤ w3.heap.size by have := HS.out; have := hb.out.size; omega)
         clear hb HO HL HS)
      | (go_at_call 13
         refine (Seen_nil m _ _).mono ?_
         rintro e w4 ⟨rfl, hb⟩
         have HO4 := Lib.hid (HO3.out.below hb)
         have HS4 := Lib.hid (show w.heap.size + 2 ≤ w4.heap.size by have := HS3.out; have := hb.size; omega)
         clear hb HO3 HS3
         unfold cellsM WM.zero))
    go_meet
    exact ⟨rfl, _, rfl, Lib.hid (Whole.new w4 _ _), Lib.hid (HO4.out.below ((Below.refl _ w4).alloc (Nat.le_refl _) _)), Lib.hid (by have := HS4.out; simp; omega)⟩
  case rest =>
  clear HO HS
  obtain ⟨rfl, p7, rfl, HZ, HO, HS⟩ := hcut
  go_upto_region 5 with (fail)
  go_cut [50] from 31 to 50 (fun bv wx => bv = .bool false ∧ Hid (Ow w wx m a A0 A1 c0 c1) ∧ Hid (w.heap.size + 2 ≤ wx.heap.size))
  case first =>
    as_aux_lemma =>
      have z0 : wc.cell? ⟨p7, 0, none⟩ = some (.int .i64 0) := HZ.out.cell 0
      have HCM := Lib.hid (show ∀ wx, Ow w wx m a A0 A1 c0 c1 → Calls Try.prog 17 #[.agg #[.int .i64 m.kind, .int .i64 m.frm, .int .i64 m.dst, .int .i64 m.boot, .int .i64 m.seq, .int .i64 m.low, .int .i64 m.verb, .string m.path, .int .i64 m.mode, .int .i64 m.term, .int .i64 m.id, .bool m.fresh, .int .i64 m.code, .slice A0 m.stamp.length c0, .int .i64 m.origin, .int .i64 m.number]] wx fun e w' => ∃ A' c', e = .returned (.agg (cellsM m (.slice A' m.stamp.length c'))) ∧ Hid (Fit w' A' c' m) ∧ Hid (w'.ownsRow wx.heap.size 3 1 (.slice A' m.stamp.length c') m.stamp.length (i64s m.stamp)) ∧ Hid (Below wx.heap.size wx w') from fun wx h => ownM h HM.out)
      have HCA := Lib.hid (show ∀ wx, Ow w wx m a A0 A1 c0 c1 → Calls Try.prog 17 #[.agg #[.int .i64 a.kind, .int .i64 a.frm, .int .i64 a.dst, .int .i64 a.boot, .int .i64 a.seq, .int .i64 a.low, .int .i64 a.verb, .string a.path, .int .i64 a.mode, .int .i64 a.term, .int .i64 a.id, .bool a.fresh, .int .i64 a.code, .slice A1 a.stamp.length c1, .int .i64 a.origin, .int .i64 a.number]] wx fun e w' => ∃ A' c', e = .returned (.agg (cellsM a (.slice A' a.stamp.length c'))) ∧ Hid (Fit w' A' c' a) ∧ Hid (w'.ownsRow wx.heap.size 3 1 (.slice A' a.stamp.length c') a.stamp.length (i64s a.stamp)) ∧ Hid (Below wx.heap.size wx w') from fun wx h => ownA h HA.out)
      obtain ⟨wi, hwi⟩ : ∃ y, y = wc := ⟨_, rfl⟩
      subst hwi
      go_wp2_with fail
      have HSS : wi.drew.cell? ⟨p7, 0, none⟩ = some (.int .i64 0) ∧ (wi.drew.cell? ⟨w.heap.size, 0, none⟩ = some (.int .i64 m.kind) ∧ wi.drew.cell? ⟨w.heap.size, 1, none⟩ = some (.int .i64 m.frm) ∧ wi.drew.cell? ⟨w.heap.size, 2, none⟩ = some (.int .i64 m.dst) ∧ wi.drew.cell? ⟨w.heap.size, 3, none⟩ = some (.int .i64 m.boot) ∧ wi.drew.cell? ⟨w.heap.size, 4, none⟩ = some (.int .i64 m.seq) ∧ wi.drew.cell? ⟨w.heap.size, 5, none⟩ = some (.int .i64 m.low) ∧ wi.drew.cell? ⟨w.heap.size, 6, none⟩ = some (.int .i64 m.verb) ∧ wi.drew.cell? ⟨w.heap.size, 7, none⟩ = some (.string m.path) ∧ wi.drew.cell? ⟨w.heap.size, 8, none⟩ = some (.int .i64 m.mode) ∧ wi.drew.cell? ⟨w.heap.size, 9, none⟩ = some (.int .i64 m.term) ∧ wi.drew.cell? ⟨w.heap.size, 10, none⟩ = some (.int .i64 m.id) ∧ wi.drew.cell? ⟨w.heap.size, 11, none⟩ = some (.bool m.fresh) ∧ wi.drew.cell? ⟨w.heap.size, 12, none⟩ = some (.int .i64 m.code) ∧ wi.drew.cell? ⟨w.heap.size, 13, none⟩ = some (.slice A0 m.stamp.length c0) ∧ wi.drew.cell? ⟨w.heap.size, 14, none⟩ = some (.int .i64 m.origin) ∧ wi.drew.cell? ⟨w.heap.size, 15, none⟩ = some (.int .i64 m.number)) ∧ (wi.drew.cell? ⟨(w.heap.size + 1), 0, none⟩ = some (.int .i64 a.kind) ∧ wi.drew.cell? ⟨(w.heap.size + 1), 1, none⟩ = some (.int .i64 a.frm) ∧ wi.drew.cell? ⟨(w.heap.size + 1), 2, none⟩ = some (.int .i64 a.dst) ∧ wi.drew.cell? ⟨(w.heap.size + 1), 3, none⟩ = some (.int .i64 a.boot) ∧ wi.drew.cell? ⟨(w.heap.size + 1), 4, none⟩ = some (.int .i64 a.seq) ∧ wi.drew.cell? ⟨(w.heap.size + 1), 5, none⟩ = some (.int .i64 a.low) ∧ wi.drew.cell? ⟨(w.heap.size + 1), 6, none⟩ = some (.int .i64 a.verb) ∧ wi.drew.cell? ⟨(w.heap.size + 1), 7, none⟩ = some (.string a.path) ∧ wi.drew.cell? ⟨(w.heap.size + 1), 8, none⟩ = some (.int .i64 a.mode) ∧ wi.drew.cell? ⟨(w.heap.size + 1), 9, none⟩ = some (.int .i64 a.term) ∧ wi.drew.cell? ⟨(w.heap.size + 1), 10, none⟩ = some (.int .i64 a.id) ∧ wi.drew.cell? ⟨(w.heap.size + 1), 11, none⟩ = some (.bool a.fresh) ∧ wi.drew.cell? ⟨(w.heap.size + 1), 12, none⟩ = some (.int .i64 a.code) ∧ wi.drew.cell? ⟨(w.heap.size + 1), 13, none⟩ = some (.slice A1 a.stamp.length c1) ∧ wi.drew.cell? ⟨(w.heap.size + 1), 14, none⟩ = some (.int .i64 a.origin) ∧ wi.drew.cell? ⟨(w.heap.size + 1), 15, none⟩ = some (.int .i64 a.number)) := ⟨z0, msg_cells HO.out.bm, msg_cells HO.out.ba⟩
      clear z0 HS
      go_region_held3 (fun w' : World => w'.cell? ⟨p7, 0, none⟩ = some (.int .i64 0) ∧ (w'.cell? ⟨w.heap.size, 0, none⟩ = some (.int .i64 m.kind) ∧ w'.cell? ⟨w.heap.size, 1, none⟩ = some (.int .i64 m.frm) ∧ w'.cell? ⟨w.heap.size, 2, none⟩ = some (.int .i64 m.dst) ∧ w'.cell? ⟨w.heap.size, 3, none⟩ = some (.int .i64 m.boot) ∧ w'.cell? ⟨w.heap.size, 4, none⟩ = some (.int .i64 m.seq) ∧ w'.cell? ⟨w.heap.size, 5, none⟩ = some (.int .i64 m.low) ∧ w'.cell? ⟨w.heap.size, 6, none⟩ = some (.int .i64 m.verb) ∧ w'.cell? ⟨w.heap.size, 7, none⟩ = some (.string m.path) ∧ w'.cell? ⟨w.heap.size, 8, none⟩ = some (.int .i64 m.mode) ∧ w'.cell? ⟨w.heap.size, 9, none⟩ = some (.int .i64 m.term) ∧ w'.cell? ⟨w.heap.size, 10, none⟩ = some (.int .i64 m.id) ∧ w'.cell? ⟨w.heap.size, 11, none⟩ = some (.bool m.fresh) ∧ w'.cell? ⟨w.heap.size, 12, none⟩ = some (.int .i64 m.code) ∧ w'.cell? ⟨w.heap.size, 13, none⟩ = some (.slice A0 m.stamp.length c0) ∧ w'.cell? ⟨w.heap.size, 14, none⟩ = some (.int .i64 m.origin) ∧ w'.cell? ⟨w.heap.size, 15, none⟩ = some (.int .i64 m.number)) ∧ (w'.cell? ⟨(w.heap.size + 1), 0, none⟩ = some (.int .i64 a.kind) ∧ w'.cell? ⟨(w.heap.size + 1), 1, none⟩ = some (.int .i64 a.frm) ∧ w'.cell? ⟨(w.heap.size + 1), 2, none⟩ = some (.int .i64 a.dst) ∧ w'.cell? ⟨(w.heap.size + 1), 3, none⟩ = some (.int .i64 a.boot) ∧ w'.cell? ⟨(w.heap.size + 1), 4, none⟩ = some (.int .i64 a.seq) ∧ w'.cell? ⟨(w.heap.size + 1), 5, none⟩ = some (.int .i64 a.low) ∧ w'.cell? ⟨(w.heap.size + 1), 6, none⟩ = some (.int .i64 a.verb) ∧ w'.cell? ⟨(w.heap.size + 1), 7, none⟩ = some (.string a.path) ∧ w'.cell? ⟨(w.heap.size + 1), 8, none⟩ = some (.int .i64 a.mode) ∧ w'.cell? ⟨(w.heap.size + 1), 9, none⟩ = some (.int .i64 a.term) ∧ w'.cell? ⟨(w.heap.size + 1), 10, none⟩ = some (.int .i64 a.id) ∧ w'.cell? ⟨(w.heap.size + 1), 11, none⟩ = some (.bool a.fresh) ∧ w'.cell? ⟨(w.heap.size + 1), 12, none⟩ = some (.int .i64 a.code) ∧ w'.cell? ⟨(w.heap.size + 1), 13, none⟩ = some (.slice A1 a.stamp.length c1) ∧ w'.cell? ⟨(w.heap.size + 1), 14, none⟩ = some (.int .i64 a.origin) ∧ w'.cell? ⟨(w.heap.size + 1), 15, none⟩ = some (.int .i64 a.number)))
        (first
          | exact HSS
          | (go_keep; done))
        (first
          | (go_at_call 17; (with_reducible refine (HCM.out _ (HO.out.below (by first | exact Below.drew (Below.refl _ _) | exact Below.refl _ _))).mono ?_); rintro e w3 ⟨A', c', rfl, _, _, hb⟩; replace HO := Lib.hid (HO.out.below (below_on (by first | exact Below.drew (Below.refl _ _) | exact Below.refl _ _) hb.out)); replace HZ := Lib.hid (blk_below HZ.out (below_on (by first | exact Below.drew (Below.refl _ _) | exact Below.refl _ _) hb.out)); replace HSS := And.intro (show w3.cell? ⟨p7, 0, none⟩ = some (.int .i64 0) from HZ.out.cell 0) (And.intro (msg_cells HO.out.bm) (msg_cells HO.out.ba)); clear hb)
          | (go_at_call 17; (with_reducible refine (HCA.out _ (HO.out.below (by first | exact Below.drew (Below.refl _ _) | exact Below.refl _ _))).mono ?_); rintro e w3 ⟨A2, c2, rfl, _, _, hb⟩; replace HO := Lib.hid (HO.out.below (below_on (by first | exact Below.drew (Below.refl _ _) | exact Below.refl _ _) hb.out)); replace HZ := Lib.hid (blk_below HZ.out (below_on (by first | exact Below.drew (Below.refl _ _) | exact Below.refl _ _) hb.out)); replace HSS := And.intro (show w3.cell? ⟨p7, 0, none⟩ = some (.int .i64 0) from HZ.out.cell 0) (And.intro (msg_cells HO.out.bm) (msg_cells HO.out.ba)); clear hb)
          | (go_at_call 10; refine (Keep_nil m a _ _ _).mono ?_; rintro e w3 ⟨rfl, hb⟩; replace HO := Lib.hid (HO.out.below (below_on (by first | exact Below.drew (Below.refl _ _) | exact Below.refl _ _) hb)); replace HZ := Lib.hid (blk_below HZ.out (below_on (by first | exact Below.drew (Below.refl _ _) | exact Below.refl _ _) hb)); replace HSS := And.intro (show w3.cell? ⟨p7, 0, none⟩ = some (.int .i64 0) from HZ.out.cell 0) (And.intro (msg_cells HO.out.bm) (msg_cells HO.out.ba)); clear hb)
          | (go_at_call 14; refine (Len_nil 1 _).mono ?_; rintro e w6 ⟨rfl, e6⟩; subst e6))
      all_goals
        go_wp2_with fail
        go_meet
        exact ⟨rfl, HO, Lib.hid (by have := HO.out.ba.lt; omega)⟩
  case rest =>
  clear HO HS HZ
  obtain ⟨rfl, HO, HS⟩ := hcut
  go_upto_region 7 with (fail)
  go_cut [8, 9] from 51 to 52 (fun p q wx => ∃ g, p = .pointer (some ⟨g, 0, none⟩) ∧ q = .pointer (some ⟨g + 1, 0, none⟩) ∧ Hid (Whole wx g 67 zrep.toArray) ∧ Hid (Whole wx (g + 1) 67 zrep.toArray) ∧ Hid (w.heap.size + 2 ≤ g) ∧ Hid (Ow w wx m a A0 A1 c0 c1) ∧ Hid (wx.heap.size = g + 2))
  case first =>
    obtain ⟨wi, hwi⟩ : ∃ y, y = wc := ⟨_, rfl⟩
    subst hwi
    go_wp2_with fail
    refine (New_any wi).mono ?_
    rintro e w3 ⟨rfl, rfl⟩
    have HZ1 := Lib.hid (Whole.new wi 67 zrep.toArray)
    have HO3 := Lib.hid (HO.out.below ((Below.refl _ wi).alloc (Nat.le_refl _) (.cells zrep.toArray 67)))
    have HSZ := Lib.hid (show (wi.alloc (.cells zrep.toArray 67)).heap.size = wi.heap.size + 1 by simp)
    generalize wi.alloc (.cells zrep.toArray 67) = w3 at HZ1 HO3 HSZ ⊢
    go_wp2_with fail
    refine (New_any w3).mono ?_
    rintro e w4 ⟨rfl, rfl⟩
    have HZ2 := Lib.hid (show Whole (w3.alloc (.cells zrep.toArray 67)) (wi.heap.size + 1) 67 zrep.toArray from by have h := Whole.new w3 67 zrep.toArray; rw [HSZ.out] at h; exact h)
    have HZ3 := Lib.hid (HZ1.out.alloc (.cells zrep.toArray 67))
    have HO4 := Lib.hid (HO3.out.below ((Below.refl _ w3).alloc (Nat.le_refl _) (.cells zrep.toArray 67)))
    have HS4 := Lib.hid (show (w3.alloc (.cells zrep.toArray 67)).heap.size = wi.heap.size + 2 by have := HSZ.out; simp; omega)
    rw [HSZ.out]
    generalize w3.alloc (.cells zrep.toArray 67) = w4 at HZ2 HZ3 HO4 HS4 ⊢
    go_wp2_with fail
    go_meet
    exact ⟨wi.heap.size, rfl, rfl, HZ3, HZ2, HS, HO4, HS4⟩
  case rest =>
  clear HO HS
  obtain ⟨g, rfl, rfl, HZ1, HZ2, HG, HO, HS⟩ := hcut
  go_upto_region 8 with (fail)
  go_cut [10] from 53 to 54 (fun p wx => ∃ b A c, p = .pointer (some ⟨b, 0, none⟩) ∧ Hid (MsgBlk wx b a (.slice A a.stamp.length c)) ∧ Hid (wx.ownsRow (g + 2) 3 1 (.slice A a.stamp.length c) a.stamp.length (i64s a.stamp)) ∧ Hid (g + 2 ≤ b) ∧ Hid (Whole wx g 67 zrep.toArray) ∧ Hid (Whole wx (g + 1) 67 zrep.toArray) ∧ Hid (Ow w wx m a A0 A1 c0 c1))
  case first =>
    have HL := Lib.hid (blk_range HO.out.ba)
    go_wp2_with (first
      | (refine wpList_load_mid rfl 32 (.tmp 3) rfl (w.heap.size + 1) 0 rfl (slotC a A1 c1) _ HL.out Try.underlying32 rfl (by kernel_rfl) ?_)
      | (go_at_call 17
         refine (ownA HO.out HA.out).mono ?_
         rintro e w3 ⟨A', c', rfl, _, hro, hb⟩
         have HO3 := Lib.hid (HO.out.below hb.out)
         have HZ3 := Lib.hid (blk_below HZ1.out hb.out)
         have HZ4 := Lib.hid (blk_below HZ2.out hb.out)
         have HR3 := Lib.hid (show w3.ownsRow (g + 2) 3 1 (.slice A' a.stamp.length c') a.stamp.length (i64s a.stamp) by have h := hro.out; rw [HS.out] at h; exact h)
         have HS3 := Lib.hid (show g + 2 ≤ w3.heap.size by have := HS.out; have := hb.out.size; omega)
         clear hb hro HO HL HS HZ1 HZ2
         unfold cellsM))
    go_meet
    exact ⟨_, A', c', rfl, Lib.hid (Whole.new w3 _ _), Lib.hid (HR3.out.alloc _), HS3, Lib.hid (HZ3.out.alloc _), Lib.hid (HZ4.out.alloc _), Lib.hid (HO3.out.below ((Below.refl _ w3).alloc (Nat.le_refl _) _))⟩
  case rest =>
  clear HO HS HZ1 HZ2
  obtain ⟨p10, A10, c10, rfl, HB, HRO, HP10, HZ1, HZ2, HO⟩ := hcut
  go_upto_region 9 with (fail)
  go_cut [11] from 55 to 59 (fun kv wx => kv = .bool (RP.kept RP.st0 m a) ∧ ∃ lo1 up1, Hid (RepAt wx g lo1 up1 (RP.keepSt RP.st0 m a)) ∧ Hid (g + 1 < lo1 ∧ (∀ ad, A10 = some ad → ad.block < lo1) ∧ up1 ≤ wx.heap.size) ∧ Hid (MsgBlk wx p10 a (.slice A10 a.stamp.length c10)) ∧ Hid (wx.ownsRow (g + 2) 3 1 (.slice A10 a.stamp.length c10) a.stamp.length (i64s a.stamp)) ∧ Hid (Whole wx (g + 1) 67 zrep.toArray) ∧ Hid (Ow w wx m a A0 A1 c0 c1))
  case first =>
    as_aux_lemma =>
      have HCM := Lib.hid (show ∀ wx, Ow w wx m a A0 A1 c0 c1 → Calls Try.prog 17 #[.agg #[.int .i64 m.kind, .int .i64 m.frm, .int .i64 m.dst, .int .i64 m.boot, .int .i64 m.seq, .int .i64 m.low, .int .i64 m.verb, .string m.path, .int .i64 m.mode, .int .i64 m.term, .int .i64 m.id, .bool m.fresh, .int .i64 m.code, .slice A0 m.stamp.length c0, .int .i64 m.origin, .int .i64 m.number]] wx fun e w' => ∃ A' c', e = .returned (.agg (cellsM m (.slice A' m.stamp.length c'))) ∧ Hid (Fit w' A' c' m) ∧ Hid (w'.ownsRow wx.heap.size 3 1 (.slice A' m.stamp.length c') m.stamp.length (i64s m.stamp)) ∧ Hid (Below wx.heap.size wx w') from fun wx h => ownM h HM.out)
      obtain ⟨wi, hwi⟩ : ∃ y, y = wc := ⟨_, rfl⟩
      subst hwi
      have HW2 := Lib.hid (show g + 1 < wi.heap.size from HZ2.out.lt)
      have HLt := Lib.hid (show g < wi.heap.size from HZ1.out.lt)
      have HGA := Lib.hid (show ∀ ad, A10 = some ad → ad.block ≠ g from fun ad e => by have := (HRO.out.lt ad.block (by rw [e]; rfl)).1; omega)
      have HBw := Lib.hid (Below.refl wi.heap.size wi)
      go_wp2_with fail
      have HSS : (wi.drew.cell? ⟨w.heap.size, 0, none⟩ = some (.int .i64 m.kind) ∧ wi.drew.cell? ⟨w.heap.size, 1, none⟩ = some (.int .i64 m.frm) ∧ wi.drew.cell? ⟨w.heap.size, 2, none⟩ = some (.int .i64 m.dst) ∧ wi.drew.cell? ⟨w.heap.size, 3, none⟩ = some (.int .i64 m.boot) ∧ wi.drew.cell? ⟨w.heap.size, 4, none⟩ = some (.int .i64 m.seq) ∧ wi.drew.cell? ⟨w.heap.size, 5, none⟩ = some (.int .i64 m.low) ∧ wi.drew.cell? ⟨w.heap.size, 6, none⟩ = some (.int .i64 m.verb) ∧ wi.drew.cell? ⟨w.heap.size, 7, none⟩ = some (.string m.path) ∧ wi.drew.cell? ⟨w.heap.size, 8, none⟩ = some (.int .i64 m.mode) ∧ wi.drew.cell? ⟨w.heap.size, 9, none⟩ = some (.int .i64 m.term) ∧ wi.drew.cell? ⟨w.heap.size, 10, none⟩ = some (.int .i64 m.id) ∧ wi.drew.cell? ⟨w.heap.size, 11, none⟩ = some (.bool m.fresh) ∧ wi.drew.cell? ⟨w.heap.size, 12, none⟩ = some (.int .i64 m.code) ∧ wi.drew.cell? ⟨w.heap.size, 13, none⟩ = some (.slice A0 m.stamp.length c0) ∧ wi.drew.cell? ⟨w.heap.size, 14, none⟩ = some (.int .i64 m.origin) ∧ wi.drew.cell? ⟨w.heap.size, 15, none⟩ = some (.int .i64 m.number)) ∧ (wi.drew.cell? ⟨p10, 0, none⟩ = some (.int .i64 a.kind) ∧ wi.drew.cell? ⟨p10, 1, none⟩ = some (.int .i64 a.frm) ∧ wi.drew.cell? ⟨p10, 2, none⟩ = some (.int .i64 a.dst) ∧ wi.drew.cell? ⟨p10, 3, none⟩ = some (.int .i64 a.boot) ∧ wi.drew.cell? ⟨p10, 4, none⟩ = some (.int .i64 a.seq) ∧ wi.drew.cell? ⟨p10, 5, none⟩ = some (.int .i64 a.low) ∧ wi.drew.cell? ⟨p10, 6, none⟩ = some (.int .i64 a.verb) ∧ wi.drew.cell? ⟨p10, 7, none⟩ = some (.string a.path) ∧ wi.drew.cell? ⟨p10, 8, none⟩ = some (.int .i64 a.mode) ∧ wi.drew.cell? ⟨p10, 9, none⟩ = some (.int .i64 a.term) ∧ wi.drew.cell? ⟨p10, 10, none⟩ = some (.int .i64 a.id) ∧ wi.drew.cell? ⟨p10, 11, none⟩ = some (.bool a.fresh) ∧ wi.drew.cell? ⟨p10, 12, none⟩ = some (.int .i64 a.code) ∧ wi.drew.cell? ⟨p10, 13, none⟩ = some (.slice A10 a.stamp.length c10) ∧ wi.drew.cell? ⟨p10, 14, none⟩ = some (.int .i64 a.origin) ∧ wi.drew.cell? ⟨p10, 15, none⟩ = some (.int .i64 a.number)) := ⟨msg_cells HO.out.bm, msg_cells HB.out⟩
      go_region_held3 (fun w' : World => (w'.cell? ⟨w.heap.size, 0, none⟩ = some (.int .i64 m.kind) ∧ w'.cell? ⟨w.heap.size, 1, none⟩ = some (.int .i64 m.frm) ∧ w'.cell? ⟨w.heap.size, 2, none⟩ = some (.int .i64 m.dst) ∧ w'.cell? ⟨w.heap.size, 3, none⟩ = some (.int .i64 m.boot) ∧ w'.cell? ⟨w.heap.size, 4, none⟩ = some (.int .i64 m.seq) ∧ w'.cell? ⟨w.heap.size, 5, none⟩ = some (.int .i64 m.low) ∧ w'.cell? ⟨w.heap.size, 6, none⟩ = some (.int .i64 m.verb) ∧ w'.cell? ⟨w.heap.size, 7, none⟩ = some (.string m.path) ∧ w'.cell? ⟨w.heap.size, 8, none⟩ = some (.int .i64 m.mode) ∧ w'.cell? ⟨w.heap.size, 9, none⟩ = some (.int .i64 m.term) ∧ w'.cell? ⟨w.heap.size, 10, none⟩ = some (.int .i64 m.id) ∧ w'.cell? ⟨w.heap.size, 11, none⟩ = some (.bool m.fresh) ∧ w'.cell? ⟨w.heap.size, 12, none⟩ = some (.int .i64 m.code) ∧ w'.cell? ⟨w.heap.size, 13, none⟩ = some (.slice A0 m.stamp.length c0) ∧ w'.cell? ⟨w.heap.size, 14, none⟩ = some (.int .i64 m.origin) ∧ w'.cell? ⟨w.heap.size, 15, none⟩ = some (.int .i64 m.number)) ∧ (w'.cell? ⟨p10, 0, none⟩ = some (.int .i64 a.kind) ∧ w'.cell? ⟨p10, 1, none⟩ = some (.int .i64 a.frm) ∧ w'.cell? ⟨p10, 2, none⟩ = some (.int .i64 a.dst) ∧ w'.cell? ⟨p10, 3, none⟩ = some (.int .i64 a.boot) ∧ w'.cell? ⟨p10, 4, none⟩ = some (.int .i64 a.seq) ∧ w'.cell? ⟨p10, 5, none⟩ = some (.int .i64 a.low) ∧ w'.cell? ⟨p10, 6, none⟩ = some (.int .i64 a.verb) ∧ w'.cell? ⟨p10, 7, none⟩ = some (.string a.path) ∧ w'.cell? ⟨p10, 8, none⟩ = some (.int .i64 a.mode) ∧ w'.cell? ⟨p10, 9, none⟩ = some (.int .i64 a.term) ∧ w'.cell? ⟨p10, 10, none⟩ = some (.int .i64 a.id) ∧ w'.cell? ⟨p10, 11, none⟩ = some (.bool a.fresh) ∧ w'.cell? ⟨p10, 12, none⟩ = some (.int .i64 a.code) ∧ w'.cell? ⟨p10, 13, none⟩ = some (.slice A10 a.stamp.length c10) ∧ w'.cell? ⟨p10, 14, none⟩ = some (.int .i64 a.origin) ∧ w'.cell? ⟨p10, 15, none⟩ = some (.int .i64 a.number)))
        (first
          | exact HSS
          | (go_keep; done))
        (first
          | (go_at_call 17; (with_reducible refine (HCM.out _ (HO.out.below (below_on HBw.out (by first | exact Below.drew (Below.refl _ _) | exact Below.refl _ _)))).mono ?_); rintro e w3 ⟨A', c', rfl, hf, _, hb⟩; replace HBw := Lib.hid (below_on (below_on HBw.out (by first | exact Below.drew (Below.refl _ _) | exact Below.refl _ _)) hb.out); have HFm := hf; replace HSS := And.intro (msg_cells (HO.out.below HBw.out).bm) (msg_cells (blk_below HB.out HBw.out)); clear hb hf)
          | (go_at_call 10; refine (Keep_any _ _ _ _ m a (RepAt.zero (lo := wi.heap.size) (up := wi.heap.size) (blk_below HZ1.out (below_on HBw.out (by first | exact Below.drew (Below.refl _ _) | exact Below.refl _ _))) HLt.out (Nat.le_refl _) (below_on HBw.out (by first | exact Below.drew (Below.refl _ _) | exact Below.refl _ _)).size) RP.Oks.zero (HFm.out.below (by first | exact Below.drew (Below.refl _ _) | exact Below.refl _ _)) (own_fit HA.out.wide ((Mod.of_below (below_on HBw.out (by first | exact Below.drew (Below.refl _ _) | exact Below.refl _ _)) []).own HRO.out (by simp))) HGA.out).mono ?_; rintro e w4 ⟨rfl, hr, hmd⟩; have HR4 := hr; have HMD := Lib.hid (show Mod [g] wi w4 from (Mod.of_below (below_on HBw.out (by first | exact Below.drew (Below.refl _ _) | exact Below.refl _ _)) [g]).trans hmd.out (by simp)); replace HSS := And.intro (msg_cells (HO.out.mod HMD.out (fun x hx => by have := HG.out; simp at hx; omega)).bm) (msg_cells (HMD.out.whole HB.out (by have := HP10.out; simp; omega))); clear hr hmd))
      all_goals
        go_wp2_with fail
        go_meet
        exact ⟨rfl, _, _, HR4, Lib.hid ⟨HW2.out, fun ad e => (HRO.out.lt ad.block (by rw [e]; rfl)).2, Nat.le_refl _⟩, Lib.hid (HMD.out.whole HB.out (by have := HP10.out; simp; omega)), Lib.hid (HMD.out.own HRO.out (fun k hk hf => by have := (HRO.out.lt k hk).1; simp at hf; omega)), Lib.hid (HMD.out.whole HZ2.out (by simp)), Lib.hid (HO.out.mod HMD.out (fun x hx => by have := HG.out; simp at hx; omega))⟩
  case rest =>
  clear HO HZ1 HZ2 HB HRO
  obtain ⟨rfl, lo1, up1, HR1, HN1, HB, HRO, HZ2, HO⟩ := hcut
  go_upto_region 10 with (fail)
  go_cut [] from 60 to 65 (fun wx => ∃ lo2 up2, Hid (RepAt wx (g + 1) lo2 up2 (RP.keepSt RP.st0 m a)) ∧ Hid ((∀ ad, A10 = some ad → ad.block < lo2) ∧ g + 1 < lo2 ∧ up2 ≤ wx.heap.size) ∧ Hid (RepAt wx g lo1 up1 (RP.keepSt RP.st0 m a)) ∧ Hid (MsgBlk wx p10 a (.slice A10 a.stamp.length c10)) ∧ Hid (wx.ownsRow (g + 2) 3 1 (.slice A10 a.stamp.length c10) a.stamp.length (i64s a.stamp)) ∧ Hid (Ow w wx m a A0 A1 c0 c1) ∧ Hid (up1 ≤ wx.heap.size))
  case first =>
    as_aux_lemma =>
      have HCM := Lib.hid (show ∀ wx, Ow w wx m a A0 A1 c0 c1 → Calls Try.prog 17 #[.agg #[.int .i64 m.kind, .int .i64 m.frm, .int .i64 m.dst, .int .i64 m.boot, .int .i64 m.seq, .int .i64 m.low, .int .i64 m.verb, .string m.path, .int .i64 m.mode, .int .i64 m.term, .int .i64 m.id, .bool m.fresh, .int .i64 m.code, .slice A0 m.stamp.length c0, .int .i64 m.origin, .int .i64 m.number]] wx fun e w' => ∃ A' c', e = .returned (.agg (cellsM m (.slice A' m.stamp.length c'))) ∧ Hid (Fit w' A' c' m) ∧ Hid (w'.ownsRow wx.heap.size 3 1 (.slice A' m.stamp.length c') m.stamp.length (i64s m.stamp)) ∧ Hid (Below wx.heap.size wx w') from fun wx h => ownM h HM.out)
      have HCA := Lib.hid (show ∀ wx, Ow w wx m a A0 A1 c0 c1 → Calls Try.prog 17 #[.agg #[.int .i64 a.kind, .int .i64 a.frm, .int .i64 a.dst, .int .i64 a.boot, .int .i64 a.seq, .int .i64 a.low, .int .i64 a.verb, .string a.path, .int .i64 a.mode, .int .i64 a.term, .int .i64 a.id, .bool a.fresh, .int .i64 a.code, .slice A1 a.stamp.length c1, .int .i64 a.origin, .int .i64 a.number]] wx fun e w' => ∃ A' c', e = .returned (.agg (cellsM a (.slice A' a.stamp.length c'))) ∧ Hid (Fit w' A' c' a) ∧ Hid (w'.ownsRow wx.heap.size 3 1 (.slice A' a.stamp.length c') a.stamp.length (i64s a.stamp)) ∧ Hid (Below wx.heap.size wx w') from fun wx h => ownA h HA.out)
      obtain ⟨wi, hwi⟩ : ∃ y, y = wc := ⟨_, rfl⟩
      subst hwi
      have HLt := Lib.hid (show g + 1 < wi.heap.size from HZ2.out.lt)
      have HBw := Lib.hid (Below.refl wi.heap.size wi)
      go_wp2_with fail
      have HSS : (wi.drew.cell? ⟨w.heap.size, 0, none⟩ = some (.int .i64 m.kind) ∧ wi.drew.cell? ⟨w.heap.size, 1, none⟩ = some (.int .i64 m.frm) ∧ wi.drew.cell? ⟨w.heap.size, 2, none⟩ = some (.int .i64 m.dst) ∧ wi.drew.cell? ⟨w.heap.size, 3, none⟩ = some (.int .i64 m.boot) ∧ wi.drew.cell? ⟨w.heap.size, 4, none⟩ = some (.int .i64 m.seq) ∧ wi.drew.cell? ⟨w.heap.size, 5, none⟩ = some (.int .i64 m.low) ∧ wi.drew.cell? ⟨w.heap.size, 6, none⟩ = some (.int .i64 m.verb) ∧ wi.drew.cell? ⟨w.heap.size, 7, none⟩ = some (.string m.path) ∧ wi.drew.cell? ⟨w.heap.size, 8, none⟩ = some (.int .i64 m.mode) ∧ wi.drew.cell? ⟨w.heap.size, 9, none⟩ = some (.int .i64 m.term) ∧ wi.drew.cell? ⟨w.heap.size, 10, none⟩ = some (.int .i64 m.id) ∧ wi.drew.cell? ⟨w.heap.size, 11, none⟩ = some (.bool m.fresh) ∧ wi.drew.cell? ⟨w.heap.size, 12, none⟩ = some (.int .i64 m.code) ∧ wi.drew.cell? ⟨w.heap.size, 13, none⟩ = some (.slice A0 m.stamp.length c0) ∧ wi.drew.cell? ⟨w.heap.size, 14, none⟩ = some (.int .i64 m.origin) ∧ wi.drew.cell? ⟨w.heap.size, 15, none⟩ = some (.int .i64 m.number)) ∧ (wi.drew.cell? ⟨(w.heap.size + 1), 0, none⟩ = some (.int .i64 a.kind) ∧ wi.drew.cell? ⟨(w.heap.size + 1), 1, none⟩ = some (.int .i64 a.frm) ∧ wi.drew.cell? ⟨(w.heap.size + 1), 2, none⟩ = some (.int .i64 a.dst) ∧ wi.drew.cell? ⟨(w.heap.size + 1), 3, none⟩ = some (.int .i64 a.boot) ∧ wi.drew.cell? ⟨(w.heap.size + 1), 4, none⟩ = some (.int .i64 a.seq) ∧ wi.drew.cell? ⟨(w.heap.size + 1), 5, none⟩ = some (.int .i64 a.low) ∧ wi.drew.cell? ⟨(w.heap.size + 1), 6, none⟩ = some (.int .i64 a.verb) ∧ wi.drew.cell? ⟨(w.heap.size + 1), 7, none⟩ = some (.string a.path) ∧ wi.drew.cell? ⟨(w.heap.size + 1), 8, none⟩ = some (.int .i64 a.mode) ∧ wi.drew.cell? ⟨(w.heap.size + 1), 9, none⟩ = some (.int .i64 a.term) ∧ wi.drew.cell? ⟨(w.heap.size + 1), 10, none⟩ = some (.int .i64 a.id) ∧ wi.drew.cell? ⟨(w.heap.size + 1), 11, none⟩ = some (.bool a.fresh) ∧ wi.drew.cell? ⟨(w.heap.size + 1), 12, none⟩ = some (.int .i64 a.code) ∧ wi.drew.cell? ⟨(w.heap.size + 1), 13, none⟩ = some (.slice A1 a.stamp.length c1) ∧ wi.drew.cell? ⟨(w.heap.size + 1), 14, none⟩ = some (.int .i64 a.origin) ∧ wi.drew.cell? ⟨(w.heap.size + 1), 15, none⟩ = some (.int .i64 a.number)) := ⟨msg_cells HO.out.bm, msg_cells HO.out.ba⟩
      go_region_held3 (fun w' : World => (w'.cell? ⟨w.heap.size, 0, none⟩ = some (.int .i64 m.kind) ∧ w'.cell? ⟨w.heap.size, 1, none⟩ = some (.int .i64 m.frm) ∧ w'.cell? ⟨w.heap.size, 2, none⟩ = some (.int .i64 m.dst) ∧ w'.cell? ⟨w.heap.size, 3, none⟩ = some (.int .i64 m.boot) ∧ w'.cell? ⟨w.heap.size, 4, none⟩ = some (.int .i64 m.seq) ∧ w'.cell? ⟨w.heap.size, 5, none⟩ = some (.int .i64 m.low) ∧ w'.cell? ⟨w.heap.size, 6, none⟩ = some (.int .i64 m.verb) ∧ w'.cell? ⟨w.heap.size, 7, none⟩ = some (.string m.path) ∧ w'.cell? ⟨w.heap.size, 8, none⟩ = some (.int .i64 m.mode) ∧ w'.cell? ⟨w.heap.size, 9, none⟩ = some (.int .i64 m.term) ∧ w'.cell? ⟨w.heap.size, 10, none⟩ = some (.int .i64 m.id) ∧ w'.cell? ⟨w.heap.size, 11, none⟩ = some (.bool m.fresh) ∧ w'.cell? ⟨w.heap.size, 12, none⟩ = some (.int .i64 m.code) ∧ w'.cell? ⟨w.heap.size, 13, none⟩ = some (.slice A0 m.stamp.length c0) ∧ w'.cell? ⟨w.heap.size, 14, none⟩ = some (.int .i64 m.origin) ∧ w'.cell? ⟨w.heap.size, 15, none⟩ = some (.int .i64 m.number)) ∧ (w'.cell? ⟨(w.heap.size + 1), 0, none⟩ = some (.int .i64 a.kind) ∧ w'.cell? ⟨(w.heap.size + 1), 1, none⟩ = some (.int .i64 a.frm) ∧ w'.cell? ⟨(w.heap.size + 1), 2, none⟩ = some (.int .i64 a.dst) ∧ w'.cell? ⟨(w.heap.size + 1), 3, none⟩ = some (.int .i64 a.boot) ∧ w'.cell? ⟨(w.heap.size + 1), 4, none⟩ = some (.int .i64 a.seq) ∧ w'.cell? ⟨(w.heap.size + 1), 5, none⟩ = some (.int .i64 a.low) ∧ w'.cell? ⟨(w.heap.size + 1), 6, none⟩ = some (.int .i64 a.verb) ∧ w'.cell? ⟨(w.heap.size + 1), 7, none⟩ = some (.string a.path) ∧ w'.cell? ⟨(w.heap.size + 1), 8, none⟩ = some (.int .i64 a.mode) ∧ w'.cell? ⟨(w.heap.size + 1), 9, none⟩ = some (.int .i64 a.term) ∧ w'.cell? ⟨(w.heap.size + 1), 10, none⟩ = some (.int .i64 a.id) ∧ w'.cell? ⟨(w.heap.size + 1), 11, none⟩ = some (.bool a.fresh) ∧ w'.cell? ⟨(w.heap.size + 1), 12, none⟩ = some (.int .i64 a.code) ∧ w'.cell? ⟨(w.heap.size + 1), 13, none⟩ = some (.slice A1 a.stamp.length c1) ∧ w'.cell? ⟨(w.heap.size + 1), 14, none⟩ = some (.int .i64 a.origin) ∧ w'.cell? ⟨(w.heap.size + 1), 15, none⟩ = some (.int .i64 a.number)))
        (first
          | exact HSS
          | (go_keep; done))
        (first
          | (go_at_call 17; (with_reducible refine (HCM.out _ (HO.out.below (below_on HBw.out (by first | exact Below.drew (Below.refl _ _) | exact Below.refl _ _)))).mono ?_); rintro e w3 ⟨A', c', rfl, hf, _, hb⟩; replace HBw := Lib.hid (below_on (below_on HBw.out (by first | exact Below.drew (Below.refl _ _) | exact Below.refl _ _)) hb.out); have HFm := hf; (try replace HFa := Lib.hid (HFa.out.below (below_on (by first | exact Below.drew (Below.refl _ _) | exact Below.refl _ _) hb.out))); replace HSS := And.intro (msg_cells (HO.out.below HBw.out).bm) (msg_cells (HO.out.below HBw.out).ba); clear hb hf)
          | (go_at_call 17; (with_reducible refine (HCA.out _ (HO.out.below (below_on HBw.out (by first | exact Below.drew (Below.refl _ _) | exact Below.refl _ _)))).mono ?_); rintro e w3 ⟨A2, c2, rfl, hf, hro, hb⟩; have HGA := Lib.hid (show ∀ ad, A2 = some ad → ad.block ≠ g + 1 from fun ad e => fresh_ne hro.out HLt.out (below_on HBw.out (by first | exact Below.drew (Below.refl _ _) | exact Below.refl _ _)) e); replace HBw := Lib.hid (below_on (below_on HBw.out (by first | exact Below.drew (Below.refl _ _) | exact Below.refl _ _)) hb.out); (try replace HFm := Lib.hid (HFm.out.below (below_on (by first | exact Below.drew (Below.refl _ _) | exact Below.refl _ _) hb.out))); have HFa := hf; replace HSS := And.intro (msg_cells (HO.out.below HBw.out).bm) (msg_cells (HO.out.below HBw.out).ba); clear hb hf hro)
          | (go_at_call 10; refine (Keep_any _ _ _ _ m a (RepAt.zero (lo := wi.heap.size) (up := wi.heap.size) (blk_below HZ2.out (below_on HBw.out (by first | exact Below.drew (Below.refl _ _) | exact Below.refl _ _))) HLt.out (Nat.le_refl _) (below_on HBw.out (by first | exact Below.drew (Below.refl _ _) | exact Below.refl _ _)).size) RP.Oks.zero (HFm.out.below (by first | exact Below.drew (Below.refl _ _) | exact Below.refl _ _)) (HFa.out.below (by first | exact Below.drew (Below.refl _ _) | exact Below.refl _ _)) HGA.out).mono ?_; rintro e w4 ⟨rfl, hr, hmd⟩; have HR4 := hr; have HMD := Lib.hid (show Mod [g + 1] wi w4 from (Mod.of_below (below_on HBw.out (by first | exact Below.drew (Below.refl _ _) | exact Below.refl _ _)) [g + 1]).trans hmd.out (by simp)); replace HSS := And.intro (msg_cells (HO.out.mod HMD.out (fun x hx => by have := HG.out; simp at hx; omega)).bm) (msg_cells (HO.out.mod HMD.out (fun x hx => by have := HG.out; simp at hx; omega)).ba); clear hr hmd))
      all_goals
        go_wp2_with fail
        go_meet
        exact ⟨_, _, HR4, Lib.hid ⟨fun ad e => (HRO.out.lt ad.block (by rw [e]; rfl)).2, HLt.out, Nat.le_refl _⟩, Lib.hid (HR1.out.mod HMD.out (by simp) (fun x hx => by have := HN1.out.1; simp at hx; omega)), Lib.hid (HMD.out.whole HB.out (by have := HP10.out; simp; omega)), Lib.hid (HMD.out.own HRO.out (fun k hk hf => by have := (HRO.out.lt k hk).1; simp at hf; omega)), Lib.hid (HO.out.mod HMD.out (fun x hx => by have := HG.out; simp at hx; omega)), Lib.hid (Nat.le_trans HN1.out.2.2 HMD.out.size)⟩
  case rest =>
  clear HO HZ2 HB HRO HR1
  obtain ⟨lo2, up2, HR2, HN2, HR1, HB, HRO, HO, HU1⟩ := hcut
  go_upto_region 11 with (fail)
  go_cut [69] from 66 to 69 (fun bv wx => bv = .bool false ∧ Hid (Below wc.heap.size wc wx))
  case first =>
    as_aux_lemma =>
      obtain ⟨wi, hwi⟩ : ∃ y, y = wc := ⟨_, rfl⟩
      subst hwi
      have HBw := Lib.hid (Below.refl wi.heap.size wi)
      have HIA := Lib.hid (IntsAt.own HRO.out)
      have HIB := Lib.hid (HA.out.ints.below HO.out.bel)
      have HFA := Lib.hid (own_fit HA.out.wide HRO.out)
      have HAC := Lib.hid (show a.stamp.length ≤ c1 ∧ c1 ≤ 9223372036854775807 from ⟨HA.out.le, by have := HA.out.cap; omega⟩)
      have HL1 := Lib.hid (blk_range HB.out)
      have HL2 := Lib.hid (blk_range HO.out.ba)
      go_wp2_with (first
        | (refine wpList_load_mid rfl 32 (.tmp 10) rfl p10 0 rfl (slotC a A10 c10) _ HL1.out Try.underlying32 rfl (by kernel_rfl) ?_)
        | (refine wpList_load_mid rfl 32 (.tmp 3) rfl (w.heap.size + 1) 0 rfl (slotC a A1 c1) _ HL2.out Try.underlying32 rfl (by kernel_rfl) ?_)
        | (go_at_call 19; refine (r6_Same A10 A1 c10 c1 a a _ HIA.out HIB.out HFA.out.le HAC.out.1 HFA.out.cap HAC.out.2).mono ?_; rintro e w3 ⟨rfl, hb⟩; replace HBw := Lib.hid hb; clear hb; rw [show decide (a = a) = true from decide_eq_true rfl]))
      go_meet
      exact ⟨rfl, HBw⟩
  case rest =>
  obtain ⟨rfl, HBC⟩ := hcut
  replace HR2 := Lib.hid (HR2.out.below HBC.out)
  replace HR1 := Lib.hid (HR1.out.below HBC.out)
  replace HB := Lib.hid (blk_below HB.out HBC.out)
  replace HRO := Lib.hid ((Mod.of_below HBC.out []).own HRO.out (by simp))
  replace HO := Lib.hid (HO.out.below HBC.out)
  clear HBC HU1
  have c13 : wc.cell? ⟨p10, 13, none⟩ = some (.slice A10 a.stamp.length c10) := HB.out.cell 13
  go_wp2_with fail
  go_loopw [73] (fun iv wx => ∃ i : Nat, iv = .int .i64 (i : Int) ∧ i ≤ a.stamp.length ∧ (∃ xs, Hid (wx.ownsRow (g + 2) 3 1 (.slice A10 a.stamp.length c10) a.stamp.length xs)) ∧ Hid (RepAt wx g lo1 up1 (RP.keepSt RP.st0 m a)) ∧ Hid (RepAt wx (g + 1) lo2 up2 (RP.keepSt RP.st0 m a)) ∧ Hid (MsgBlk wx p10 a (.slice A10 a.stamp.length c10)) ∧ Hid (Ow w wx m a A0 A1 c0 c1)) (fun iv _ => a.stamp.length - (intOf iv).toNat)
  case atStart => exact ⟨0, rfl, Nat.zero_le _, ⟨_, HRO⟩, HR1, HR2, HB, HO⟩
  case round =>
    clear HR1 HR2 HB HRO HO c13
    obtain ⟨i, rfl, hi, ⟨xs, HRO⟩, HR1, HR2, HB, HO⟩ := hrel
    by_cases hlt : i < a.stamp.length
    · as_aux_lemma =>
        obtain ⟨gb, cb, hv, hb1, hb2⟩ := HRO.out.form (by omega)
        injection hv with hA _ hc
        subst hA
        have hwi : IntKind.i64.wrap ((i : Int) + 1) = (i : Int) + 1 := IntWalk.i64_in _ (by have := HA.out.le; have := HA.out.cap; omega)
        have d1 : (i : Int) < (a.stamp.length : Int) := by omega
        have d2 : (0 : Int) ≤ (i : Int) := by omega
        have hxl : i < xs.length := by have := HRO.out.1; omega
        have k1 : wr.cell? ⟨gb, i, none⟩ = some (xs[i]'hxl) := by
          have := HRO.out.cells (g := gb) rfl i (xs[i]'hxl) (List.getElem?_eq_getElem hxl)
          rwa [Addr.add_lit, Nat.zero_add] at this
        have k2 : wr.frozen? ⟨gb, i, none⟩ = false := HRO.out.frozenAt i
        have c13 : wr.cell? ⟨p10, 13, none⟩ = some (.slice (some ⟨gb, 0, none⟩) a.stamp.length c10) := HB.out.cell 13
        have HMD := Lib.hid ((Mod.refl [gb] wr).store (p := ⟨gb, i, none⟩) (.inl (by simp)) (.int .i64 77))
        have HGB := Lib.hid (show gb < lo1 ∧ gb < lo2 ∧ gb ≠ p10 ∧ g + 2 ≤ gb from ⟨HN1.out.2.1 _ rfl, HN2.out.1 _ rfl, fun e => own_ne HRO.out HB.out (by decide) (by rw [← e]; rfl), hb1⟩)
        have HRS := Lib.hid ((HRO.out.stored i (.int .i64 77)).1)
        generalize xs[i]'hxl = u at k1
        clear hxl hb1 hb2 hc
        go_wp2_with fail
        go_roundw
        case rel => exact ⟨i + 1, rfl, by omega, ⟨_, HRS⟩, Lib.hid (HR1.out.mod HMD.out (by have := HGB.out; simp; omega) (fun x hx => by have := HGB.out; simp at hx; omega)), Lib.hid (HR2.out.mod HMD.out (by have := HGB.out; simp; omega) (fun x hx => by have := HGB.out; simp at hx; omega)), Lib.hid (HMD.out.whole HB.out (by have := HGB.out; simp; omega)), Lib.hid (HO.out.mod HMD.out (fun x hx => by have := HGB.out; have := HG.out; simp at hx; omega))⟩
        case measure => simp [intOf]; omega
    · as_aux_lemma =>
        have e1 : decide ((i : Int) < (a.stamp.length : Int)) = false := decide_eq_false (by omega)
        go_upto_region 18 with (fail)
        obtain ⟨V, hV⟩ : ∃ V, RP.verdict (RP.keepSt RP.st0 m a) m = V := ⟨_, rfl⟩
        obtain ⟨an, han⟩ : ∃ an, RP.answer (RP.keepSt RP.st0 m a) m = an := ⟨_, rfl⟩
        have HVN := Lib.hid (And.intro hV han)
        have HQA := Lib.hid (show Ans (RP.keepSt RP.st0 m a) m V an from ⟨RP.Oks.zero.keep m a, hV, han⟩)
        have HQB := HQA
        clear hV han
        have HRA := HR1
        have HRB := HR2
        have HG12 := Lib.hid (show g < lo2 ∧ g + 1 < lo1 from ⟨by have := HN2.out.2.1; omega, HN1.out.1⟩)
        obtain ⟨N1, hN1⟩ : ∃ y, y = wr.heap.size := ⟨_, rfl⟩
        have HBS := Lib.hid (show N1 ≤ wr.heap.size ∧ up1 ≤ N1 ∧ up2 ≤ N1 from ⟨by omega, by rw [hN1]; exact HR1.out.top, by rw [hN1]; exact HR2.out.top⟩)
        clear hN1 HR1 HR2 HRO HB
        go_cut [6, 13] from 81 to 87 (fun vv p wx => vv = .int .i64 V ∧ ∃ b A c, p = .pointer (some ⟨b, 0, none⟩) ∧ Hid (MsgBlk wx b an (.slice A an.stamp.length c)) ∧ Hid (wx.ownsRow N1 3 1 (.slice A an.stamp.length c) an.stamp.length (i64s an.stamp)) ∧ (∃ s, Hid (RepAt wx g lo1 up1 s) ∧ Hid (Ans s m V an)) ∧ (∃ s, Hid (RepAt wx (g + 1) lo2 up2 s) ∧ Hid (Ans s m V an)) ∧ Hid (Ow w wx m a A0 A1 c0 c1) ∧ Hid (N1 ≤ b ∧ b < wx.heap.size ∧ ∀ k, (Value.slice A an.stamp.length c).ownBlock = some k → k ≠ b))
        case first =>
          as_aux_lemma =>
            obtain ⟨wi, hwi⟩ : ∃ y, y = wr := ⟨_, rfl⟩
            subst hwi
            have HL := Lib.hid (blk_range HO.out.bm)
            go_wp2_with (first
              | (refine wpList_load_mid rfl 32 (.tmp 2) rfl w.heap.size 0 rfl (slotC m A0 c0) _ HL.out Try.underlying32 rfl (by kernel_rfl) ?_)
              | (go_at_call 17
                 refine (ownM HO.out HM.out).mono ?_
                 rintro e w3 ⟨A', c', rfl, hf, _, hb⟩
                 have HFm := hf
                 have HBw := hb
                 clear hf hb HL)
              | (go_at_call 13
                 refine (tell_any _ _ m (HRA.out.below HBw.out) HQA.out HFm.out).mono ?_
                 rintro e w4 ⟨A4, c4, rfl, hro, ⟨s4, hr4, hq4⟩, hmd⟩
                 have HMD := Lib.hid (show Mod [g] wi w4 from (Mod.of_below HBw.out [g]).trans hmd.out (by simp))
                 have HR4 := hr4
                 have HQ4 := hq4
                 have HRO4 := Lib.hid (own_lows hro.out (show N1 ≤ w3.heap.size by have := HBw.out.size; have := HBS.out; omega))
                 have HLT4 := Lib.hid (show ∀ k, (Value.slice A4 an.stamp.length c4).ownBlock = some k → k < w4.heap.size from fun k hk => (hro.out.lt k hk).2)
                 clear hro hr4 hq4 hmd HFm HBw
                 unfold cellsM))
            go_meet
            have HMA := HMD.out.alloc (.cells (cellsM an (.slice A4 an.stamp.length c4)) 32)
            exact ⟨rfl, _, A4, c4, rfl, Lib.hid (Whole.new w4 _ _), Lib.hid (HRO4.out.alloc _), ⟨s4, Lib.hid (HR4.out.below ((Below.refl _ w4).alloc (Nat.le_refl _) _)), HQ4⟩, ⟨_, Lib.hid (HRB.out.mod HMA (by simp) (fun x hx => by have := HG12.out; simp at hx; omega)), HQB⟩, Lib.hid (HO.out.mod HMA (fun x hx => by have := HG.out; simp at hx; omega)), Lib.hid ⟨by have := HMD.out.size; have := HBS.out; omega, by simp, fun k hk e => by have := HLT4.out k hk; omega⟩⟩
        case rest =>
        clear HRA HRB HO
        obtain ⟨rfl, p13, A13, c13, rfl, HB13, HR13, ⟨s1, HRA, HQA⟩, ⟨s2, HRB, HQB⟩, HO, HN13⟩ := hcut
        have HGN := Lib.hid (show g + 1 < N1 by have := HRB.out.lt; have := HRB.out.le; have := HBS.out; omega)
        go_upto_region 19 with (fail)
        obtain ⟨N2, hN2⟩ : ∃ y, y = wc.heap.size := ⟨_, rfl⟩
        have HBT := Lib.hid (show N2 ≤ wc.heap.size by omega)
        have HP13 := Lib.hid (show p13 < N2 ∧ ∀ k, (Value.slice A13 an.stamp.length c13).ownBlock = some k → k < N2 from ⟨by have := HN13.out.2.1; omega, fun k hk => by have := (HR13.out.lt k hk).2; omega⟩)
        have HN12 := Lib.hid (show N1 ≤ N2 by have := HN13.out; omega)
        clear hN2
        go_cut [14, 15] from 88 to 94 (fun vv p wx => vv = .int .i64 V ∧ ∃ b A c, p = .pointer (some ⟨b, 0, none⟩) ∧ Hid (MsgBlk wx b an (.slice A an.stamp.length c)) ∧ Hid (wx.ownsRow N2 3 1 (.slice A an.stamp.length c) an.stamp.length (i64s an.stamp)) ∧ (∃ s, Hid (RepAt wx g lo1 up1 s) ∧ Hid (Ans s m V an)) ∧ (∃ s, Hid (RepAt wx (g + 1) lo2 up2 s) ∧ Hid (Ans s m V an)) ∧ Hid (Ow w wx m a A0 A1 c0 c1) ∧ Hid (N2 ≤ b ∧ b < wx.heap.size ∧ ∀ k, (Value.slice A an.stamp.length c).ownBlock = some k → k ≠ b) ∧ Hid (MsgBlk wx p13 an (.slice A13 an.stamp.length c13)) ∧ Hid (wx.ownsRow N1 3 1 (.slice A13 an.stamp.length c13) an.stamp.length (i64s an.stamp)))
        case first =>
          as_aux_lemma =>
            obtain ⟨wi, hwi⟩ : ∃ y, y = wc := ⟨_, rfl⟩
            subst hwi
            have HL := Lib.hid (blk_range HO.out.bm)
            go_wp2_with (first
              | (refine wpList_load_mid rfl 32 (.tmp 2) rfl w.heap.size 0 rfl (slotC m A0 c0) _ HL.out Try.underlying32 rfl (by kernel_rfl) ?_)
              | (go_at_call 17
                 refine (ownM HO.out HM.out).mono ?_
                 rintro e w3 ⟨A', c', rfl, hf, _, hb⟩
                 have HFm := hf
                 have HBw := hb
                 clear hf hb HL)
              | (go_at_call 13
                 refine (tell_any _ _ m (HRA.out.below HBw.out) HQA.out HFm.out).mono ?_
                 rintro e w4 ⟨A4, c4, rfl, hro, ⟨s4, hr4, hq4⟩, hmd⟩
                 have HMD := Lib.hid (show Mod [g] wi w4 from (Mod.of_below HBw.out [g]).trans hmd.out (by simp))
                 have HR4 := hr4
                 have HQ4 := hq4
                 have HRO4 := Lib.hid (own_lows hro.out (show N2 ≤ w3.heap.size by have := HBw.out.size; have := HBT.out; omega))
                 have HLT4 := Lib.hid (show ∀ k, (Value.slice A4 an.stamp.length c4).ownBlock = some k → k < w4.heap.size from fun k hk => (hro.out.lt k hk).2)
                 clear hro hr4 hq4 hmd HFm HBw
                 unfold cellsM))
            go_meet
            have HMA := HMD.out.alloc (.cells (cellsM an (.slice A4 an.stamp.length c4)) 32)
            exact ⟨rfl, _, A4, c4, rfl, Lib.hid (Whole.new w4 _ _), Lib.hid (HRO4.out.alloc _), ⟨s4, Lib.hid (HR4.out.below ((Below.refl _ w4).alloc (Nat.le_refl _) _)), HQ4⟩, ⟨_, Lib.hid (HRB.out.mod HMA (by simp) (fun x hx => by have := HG12.out; simp at hx; omega)), HQB⟩, Lib.hid (HO.out.mod HMA (fun x hx => by have := HG.out; simp at hx; omega)), Lib.hid ⟨by have := HMD.out.size; have := HBT.out; omega, by simp, fun k hk e => by have := HLT4.out k hk; omega⟩, Lib.hid ((HMD.out.whole HB13.out (by have := HN13.out.1; have := HGN.out; simp; omega)).alloc _), Lib.hid ((HMD.out.own HR13.out (fun k hk hf => by have := (HR13.out.lt k hk).1; have := HGN.out; simp at hf; omega)).alloc _)⟩
        case rest =>
        clear HRA HRB HO HB13 HR13
        obtain ⟨rfl, p15, A15, c15, rfl, HB15, HR15, ⟨s1, HRA, HQA⟩, ⟨s2, HRB, HQB⟩, HO, HN15, HB13, HR13⟩ := hcut
        obtain ⟨K, hK⟩ : ∃ K, RP.kept RP.st0 m a = K := ⟨_, rfl⟩
        rw [hK]
        have HKV := Lib.hid (show (K = true → V = 2 ∧ an = a) ∧ (K = false → (V == 2) = false) ∧ an.stamp.length ≤ 4 from by
          obtain ⟨h1, h2⟩ := HVN.out
          rw [← hK]
          cases hk : RP.kept RP.st0 m a with
          | true =>
            obtain ⟨e1, e2⟩ := RP.keep_yes hk
            have hf := RP.fitsB (RP.kept_of hk).2
            refine ⟨fun _ => ⟨by rw [← h1, e1], by rw [← h2, e2]⟩, fun h => by (cases h), ?_⟩
            rw [← h2, e2]
            exact reply_stamp hf.v hf.k
          | false =>
            have e1 := RP.keep_no hk
            have hz : an = WM.zero := by rw [← h2]; unfold RP.answer; rw [if_neg e1]
            refine ⟨fun h => by (cases h), fun _ => by rw [h1] at e1; simp [e1], ?_⟩
            rw [hz]
            exact Nat.zero_le _)
        clear hK
        go_upto_region 20 with (fail)
        go_cut [98] from 95 to 98 (fun bv wx => bv = .bool false ∧ Hid (Below wc.heap.size wc wx))
        case first =>
          cases K with
          | true =>
            have e2 : (V == 2) = true := by rw [(HKV.out.1 rfl).1]; rfl
            go_wp2_with fail
            go_meet
            exact ⟨rfl, Lib.hid (Below.refl _ _)⟩
          | false =>
            have e2 := HKV.out.2.1 rfl
            go_wp2_with fail
            go_meet
            exact ⟨rfl, Lib.hid (Below.refl _ _)⟩
        case rest =>
        obtain ⟨rfl, HBC⟩ := hcut
        replace HRA := Lib.hid (HRA.out.below HBC.out)
        replace HRB := Lib.hid (HRB.out.below HBC.out)
        replace HO := Lib.hid (HO.out.below HBC.out)
        replace HB13 := Lib.hid (blk_below HB13.out HBC.out)
        replace HB15 := Lib.hid (blk_below HB15.out HBC.out)
        replace HR13 := Lib.hid ((Mod.of_below HBC.out []).own HR13.out (by simp))
        replace HR15 := Lib.hid ((Mod.of_below HBC.out []).own HR15.out (by simp))
        have cc13 : wc.cell? ⟨p13, 13, none⟩ = some (.slice A13 an.stamp.length c13) := HB13.out.cell 13
        go_wp2_with fail
        go_loopw [102] (fun iv wx => ∃ i : Nat, iv = .int .i64 (i : Int) ∧ i ≤ an.stamp.length ∧ (∃ xs, Hid (wx.ownsRow N1 3 1 (.slice A13 an.stamp.length c13) an.stamp.length xs)) ∧ (∃ s, Hid (RepAt wx g lo1 up1 s) ∧ Hid (Ans s m V an)) ∧ (∃ s, Hid (RepAt wx (g + 1) lo2 up2 s) ∧ Hid (Ans s m V an)) ∧ Hid (MsgBlk wx p13 an (.slice A13 an.stamp.length c13)) ∧ Hid (MsgBlk wx p15 an (.slice A15 an.stamp.length c15)) ∧ Hid (wx.ownsRow N2 3 1 (.slice A15 an.stamp.length c15) an.stamp.length (i64s an.stamp)) ∧ Hid (Ow w wx m a A0 A1 c0 c1)) (fun iv _ => an.stamp.length - (intOf iv).toNat)
        case atStart => exact ⟨0, rfl, Nat.zero_le _, ⟨_, HR13⟩, ⟨_, HRA, HQA⟩, ⟨_, HRB, HQB⟩, HB13, HB15, HR15, HO⟩
        case round =>
          clear HRA HRB HQA HQB HB13 HB15 HR13 HR15 HO cc13 HBC
          obtain ⟨q, rfl, hi2, ⟨xs2, HRO⟩, ⟨s1, HRA, HQA⟩, ⟨s2, HRB, HQB⟩, HB13, HB15, HR15, HO⟩ := hrel
          have h4 := HKV.out.2.2
          by_cases hlt2 : q < an.stamp.length
          · as_aux_lemma =>
              obtain ⟨gb, cb, hv, hb1, hb2⟩ := HRO.out.form (by omega)
              have hgn : gb < N2 := HP13.out.2 gb (by rw [hv]; rfl)
              injection hv with hA2 _ hc2
              subst hA2
              have hwi : IntKind.i64.wrap ((q : Int) + 1) = (q : Int) + 1 := IntWalk.i64_in _ (by omega)
              have d1 : (q : Int) < (an.stamp.length : Int) := by omega
              have d2 : (0 : Int) ≤ (q : Int) := by omega
              have hxl : q < xs2.length := by have := HRO.out.1; omega
              have k1 : wr.cell? ⟨gb, q, none⟩ = some (xs2[q]'hxl) := by
                have := HRO.out.cells (g := gb) rfl q (xs2[q]'hxl) (List.getElem?_eq_getElem hxl)
                rwa [Addr.add_lit, Nat.zero_add] at this
              have k2 : wr.frozen? ⟨gb, q, none⟩ = false := HRO.out.frozenAt q
              have cc13 : wr.cell? ⟨p13, 13, none⟩ = some (.slice (some ⟨gb, 0, none⟩) an.stamp.length c13) := HB13.out.cell 13
              have HMD := Lib.hid ((Mod.refl [gb] wr).store (p := ⟨gb, q, none⟩) (.inl (by simp)) (.int .i64 (-5)))
              have HGB := Lib.hid (show N1 ≤ gb ∧ gb < N2 ∧ gb ≠ p13 ∧ gb ≠ p15 from ⟨hb1, hgn, fun e => own_ne HRO.out HB13.out (by decide) (by rw [← e]; rfl), fun e => own_ne HRO.out HB15.out (by decide) (by rw [← e]; rfl)⟩)
              have HRS := Lib.hid ((HRO.out.stored q (.int .i64 (-5))).1)
              generalize xs2[q]'hxl = u at k1
              clear hxl hb1 hb2 hc2 hgn h4
              go_wp2_with fail
              go_roundw
              case rel => exact ⟨q + 1, rfl, by omega, ⟨_, HRS⟩, ⟨s1, Lib.hid (HRA.out.mod HMD.out (by have := HGB.out; have := HGN.out; simp; omega) (fun x hx => by have := HGB.out; have := HBS.out; simp at hx; omega)), HQA⟩, ⟨s2, Lib.hid (HRB.out.mod HMD.out (by have := HGB.out; have := HGN.out; simp; omega) (fun x hx => by have := HGB.out; have := HBS.out; simp at hx; omega)), HQB⟩, Lib.hid (HMD.out.whole HB13.out (by have := HGB.out; simp; omega)), Lib.hid (HMD.out.whole HB15.out (by have := HGB.out; simp; omega)), Lib.hid (HMD.out.own HR15.out (fun k hk hf => by have := (HR15.out.lt k hk).1; have := HGB.out; simp at hf; omega)), Lib.hid (HO.out.mod HMD.out (fun x hx => by have := HGB.out; have := HGN.out; have := HG.out; simp at hx; omega))⟩
              case measure => simp [intOf]; omega
          · as_aux_lemma =>
              have e1 : decide ((q : Int) < (an.stamp.length : Int)) = false := decide_eq_false (by omega)
              have HNE := Lib.hid (show ∀ k k2, (Value.slice A13 an.stamp.length c13).ownBlock = some k → (Value.slice A15 an.stamp.length c15).ownBlock = some k2 → k ≠ k2 from fun k k2 hk hk2 => by have := HP13.out.2 k hk; have := (HR15.out.lt k2 hk2).1; omega)
              have HL4 := Lib.hid h4
              clear h4
              go_wp2_with fail
              go_loopw [17] (fun iv wx => ∃ (j nn : Nat) (Ap : Option Addr) (cp : Nat), iv = .int .i64 (j : Int) ∧ j ≤ 9 ∧ nn ≤ 4 + j ∧ (∃ xs, Hid (wx.ownsRow N1 3 1 (.slice Ap nn cp) nn xs)) ∧ (∃ s, Hid (RepAt wx g lo1 up1 s) ∧ Hid (Ans s m V an)) ∧ (∃ s, Hid (RepAt wx (g + 1) lo2 up2 s) ∧ Hid (Ans s m V an)) ∧ Hid (MsgBlk wx p13 an (.slice Ap nn cp)) ∧ Hid (MsgBlk wx p15 an (.slice A15 an.stamp.length c15)) ∧ Hid (wx.ownsRow N2 3 1 (.slice A15 an.stamp.length c15) an.stamp.length (i64s an.stamp)) ∧ Hid (∀ k k2, (Value.slice Ap nn cp).ownBlock = some k → (Value.slice A15 an.stamp.length c15).ownBlock = some k2 → k ≠ k2) ∧ Hid (Ow w wx m a A0 A1 c0 c1)) (fun iv _ => 9 - (intOf iv).toNat)
              case atStart => exact ⟨0, an.stamp.length, A13, c13, rfl, by omega, by have := HL4.out; omega, ⟨_, HRO⟩, ⟨_, HRA, HQA⟩, ⟨_, HRB, HQB⟩, HB13, HB15, HR15, HNE, HO⟩
              case round =>
                clear HRA HRB HQA HQB HB13 HB15 HRO HR15 HO HNE
                obtain ⟨j, nn, Ap, cp, rfl, hj9, hnn, ⟨xs3, HRO⟩, ⟨s1, HRA, HQA⟩, ⟨s2, HRB, HQB⟩, HB13, HB15, HR15, HNE, HO⟩ := hrel
                by_cases hj : j < 9
                · as_aux_lemma =>
                    have d1 : (j : Int) < 9 := by omega
                    have hwj : IntKind.i64.wrap ((j : Int) + 1) = (j : Int) + 1 := IntWalk.i64_in _ (by omega)
                    have HPN := Lib.hid (show (Value.slice Ap nn cp).ownBlock ≠ some p13 ∧ (Value.slice Ap nn cp).ownBlock ≠ some p15 ∧ (Value.slice A15 an.stamp.length c15).ownBlock ≠ some p13 from ⟨own_ne HRO.out HB13.out (by decide), own_ne HRO.out HB15.out (by decide), own_ne HR15.out HB13.out (by decide)⟩)
                    have HAW := Lib.hid ((Below.refl wr.heap.size wr).alloc (Nat.le_refl _) (.cells #[.int .i64 (-6)] 3))
                    have cc13 : (wr.alloc (.cells #[.int .i64 (-6)] 3)).cell? ⟨p13, 13, none⟩ = some (.slice Ap nn cp) := (HB13.out.alloc (.cells #[.int .i64 (-6)] 3)).cell 13
                    have c13w : wr.cell? ⟨p13, 13, none⟩ = some (.slice Ap nn cp) := HB13.out.cell 13
                    obtain ⟨i0, hi0, hz0, hz1, hz2⟩ := info_parts info_int
                    have HI0 := Lib.hid (And.intro hi0 (And.intro hz0 (And.intro hz1 hz2)))
                    clear hi0 hz0 hz1 hz2
                    have HJ9 := Lib.hid (show nn ≤ 13 by omega)
                    go_wp2_with (first
                      | (at_builtin
                         refine wpList_append_own_at _ rfl (.tmp 115) (.tmp 116) 30 rfl N1 3 i0 (.int .i64 0) 1 8 Try.underlying30 HI0.out.1 HI0.out.2.1 HI0.out.2.2.1 HI0.out.2.2.2 rfl (by decide) (.slice Ap nn cp) nn xs3 rfl (HRO.out.alloc _) ⟨wr.heap.size, 0, none⟩ 1 1 [.int .i64 (-6)] rfl rfl (World.news_of_block (cs := #[.int .i64 (-6)]) (t := 3) (fr := (0, 0)) (heap_alloc_new wr _)) (one_i64 (l := [-6])) (by have := HJ9.out; unfold maxLen; omega) (by have := HJ9.out; omega) (by have := HAW.out.size; have := (HRO.out.alloc (.cells #[.int .i64 (-6)] 3)); have := HRA.out.top; have := HP13.out.1; have := HB13.out.lt; have := HN13.out.1; omega) ?_
                         intro v' w2 hown hgrow _ hblk
                         obtain ⟨A9, c9, hv9, _, _⟩ := own_shape hown
                         subst hv9
                         have HM2 := Lib.hid (show Mod (Value.slice Ap nn cp).ownBlock.toList (wr.alloc (.cells #[.int .i64 (-6)] 3)) w2 from (Mod.refl _ _).grown hgrow (fun k hk => .inl (by rw [hk]; simp)))
                         have HB2 := Lib.hid (HM2.out.whole (HB13.out.alloc (.cells #[.int .i64 (-6)] 3)) (fun h => HPN.out.1 (by simpa using h)))
                         have HOW2 := Lib.hid hown
                         have HBK := Lib.hid hblk
                         have cc13 : w2.cell? ⟨p13, 13, none⟩ = some (.slice Ap nn cp) := HB2.out.cell 13
                         have ff13 := HB2.out.frozen 13
                         clear hown hgrow hblk c13w))
                    go_roundw
                    case rel =>
                      have HS3 := (Mod.refl [p13] w2).store (p := ⟨p13, 13, none⟩) (.inl (by simp)) (.slice A9 (nn + 1) c9)
                      have HOB : ∀ x, x ∈ (Value.slice Ap nn cp).ownBlock.toList → N1 ≤ x := fun x hx => (HRO.out.lt x (by simpa using hx)).1
                      have ha : Below wr.heap.size wr (wr.alloc (.cells #[.int .i64 (-6)] 3)) := (Below.refl _ wr).alloc (Nat.le_refl _) _
                      have hgn := HGN.out
                      have hbs := HBS.out
                      have hn13 := HN13.out.1
                      have hn15 := HN15.out.1
                      have hp13 := HP13.out.1
                      have hg := HG.out
                      refine ⟨j + 1, nn + 1, A9, c9, rfl, by omega, by omega, ⟨_, Lib.hid (HS3.own HOW2.out (fun k hk hf => by
                          obtain rfl : k = p13 := by simpa using hf
                          exact own_ne HOW2.out HB2.out (by decide) hk))⟩,
                        ⟨s1, Lib.hid (((HRA.out.below ha).mod HM2.out (fun hx => by have := HOB _ hx; omega) (fun x hx => by have := HOB _ hx; omega)).mod HS3 (by simp; omega) (fun x hx => by simp at hx; omega)), HQA⟩,
                        ⟨s2, Lib.hid (((HRB.out.below ha).mod HM2.out (fun hx => by have := HOB _ hx; omega) (fun x hx => by have := HOB _ hx; omega)).mod HS3 (by simp; omega) (fun x hx => by simp at hx; omega)), HQB⟩,
                        Lib.hid (show MsgBlk (w2.setCell ⟨p13, 13, none⟩ (.slice A9 (nn + 1) c9)) p13 an (.slice A9 (nn + 1) c9) from HB2.out.store 13 _),
                        Lib.hid (HS3.whole (HM2.out.whole (HB15.out.alloc _) (fun hx => HPN.out.2.1 (by simpa using hx))) (by simp; omega)),
                        Lib.hid (HS3.own (HM2.out.own (HR15.out.alloc _) (fun k hk hx => HNE.out k k (by simpa using hx) hk rfl)) (fun k hk hf => by
                          obtain rfl : k = p13 := by simpa using hf
                          exact HPN.out.2.2 hk)),
                        Lib.hid (fun k k2 hk hk2 => by
                          rcases HBK.out with h | h
                          · exact HNE.out k k2 (by rw [← h]; exact hk) hk2
                          · rw [h] at hk
                            have h1 := (HR15.out.lt k2 hk2).2
                            have h2 : (wr.alloc (.cells #[.int .i64 (-6)] 3)).heap.size = k := by simpa using hk
                            have h3 := ha.size
                            omega),
                        Lib.hid (((HO.out.below ha).mod HM2.out (fun x hx => by have := HOB _ hx; omega)).mod HS3 (fun x hx => by simp at hx; omega))⟩
                    case measure => simp [intOf]; omega
                · obtain rfl : j = 9 := by omega
                  go_upto_region 31 with (fail)
                  obtain ⟨N3, hN3⟩ : ∃ y, y = wr.heap.size := ⟨_, rfl⟩
                  have HBU := Lib.hid (show N3 ≤ wr.heap.size by omega)
                  have HM12 := Lib.hid (show N2 ≤ N3 by have := HB15.out.lt; have := HN15.out.1; omega)
                  clear hN3
                  go_cut [18, 19] from 119 to 125 (fun vv p wx => vv = .int .i64 V ∧ ∃ b A c, p = .pointer (some ⟨b, 0, none⟩) ∧ Hid (MsgBlk wx b an (.slice A an.stamp.length c)) ∧ Hid (wx.ownsRow N3 3 1 (.slice A an.stamp.length c) an.stamp.length (i64s an.stamp)) ∧ (∃ s, Hid (RepAt wx g lo1 up1 s) ∧ Hid (Ans s m V an)) ∧ (∃ s, Hid (RepAt wx (g + 1) lo2 up2 s) ∧ Hid (Ans s m V an)) ∧ Hid (Ow w wx m a A0 A1 c0 c1) ∧ Hid (N3 ≤ b ∧ b < wx.heap.size ∧ ∀ k, (Value.slice A an.stamp.length c).ownBlock = some k → k ≠ b) ∧ Hid (MsgBlk wx p15 an (.slice A15 an.stamp.length c15)) ∧ Hid (wx.ownsRow N2 3 1 (.slice A15 an.stamp.length c15) an.stamp.length (i64s an.stamp)))
                  case first =>
                    as_aux_lemma =>
                      obtain ⟨wi, hwi⟩ : ∃ y, y = wr := ⟨_, rfl⟩
                      subst hwi
                      have HL := Lib.hid (blk_range HO.out.bm)
                      go_wp2_with (first
                        | (refine wpList_load_mid rfl 32 (.tmp 2) rfl w.heap.size 0 rfl (slotC m A0 c0) _ HL.out Try.underlying32 rfl (by kernel_rfl) ?_)
                        | (go_at_call 17
                           refine (ownM HO.out HM.out).mono ?_
                           rintro e w3 ⟨A', c', rfl, hf, _, hb⟩
                           have HFm := hf
                           have HBw := hb
                           clear hf hb HL)
                        | (go_at_call 13
                           refine (tell_any _ _ m (HRA.out.below HBw.out) HQA.out HFm.out).mono ?_
                           rintro e w4 ⟨A4, c4, rfl, hro, ⟨s4, hr4, hq4⟩, hmd⟩
                           have HMD := Lib.hid (show Mod [g] wi w4 from (Mod.of_below HBw.out [g]).trans hmd.out (by simp))
                           have HR4 := hr4
                           have HQ4 := hq4
                           have HRO4 := Lib.hid (own_lows hro.out (show N3 ≤ w3.heap.size by have := HBw.out.size; have := HBU.out; omega))
                           have HLT4 := Lib.hid (show ∀ k, (Value.slice A4 an.stamp.length c4).ownBlock = some k → k < w4.heap.size from fun k hk => (hro.out.lt k hk).2)
                           clear hro hr4 hq4 hmd HFm HBw
                           unfold cellsM))
                      go_meet
                      have HMA := HMD.out.alloc (.cells (cellsM an (.slice A4 an.stamp.length c4)) 32)
                      exact ⟨rfl, _, A4, c4, rfl, Lib.hid (Whole.new w4 _ _), Lib.hid (HRO4.out.alloc _), ⟨s4, Lib.hid (HR4.out.below ((Below.refl _ w4).alloc (Nat.le_refl _) _)), HQ4⟩, ⟨_, Lib.hid (HRB.out.mod HMA (by simp) (fun x hx => by have := HG12.out; simp at hx; omega)), HQB⟩, Lib.hid (HO.out.mod HMA (fun x hx => by have := HG.out; simp at hx; omega)), Lib.hid ⟨by have := HMD.out.size; have := HBU.out; omega, by simp, fun k hk e => by have := HLT4.out k hk; omega⟩, Lib.hid ((HMD.out.whole HB15.out (by have := HN15.out.1; have := HGN.out; have := HN12.out; have := HM12.out; simp; omega)).alloc _), Lib.hid ((HMD.out.own HR15.out (fun k hk hf => by have := (HR15.out.lt k hk).1; have := HGN.out; have := HN12.out; have := HM12.out; simp at hf; omega)).alloc _)⟩
                  case rest =>
                  clear HRA HRB HO HB15 HR15 HB13 HRO HNE
                  obtain ⟨rfl, p19, A19, c19, rfl, HB19, HR19, ⟨s1, HRA, HQA⟩, ⟨s2, HRB, HQB⟩, HO, HN19, HB15, HR15⟩ := hcut
                  go_upto_region 32 with (fail)
                  obtain ⟨N4, hN4⟩ : ∃ y, y = wc.heap.size := ⟨_, rfl⟩
                  have HBV := Lib.hid (show N4 ≤ wc.heap.size by omega)
                  clear hN4
                  go_cut [20, 21] from 126 to 132 (fun vv p wx => vv = .int .i64 V ∧ ∃ b A c, p = .pointer (some ⟨b, 0, none⟩) ∧ Hid (MsgBlk wx b an (.slice A an.stamp.length c)) ∧ Hid (wx.ownsRow N4 3 1 (.slice A an.stamp.length c) an.stamp.length (i64s an.stamp)) ∧ (∃ s, Hid (RepAt wx (g + 1) lo2 up2 s) ∧ Hid (Ans s m V an)) ∧ (∃ s, Hid (RepAt wx g lo1 up1 s) ∧ Hid (Ans s m V an)) ∧ Hid (Ow w wx m a A0 A1 c0 c1) ∧ Hid (N4 ≤ b ∧ b < wx.heap.size ∧ ∀ k, (Value.slice A an.stamp.length c).ownBlock = some k → k ≠ b) ∧ Hid (MsgBlk wx p15 an (.slice A15 an.stamp.length c15)) ∧ Hid (wx.ownsRow N2 3 1 (.slice A15 an.stamp.length c15) an.stamp.length (i64s an.stamp)) ∧ Hid (MsgBlk wx p19 an (.slice A19 an.stamp.length c19)) ∧ Hid (wx.ownsRow N3 3 1 (.slice A19 an.stamp.length c19) an.stamp.length (i64s an.stamp)))
                  case first =>
                    as_aux_lemma =>
                      obtain ⟨wi, hwi⟩ : ∃ y, y = wc := ⟨_, rfl⟩
                      subst hwi
                      have HL := Lib.hid (blk_range HO.out.bm)
                      go_wp2_with (first
                        | (refine wpList_load_mid rfl 32 (.tmp 2) rfl w.heap.size 0 rfl (slotC m A0 c0) _ HL.out Try.underlying32 rfl (by kernel_rfl) ?_)
                        | (go_at_call 17
                           refine (ownM HO.out HM.out).mono ?_
                           rintro e w3 ⟨A', c', rfl, hf, _, hb⟩
                           have HFm := hf
                           have HBw := hb
                           clear hf hb HL)
                        | (go_at_call 13
                           refine (tell_any _ _ m (HRB.out.below HBw.out) HQB.out HFm.out).mono ?_
                           rintro e w4 ⟨A4, c4, rfl, hro, ⟨s4, hr4, hq4⟩, hmd⟩
                           have HMD := Lib.hid (show Mod [(g + 1)] wi w4 from (Mod.of_below HBw.out [(g + 1)]).trans hmd.out (by simp))
                           have HR4 := hr4
                           have HQ4 := hq4
                           have HRO4 := Lib.hid (own_lows hro.out (show N4 ≤ w3.heap.size by have := HBw.out.size; have := HBV.out; omega))
                           have HLT4 := Lib.hid (show ∀ k, (Value.slice A4 an.stamp.length c4).ownBlock = some k → k < w4.heap.size from fun k hk => (hro.out.lt k hk).2)
                           clear hro hr4 hq4 hmd HFm HBw
                           unfold cellsM))
                      go_meet
                      have HMA := HMD.out.alloc (.cells (cellsM an (.slice A4 an.stamp.length c4)) 32)
                      exact ⟨rfl, _, A4, c4, rfl, Lib.hid (Whole.new w4 _ _), Lib.hid (HRO4.out.alloc _), ⟨s4, Lib.hid (HR4.out.below ((Below.refl _ w4).alloc (Nat.le_refl _) _)), HQ4⟩, ⟨_, Lib.hid (HRA.out.mod HMA (by simp) (fun x hx => by have := HG12.out; simp at hx; omega)), HQA⟩, Lib.hid (HO.out.mod HMA (fun x hx => by have := HG.out; simp at hx; omega)), Lib.hid ⟨by have := HMD.out.size; have := HBV.out; omega, by simp, fun k hk e => by have := HLT4.out k hk; omega⟩, Lib.hid ((HMD.out.whole HB15.out (by have := HN15.out.1; have := HGN.out; have := HN12.out; have := HM12.out; simp; omega)).alloc _), Lib.hid ((HMD.out.own HR15.out (fun k hk hf => by have := (HR15.out.lt k hk).1; have := HGN.out; have := HN12.out; have := HM12.out; simp at hf; omega)).alloc _), Lib.hid ((HMD.out.whole HB19.out (by have := HN19.out.1; have := HGN.out; have := HN12.out; have := HM12.out; simp; omega)).alloc _), Lib.hid ((HMD.out.own HR19.out (fun k hk hf => by have := (HR19.out.lt k hk).1; have := HGN.out; have := HN12.out; have := HM12.out; simp at hf; omega)).alloc _)⟩
                  case rest =>
                  clear HRA HRB HO HB15 HR15 HB19 HR19
                  obtain ⟨rfl, p21, A21, c21, rfl, HB21, HR21, ⟨s2, HRB, HQB⟩, ⟨s1, HRA, HQA⟩, HO, HN21, HB15, HR15, HB19, HR19⟩ := hcut
                  go_upto_region 33 with (fail)
                  have HFW := Lib.hid HO.out.bel
                  cases K with
                  | false =>
                    go_wp2_with fail
                    go_ret
                    exact ⟨rfl, HFW.out⟩
                  | true =>
                    as_aux_lemma =>
                      obtain ⟨hV, ha⟩ := HKV.out.1 rfl
                      rw [ha] at HB15 HB19 HB21 HR15 HR19 HR21
                      clear hV ha
                      have HI15 := Lib.hid (IntsAt.own HR15.out)
                      have HI19 := Lib.hid (IntsAt.own HR19.out)
                      have HI21 := Lib.hid (IntsAt.own HR21.out)
                      have HIB := Lib.hid (HA.out.ints.below HO.out.bel)
                      have HFA15 := Lib.hid (own_fit HA.out.wide HR15.out)
                      have HFA19 := Lib.hid (own_fit HA.out.wide HR19.out)
                      have HFA21 := Lib.hid (own_fit HA.out.wide HR21.out)
                      have HAC := Lib.hid (show a.stamp.length ≤ c1 ∧ c1 ≤ 9223372036854775807 from ⟨HA.out.le, by have := HA.out.cap; omega⟩)
                      have HBW := Lib.hid (Below.refl wc.heap.size wc)
                      obtain ⟨q0, q1, q2, q3, q4, q5, q6, q7, q8, q9, q10, q11, q12, q13, q14, q15⟩ := msg_cells (blk_below HB15.out HBW.out)
                      obtain ⟨t0, t1, t2, t3, t4, t5, t6, t7, t8, t9, t10, t11, t12, t13, t14, t15⟩ := msg_cells (blk_below HO.out.ba HBW.out)
                      go_wp2_with fail
                      refine (r6_Same A15 A1 c15 c1 a a _ (HI15.out.below HBW.out) (HIB.out.below HBW.out) HFA15.out.le HAC.out.1 HFA15.out.cap HAC.out.2).mono ?_
                      rintro e w5 ⟨rfl, hb⟩
                      replace HBW := Lib.hid (below_on HBW.out hb)
                      clear hb q0 q1 q2 q3 q4 q5 q6 q7 q8 q9 q10 q11 q12 q13 q14 q15 t0 t1 t2 t3 t4 t5 t6 t7 t8 t9 t10 t11 t12 t13 t14 t15
                      rw [show decide (a = a) = true from decide_eq_true rfl]
                      as_aux_lemma =>
                        obtain ⟨q0, q1, q2, q3, q4, q5, q6, q7, q8, q9, q10, q11, q12, q13, q14, q15⟩ := msg_cells (blk_below HB19.out HBW.out)
                        obtain ⟨t0, t1, t2, t3, t4, t5, t6, t7, t8, t9, t10, t11, t12, t13, t14, t15⟩ := msg_cells (blk_below HO.out.ba HBW.out)
                        go_wp2_with fail
                        refine (r6_Same A19 A1 c19 c1 a a _ (HI19.out.below HBW.out) (HIB.out.below HBW.out) HFA19.out.le HAC.out.1 HFA19.out.cap HAC.out.2).mono ?_
                        rintro e w6 ⟨rfl, hb⟩
                        replace HBW := Lib.hid (below_on HBW.out hb)
                        clear hb q0 q1 q2 q3 q4 q5 q6 q7 q8 q9 q10 q11 q12 q13 q14 q15 t0 t1 t2 t3 t4 t5 t6 t7 t8 t9 t10 t11 t12 t13 t14 t15
                        rw [show decide (a = a) = true from decide_eq_true rfl]
                        as_aux_lemma =>
                          obtain ⟨q0, q1, q2, q3, q4, q5, q6, q7, q8, q9, q10, q11, q12, q13, q14, q15⟩ := msg_cells (blk_below HB21.out HBW.out)
                          obtain ⟨t0, t1, t2, t3, t4, t5, t6, t7, t8, t9, t10, t11, t12, t13, t14, t15⟩ := msg_cells (blk_below HO.out.ba HBW.out)
                          go_wp2_with fail
                          refine (r6_Same A21 A1 c21 c1 a a _ (HI21.out.below HBW.out) (HIB.out.below HBW.out) HFA21.out.le HAC.out.1 HFA21.out.cap HAC.out.2).mono ?_
                          rintro e w7 ⟨rfl, hb⟩
                          replace HBW := Lib.hid (below_on HBW.out hb)
                          clear hb q0 q1 q2 q3 q4 q5 q6 q7 q8 q9 q10 q11 q12 q13 q14 q15 t0 t1 t2 t3 t4 t5 t6 t7 t8 t9 t10 t11 t12 t13 t14 t15
                          rw [show decide (a = a) = true from decide_eq_true rfl]
                          as_aux_lemma =>
                            go_wp2_with fail
                            go_ret
                            exact ⟨rfl, below_on HFW.out HBW.out⟩

end Go.Proofs.Ytbjemihcbbiiaaa.lawRepliesOwn
