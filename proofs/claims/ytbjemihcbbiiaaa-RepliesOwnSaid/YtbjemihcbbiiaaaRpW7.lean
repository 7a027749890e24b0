/- Keep: a request's answer. -/
import Derived.Test.YtbjemihcbbiiaaaRpW5d
import Derived.Test.YtbjemihcbbiiaaaRpC
namespace Go.Proofs.Ytbjemihcbbiiaaa
open Go.RowKit
open RP (Kp St)
open WM (Msg)
set_option linter.unusedVariables false
set_option linter.unusedSimpArgs false
set_option maxRecDepth 100000
section
variable {w : World} {g lo up : Nat} {s : St}
theorem Seen_any (A : Option Addr) (c : Nat) (m : Msg) (h : RepAt w g lo up s) (hs : RP.Oks s) (hf : Fit w A c m) :
    Calls Try.prog 13 #[.pointer (some ⟨g, 0, none⟩), .agg (cellsM m (.slice A m.stamp.length c))] w (SeenPost w g lo up s m) := by
  cases ha : RP.askOk m with
  | true => exact Seen_ok A c m h hs hf ha
  | false =>
    have hn : ∀ e w', SeenNone w e w' → SeenPost w g lo up s m e w' := by
      rintro e w' ⟨rfl, hb⟩
      have hv : RP.verdict s m = 1 := by unfold RP.verdict; rw [ha]; rfl
      have he : RP.answer s m = WM.zero := by unfold RP.answer; rw [hv]; rfl
      exact ⟨none, 0, by rw [hv, he]; rfl, Lib.hid (by rw [he]; exact fit_zero _), Lib.hid (by rw [he]; exact World.ownsRow_nil _ _ _ _), Lib.hid (by unfold RP.seenSt; rw [ha]; exact h.below hb), Lib.hid (Mod.of_below hb _)⟩
    by_cases hk : m.kind = 1
    · have hv : WM.valid m = false := by unfold RP.askOk at ha; simpa [hk] using ha
      exact (Seen_inv g A c m w hf hk hv).mono hn
    · exact (Seen_kind g m _ w hk).mono hn
theorem cell_mod {F : List Nat} {w w' : World} {p : Addr} {v : Value} (hm : Mod F w w') (h : w.cell? p = some v) (hn : p.block ∉ F) : w'.cell? p = some v := (hm.cell (World.block_lt_of_cell? w _ h) hn).trans h
def KeepPost (w : World) (g lo : Nat) (s : St) (m a : Msg) (e : Ending) (w' : World) : Prop :=
  e = .returned (.bool (RP.kept s m a)) ∧ Hid (RepAt w' g lo w'.heap.size (RP.keepSt s m a)) ∧ Hid (Mod [g] w w')
set_option maxHeartbeats 4000000 in
theorem Keep_any (A B : Option Addr) (c d : Nat) (m a : Msg) (h : RepAt w g lo up s) (hs : RP.Oks s) (hf : Fit w A c m) (hfa : Fit w B d a) (hg : ∀ ad, B = some ad → ad.block ≠ g) :
    Calls Try.prog 10 #[.pointer (some ⟨g, 0, none⟩), .agg (cellsM m (.slice A m.stamp.length c)), .agg (cellsM a (.slice B a.stamp.length d))] w (KeepPost w g lo s m a) := by
  have HX := Lib.hid (((Below.refl w.heap.size w).alloc (Nat.le_refl _) (.cells (cellsM m (.slice A m.stamp.length c)) 32)).alloc (by simp) (.cells (cellsM a (.slice B a.stamp.length d)) 32))
  have HF := Lib.hid (hf.below HX.out)
  have HFa := Lib.hid (hfa.below HX.out)
  have HR := Lib.hid (h.below HX.out)
  have HK := Lib.hid ((Whole.new w 32 (cellsM m (.slice A m.stamp.length c))).alloc (.cells (cellsM a (.slice B a.stamp.length d)) 32))
  have HZ := Lib.hid (show MsgBlk ((w.alloc (.cells (cellsM m (.slice A m.stamp.length c)) 32)).alloc (.cells (cellsM a (.slice B a.stamp.length d)) 32)) (w.heap.size + 1) a (.slice B a.stamp.length d) from by have h := Whole.new (w.alloc (.cells (cellsM m (.slice A m.stamp.length c)) 32)) 32 (cellsM a (.slice B a.stamp.length d)); have e : (w.alloc (.cells (cellsM m (.slice A m.stamp.length c)) 32)).heap.size = w.heap.size + 1 := (by simp); rw [e] at h; exact h)
  have HS := Lib.hid (show ((w.alloc (.cells (cellsM m (.slice A m.stamp.length c)) 32)).alloc (.cells (cellsM a (.slice B a.stamp.length d)) 32)).heap.size = w.heap.size + 2 by simp)
  have HO := Lib.hid hs
  have HG := Lib.hid (show g < w.heap.size from h.ltS)
  have HT := Lib.hid (show up ≤ w.heap.size from h.top)
  have HBG := Lib.hid hg
  clear h hs hf hfa hg
  go_enter Try.func10, Try.ntmps10
  go_upto_region 1 with (fail)
  generalize (w.alloc (.cells (cellsM m (.slice A m.stamp.length c)) 32)).alloc (.cells (cellsM a (.slice B a.stamp.length d)) 32) = w0 at HX HF HFa HR HK HZ HS ⊢
  go_cut [7] from 8 to 14 (fun v wx => v = .int .i64 (RP.verdict s m) ∧ Hid (RepAt wx g lo up (RP.seenSt s m)) ∧ Hid (MsgBlk wx w.heap.size m (.slice A m.stamp.length c)) ∧ Hid (MsgBlk wx (w.heap.size + 1) a (.slice B a.stamp.length d)) ∧ Hid (Fit wx B d a) ∧ Hid (Mod [g] w wx) ∧ Hid (w.heap.size + 2 ≤ wx.heap.size))
  case first =>
    as_aux_lemma =>
      obtain ⟨c0, c1, c2, c3, c4, c5, c6, c7, c8, c9, c10, c11, c12, c13, c14, c15⟩ := msg_cells HK.out
      go_wp2_with (
        go_at_call 13
        refine (Seen_any A c m HR.out HO.out HF.out).mono ?_
        rintro e w1 ⟨A1, d1, rfl, HF1, HO1, HR1, HM1⟩
        replace HX := Lib.hid (show Mod [g] w w1 from (Mod.of_below HX.out [g]).trans HM1.out (by simp))
        replace HK := Lib.hid (HM1.out.whole HK.out (by have := HG.out; simp; omega))
        replace HZ := Lib.hid (HM1.out.whole HZ.out (by have := HG.out; simp; omega))
        replace HFa := Lib.hid (HFa.out.mod HM1.out (fun ad e => by have := HBG.out ad e; simp; exact this))
        replace HS := Lib.hid (show w.heap.size + 2 ≤ w1.heap.size by have := HS.out; have := HM1.out.size; omega)
        clear c0 c1 c2 c3 c4 c5 c6 c7 c8 c9 c10 c11 c12 c13 c14 c15 HO1 HF1
        unfold cellsM)
      go_meet
      exact ⟨rfl, Lib.hid (HR1.out.below ((Below.refl _ w1).alloc (Nat.le_refl _) _)), Lib.hid (blk_below HK.out ((Below.refl _ w1).alloc (Nat.le_refl _) _)), Lib.hid (blk_below HZ.out ((Below.refl _ w1).alloc (Nat.le_refl _) _)), Lib.hid (HFa.out.below ((Below.refl _ w1).alloc (Nat.le_refl _) _)), Lib.hid (HX.out.alloc _), Lib.hid (by have := HS.out; rw [World.size_alloc]; omega)⟩
  case rest =>
  clear HX HR HK HZ HS HFa HF
  obtain ⟨rfl, HR, HK, HZ, HFa, HX, HS⟩ := hcut
  have HKe := Lib.hid (show RP.kept s m a = (decide (RP.verdict s m = 3) && RP.fits a m) from rfl)
  have HKs := Lib.hid (show RP.keepSt s m a = (if RP.kept s m a then (RP.seenSt s m).set m.frm.toNat (RP.stored (RP.now s m) m.seq a) else RP.seenSt s m) from rfl)
  have HE := Lib.hid (fun (ww : World) (hb : Below w.heap.size w w) => hb)
  clear HE
  by_cases hv : RP.verdict s m = 3
  · have HV := Lib.hid hv
    have hd : (RP.verdict s m != 3) = false := by rw [hv]; rfl
    rw [hv]
    clear hd hv
    go_upto_region 2 with (fail)
    go_cut [22] from 15 to 21 (fun b wx => b = .bool (!RP.fits a m) ∧ Hid (RepAt wx g lo up (RP.seenSt s m)) ∧ Hid (MsgBlk wx w.heap.size m (.slice A m.stamp.length c)) ∧ Hid (MsgBlk wx (w.heap.size + 1) a (.slice B a.stamp.length d)) ∧ Hid (Fit wx B d a) ∧ Hid (Mod [g] w wx) ∧ Hid (w.heap.size + 2 ≤ wx.heap.size))
    case first =>
      as_aux_lemma =>
        obtain ⟨c0, c1, c2, c3, c4, c5, c6, c7, c8, c9, c10, c11, c12, c13, c14, c15⟩ := msg_cells HK.out
        obtain ⟨d0, d1, d2, d3, d4, d5, d6, d7, d8, d9, d10, d11, d12, d13, d14, d15⟩ := msg_cells HZ.out
        go_wp2_with (
          go_at_call 22
          refine (answers_any B A d c a m _ HFa.out).mono ?_
          rintro e w2 ⟨rfl, hb⟩
          have HR2 := Lib.hid (HR.out.below hb)
          have HK2 := Lib.hid (blk_below HK.out hb)
          have HZ2 := Lib.hid (blk_below HZ.out hb)
          have HF2 := Lib.hid (HFa.out.below hb)
          have HX2 := Lib.hid (show Mod [g] w w2 from HX.out.trans (Mod.of_below hb []) (by simp))
          have HS2 := Lib.hid (show w.heap.size + 2 ≤ w2.heap.size by have := HS.out; have := hb.size; omega)
          clear hb c0 c1 c2 c3 c4 c5 c6 c7 c8 c9 c10 c11 c12 c13 c14 c15 d0 d1 d2 d3 d4 d5 d6 d7 d8 d9 d10 d11 d12 d13 d14 d15)
        go_meet
        exact ⟨rfl, HR2, HK2, HZ2, HF2, HX2, HS2⟩
    case rest =>
    clear HX HR HK HZ HS HFa
    obtain ⟨rfl, HR, HK, HZ, HFa, HX, HS⟩ := hcut
    cases hf : RP.fits a m with
    | false =>
      have HKf := Lib.hid (show RP.kept s m a = false by rw [HKe.out, hf, Bool.and_false])
      clear hf
      go_wp2_with fail
      go_ret
      exact ⟨by rw [HKf.out]; rfl, Lib.hid (by rw [HKs.out, HKf.out]; exact HR.out.raise HR.out.top (Nat.le_refl _)), HX⟩
    | true =>
      have HKf := Lib.hid (show RP.kept s m a = true by rw [HKe.out, hf, HV.out]; rfl)
      have HFI := Lib.hid (RP.fitsB hf)
      clear hf
      go_upto_region 4 with (fail)
      have hn1 : RP.verdict s m ≠ 1 := by rw [HV.out]; decide
      have HA := Lib.hid (RP.verdict_ask hn1)
      have HM := Lib.hid (RP.askB HA.out)
      have HHs := Lib.hid (RP.verdict_has hn1)
      clear hn1
      have HOn := Lib.hid (show RP.Ok (RP.now s m) from (RP.cl_ok HO.out _).follow HM.out)
      have HI := Lib.hid (RP.cl_at HO.out HM.out.f)
      have HIn := Lib.hid (show (RP.seenSt s m)[m.frm.toNat]? = some (RP.now s m) by unfold RP.seenSt; rw [HA.out, if_pos rfl]; exact List.getElem?_set_self (List.getElem?_eq_some_iff.1 HI.out).1)
      have d1 := HM.out.f.1
      have d2 : m.frm < 8 := by have := HM.out.f; omega
      have HSt := Lib.hid (valid_stamp HFI.out.v HFI.out.k)
      go_wp2_with fail
      obtain ⟨x0, x1, x2, x3, x4, x5, x6, x7, x8, x9, x10, x11, x12, x13, x14, x15⟩ := msg_cells HK.out
      have HSS : wc.drew.cell? ⟨w.heap.size, 1, none⟩ = some (.int .i64 m.frm) ∧ wc.drew.cell? ⟨w.heap.size, 4, none⟩ = some (.int .i64 m.seq) ∧ (wc.drew.cell? ⟨w.heap.size + 1, 0, none⟩ = some (.int .i64 a.kind) ∧ wc.drew.cell? ⟨w.heap.size + 1, 1, none⟩ = some (.int .i64 a.frm) ∧ wc.drew.cell? ⟨w.heap.size + 1, 2, none⟩ = some (.int .i64 a.dst) ∧ wc.drew.cell? ⟨w.heap.size + 1, 3, none⟩ = some (.int .i64 a.boot) ∧ wc.drew.cell? ⟨w.heap.size + 1, 4, none⟩ = some (.int .i64 a.seq) ∧ wc.drew.cell? ⟨w.heap.size + 1, 5, none⟩ = some (.int .i64 a.low) ∧ wc.drew.cell? ⟨w.heap.size + 1, 6, none⟩ = some (.int .i64 a.verb) ∧ wc.drew.cell? ⟨w.heap.size + 1, 7, none⟩ = some (.string a.path) ∧ wc.drew.cell? ⟨w.heap.size + 1, 8, none⟩ = some (.int .i64 a.mode) ∧ wc.drew.cell? ⟨w.heap.size + 1, 9, none⟩ = some (.int .i64 a.term) ∧ wc.drew.cell? ⟨w.heap.size + 1, 10, none⟩ = some (.int .i64 a.id) ∧ wc.drew.cell? ⟨w.heap.size + 1, 11, none⟩ = some (.bool a.fresh) ∧ wc.drew.cell? ⟨w.heap.size + 1, 12, none⟩ = some (.int .i64 a.code) ∧ wc.drew.cell? ⟨w.heap.size + 1, 13, none⟩ = some (.slice B a.stamp.length d) ∧ wc.drew.cell? ⟨w.heap.size + 1, 14, none⟩ = some (.int .i64 a.origin) ∧ wc.drew.cell? ⟨w.heap.size + 1, 15, none⟩ = some (.int .i64 a.number)) := ⟨x1, x4, msg_cells HZ.out⟩
      clear x0 x1 x2 x3 x4 x5 x6 x7 x8 x9 x10 x11 x12 x13 x14 x15
      go_region_held3 (fun w' : World => w'.cell? ⟨w.heap.size, 1, none⟩ = some (.int .i64 m.frm) ∧ w'.cell? ⟨w.heap.size, 4, none⟩ = some (.int .i64 m.seq) ∧ (w'.cell? ⟨w.heap.size + 1, 0, none⟩ = some (.int .i64 a.kind) ∧ w'.cell? ⟨w.heap.size + 1, 1, none⟩ = some (.int .i64 a.frm) ∧ w'.cell? ⟨w.heap.size + 1, 2, none⟩ = some (.int .i64 a.dst) ∧ w'.cell? ⟨w.heap.size + 1, 3, none⟩ = some (.int .i64 a.boot) ∧ w'.cell? ⟨w.heap.size + 1, 4, none⟩ = some (.int .i64 a.seq) ∧ w'.cell? ⟨w.heap.size + 1, 5, none⟩ = some (.int .i64 a.low) ∧ w'.cell? ⟨w.heap.size + 1, 6, none⟩ = some (.int .i64 a.verb) ∧ w'.cell? ⟨w.heap.size + 1, 7, none⟩ = some (.string a.path) ∧ w'.cell? ⟨w.heap.size + 1, 8, none⟩ = some (.int .i64 a.mode) ∧ w'.cell? ⟨w.heap.size + 1, 9, none⟩ = some (.int .i64 a.term) ∧ w'.cell? ⟨w.heap.size + 1, 10, none⟩ = some (.int .i64 a.id) ∧ w'.cell? ⟨w.heap.size + 1, 11, none⟩ = some (.bool a.fresh) ∧ w'.cell? ⟨w.heap.size + 1, 12, none⟩ = some (.int .i64 a.code) ∧ w'.cell? ⟨w.heap.size + 1, 13, none⟩ = some (.slice B a.stamp.length d) ∧ w'.cell? ⟨w.heap.size + 1, 14, none⟩ = some (.int .i64 a.origin) ∧ w'.cell? ⟨w.heap.size + 1, 15, none⟩ = some (.int .i64 a.number)))
        (first
          | with_reducible exact HSS
          | (have hh := HS5.out; obtain ⟨s0, s1, s2, s3, s4, s5, s6, s7, s8, s9, s10, s11, s12, s13, s14, s15, s16, s17⟩ := hh; with_reducible exact ⟨cell_mod HST.out.2 s0 (by have := HG.out; simp; omega), cell_mod HST.out.2 s1 (by have := HG.out; simp; omega), cell_mod HST.out.2 s2 (by have := HG.out; simp; omega), cell_mod HST.out.2 s3 (by have := HG.out; simp; omega), cell_mod HST.out.2 s4 (by have := HG.out; simp; omega), cell_mod HST.out.2 s5 (by have := HG.out; simp; omega), cell_mod HST.out.2 s6 (by have := HG.out; simp; omega), cell_mod HST.out.2 s7 (by have := HG.out; simp; omega), cell_mod HST.out.2 s8 (by have := HG.out; simp; omega), cell_mod HST.out.2 s9 (by have := HG.out; simp; omega), cell_mod HST.out.2 s10 (by have := HG.out; simp; omega), cell_mod HST.out.2 s11 (by have := HG.out; simp; omega), cell_mod HST.out.2 s12 (by have := HG.out; simp; omega), cell_mod HST.out.2 s13 (by have := HG.out; simp; omega), cell_mod HST.out.2 s14 (by have := HG.out; simp; omega), cell_mod HST.out.2 s15 (by have := HG.out; simp; omega), cell_mod HST.out.2 s16 (by have := HG.out; simp; omega), cell_mod HST.out.2 s17 (by have := HG.out; simp; omega)⟩)
          | (go_keep; done))
        (first
          | (go_at_call 24; refine (place_any g (m.frm.toNat * 130) m.seq _ (by have := HM.out.s; omega)).mono ?_; rintro e wp ⟨rfl, ewp⟩; subst ewp)
          | (go_at_call 23; refine (copied_any B d a _ (HFa.out.below (by first | exact Below.drew (Below.refl _ _) | exact Below.refl _ _)) HSt.out).mono ?_; rintro e w5 ⟨A', c', rfl, HF5, HO5, HB5⟩; have hB5 : Below wc.heap.size wc w5 := below_on (by first | exact Below.drew (Below.refl _ _) | exact Below.refl _ _) HB5.out; have HR5 := Lib.hid (HR.out.below hB5); have HX5 := Lib.hid (show Mod [g] w w5 from HX.out.trans (Mod.of_below hB5 []) (by simp)); have HK5 := Lib.hid (blk_below HK.out hB5); have HZ5 := Lib.hid (blk_below HZ.out hB5); have hRr := HR5.out.raise (Nat.le_trans HR.out.top hB5.size) (Nat.le_refl _); have HST := Lib.hid (show RepAt ((((((((((((((((w5.setCell ⟨g, m.frm.toNat * 130 + 2 + RP.spot m.seq * 16, none⟩ (.int .i64 a.kind)).setCell ⟨g, m.frm.toNat * 130 + 2 + RP.spot m.seq * 16 + 1, none⟩ (.int .i64 a.frm)).setCell ⟨g, m.frm.toNat * 130 + 2 + RP.spot m.seq * 16 + 2, none⟩ (.int .i64 a.dst)).setCell ⟨g, m.frm.toNat * 130 + 2 + RP.spot m.seq * 16 + 3, none⟩ (.int .i64 a.boot)).setCell ⟨g, m.frm.toNat * 130 + 2 + RP.spot m.seq * 16 + 4, none⟩ (.int .i64 a.seq)).setCell ⟨g, m.frm.toNat * 130 + 2 + RP.spot m.seq * 16 + 5, none⟩ (.int .i64 a.low)).setCell ⟨g, m.frm.toNat * 130 + 2 + RP.spot m.seq * 16 + 6, none⟩ (.int .i64 a.verb)).setCell ⟨g, m.frm.toNat * 130 + 2 + RP.spot m.seq * 16 + 7, none⟩ (.string a.path)).setCell ⟨g, m.frm.toNat * 130 + 2 + RP.spot m.seq * 16 + 8, none⟩ (.int .i64 a.mode)).setCell ⟨g, m.frm.toNat * 130 + 2 + RP.spot m.seq * 16 + 9, none⟩ (.int .i64 a.term)).setCell ⟨g, m.frm.toNat * 130 + 2 + RP.spot m.seq * 16 + 10, none⟩ (.int .i64 a.id)).setCell ⟨g, m.frm.toNat * 130 + 2 + RP.spot m.seq * 16 + 11, none⟩ (.bool a.fresh)).setCell ⟨g, m.frm.toNat * 130 + 2 + RP.spot m.seq * 16 + 12, none⟩ (.int .i64 a.code)).setCell ⟨g, m.frm.toNat * 130 + 2 + RP.spot m.seq * 16 + 13, none⟩ (.slice A' a.stamp.length c')).setCell ⟨g, m.frm.toNat * 130 + 2 + RP.spot m.seq * 16 + 14, none⟩ (.int .i64 a.origin)).setCell ⟨g, m.frm.toNat * 130 + 2 + RP.spot m.seq * 16 + 15, none⟩ (.int .i64 a.number)) g lo w5.heap.size ((RP.seenSt s m).set m.frm.toNat (RP.stored (RP.now s m) m.seq a)) ∧ Mod [g] w5 ((((((((((((((((w5.setCell ⟨g, m.frm.toNat * 130 + 2 + RP.spot m.seq * 16, none⟩ (.int .i64 a.kind)).setCell ⟨g, m.frm.toNat * 130 + 2 + RP.spot m.seq * 16 + 1, none⟩ (.int .i64 a.frm)).setCell ⟨g, m.frm.toNat * 130 + 2 + RP.spot m.seq * 16 + 2, none⟩ (.int .i64 a.dst)).setCell ⟨g, m.frm.toNat * 130 + 2 + RP.spot m.seq * 16 + 3, none⟩ (.int .i64 a.boot)).setCell ⟨g, m.frm.toNat * 130 + 2 + RP.spot m.seq * 16 + 4, none⟩ (.int .i64 a.seq)).setCell ⟨g, m.frm.toNat * 130 + 2 + RP.spot m.seq * 16 + 5, none⟩ (.int .i64 a.low)).setCell ⟨g, m.frm.toNat * 130 + 2 + RP.spot m.seq * 16 + 6, none⟩ (.int .i64 a.verb)).setCell ⟨g, m.frm.toNat * 130 + 2 + RP.spot m.seq * 16 + 7, none⟩ (.string a.path)).setCell ⟨g, m.frm.toNat * 130 + 2 + RP.spot m.seq * 16 + 8, none⟩ (.int .i64 a.mode)).setCell ⟨g, m.frm.toNat * 130 + 2 + RP.spot m.seq * 16 + 9, none⟩ (.int .i64 a.term)).setCell ⟨g, m.frm.toNat * 130 + 2 + RP.spot m.seq * 16 + 10, none⟩ (.int .i64 a.id)).setCell ⟨g, m.frm.toNat * 130 + 2 + RP.spot m.seq * 16 + 11, none⟩ (.bool a.fresh)).setCell ⟨g, m.frm.toNat * 130 + 2 + RP.spot m.seq * 16 + 12, none⟩ (.int .i64 a.code)).setCell ⟨g, m.frm.toNat * 130 + 2 + RP.spot m.seq * 16 + 13, none⟩ (.slice A' a.stamp.length c')).setCell ⟨g, m.frm.toNat * 130 + 2 + RP.spot m.seq * 16 + 14, none⟩ (.int .i64 a.origin)).setCell ⟨g, m.frm.toNat * 130 + 2 + RP.spot m.seq * 16 + 15, none⟩ (.int .i64 a.number)) from hRr.store (i := m.frm.toNat) (j := RP.spot m.seq) HIn.out (RP.spot_lt _) HF5.out (fun ad e => ⟨by have := own_fresh HO5.out ad e; have := HR.out.le; have := HR.out.top; have : wc.heap.size ≤ ad.block := own_fresh HO5.out ad e; omega, own_lt HO5.out ad e⟩) (own_intB HO5.out)); replace HSS : w5.cell? ⟨w.heap.size, 1, none⟩ = some (.int .i64 m.frm) ∧ w5.cell? ⟨w.heap.size, 4, none⟩ = some (.int .i64 m.seq) ∧ (w5.cell? ⟨w.heap.size + 1, 0, none⟩ = some (.int .i64 a.kind) ∧ w5.cell? ⟨w.heap.size + 1, 1, none⟩ = some (.int .i64 a.frm) ∧ w5.cell? ⟨w.heap.size + 1, 2, none⟩ = some (.int .i64 a.dst) ∧ w5.cell? ⟨w.heap.size + 1, 3, none⟩ = some (.int .i64 a.boot) ∧ w5.cell? ⟨w.heap.size + 1, 4, none⟩ = some (.int .i64 a.seq) ∧ w5.cell? ⟨w.heap.size + 1, 5, none⟩ = some (.int .i64 a.low) ∧ w5.cell? ⟨w.heap.size + 1, 6, none⟩ = some (.int .i64 a.verb) ∧ w5.cell? ⟨w.heap.size + 1, 7, none⟩ = some (.string a.path) ∧ w5.cell? ⟨w.heap.size + 1, 8, none⟩ = some (.int .i64 a.mode) ∧ w5.cell? ⟨w.heap.size + 1, 9, none⟩ = some (.int .i64 a.term) ∧ w5.cell? ⟨w.heap.size + 1, 10, none⟩ = some (.int .i64 a.id) ∧ w5.cell? ⟨w.heap.size + 1, 11, none⟩ = some (.bool a.fresh) ∧ w5.cell? ⟨w.heap.size + 1, 12, none⟩ = some (.int .i64 a.code) ∧ w5.cell? ⟨w.heap.size + 1, 13, none⟩ = some (.slice B a.stamp.length d) ∧ w5.cell? ⟨w.heap.size + 1, 14, none⟩ = some (.int .i64 a.origin) ∧ w5.cell? ⟨w.heap.size + 1, 15, none⟩ = some (.int .i64 a.number)) := ⟨HK5.out.cell 1, HK5.out.cell 4, msg_cells HZ5.out⟩; have HS5 := Lib.hid HSS; obtain ⟨A0, c0, hsl, _⟩ := (HR5.out.cl _ _ HIn.out).sl _ _ (RP.pick_at HOn.out m.seq); have k0 := hsl 0 _ rfl; have k1 := hsl 1 _ rfl; have k2 := hsl 2 _ rfl; have k3 := hsl 3 _ rfl; have k4 := hsl 4 _ rfl; have k5 := hsl 5 _ rfl; have k6 := hsl 6 _ rfl; have k7 := hsl 7 _ rfl; have k8 := hsl 8 _ rfl; have k9 := hsl 9 _ rfl; have k10 := hsl 10 _ rfl; have k11 := hsl 11 _ rfl; have k12 := hsl 12 _ rfl; have k13 := hsl 13 _ rfl; have k14 := hsl 14 _ rfl; have k15 := hsl 15 _ rfl;  simp only [Nat.add_zero] at k0; have g0 := HR5.out.fr (m.frm.toNat * 130 + 2 + RP.spot m.seq * 16); have g1 := HR5.out.fr (m.frm.toNat * 130 + 2 + RP.spot m.seq * 16 + 1); have g2 := HR5.out.fr (m.frm.toNat * 130 + 2 + RP.spot m.seq * 16 + 2); have g3 := HR5.out.fr (m.frm.toNat * 130 + 2 + RP.spot m.seq * 16 + 3); have g4 := HR5.out.fr (m.frm.toNat * 130 + 2 + RP.spot m.seq * 16 + 4); have g5 := HR5.out.fr (m.frm.toNat * 130 + 2 + RP.spot m.seq * 16 + 5); have g6 := HR5.out.fr (m.frm.toNat * 130 + 2 + RP.spot m.seq * 16 + 6); have g7 := HR5.out.fr (m.frm.toNat * 130 + 2 + RP.spot m.seq * 16 + 7); have g8 := HR5.out.fr (m.frm.toNat * 130 + 2 + RP.spot m.seq * 16 + 8); have g9 := HR5.out.fr (m.frm.toNat * 130 + 2 + RP.spot m.seq * 16 + 9); have g10 := HR5.out.fr (m.frm.toNat * 130 + 2 + RP.spot m.seq * 16 + 10); have g11 := HR5.out.fr (m.frm.toNat * 130 + 2 + RP.spot m.seq * 16 + 11); have g12 := HR5.out.fr (m.frm.toNat * 130 + 2 + RP.spot m.seq * 16 + 12); have g13 := HR5.out.fr (m.frm.toNat * 130 + 2 + RP.spot m.seq * 16 + 13); have g14 := HR5.out.fr (m.frm.toNat * 130 + 2 + RP.spot m.seq * 16 + 14); have g15 := HR5.out.fr (m.frm.toNat * 130 + 2 + RP.spot m.seq * 16 + 15);  clear hB5 hRr hsl; unfold cellsM))
      all_goals
        go_wp2_with fail
        go_ret
        have hsz := HST.out.2.size
        exact ⟨by rw [HKf.out]; rfl, Lib.hid (by rw [HKs.out, HKf.out]; exact HST.out.1.raise hsz (Nat.le_refl _)), Lib.hid (HX5.out.trans HST.out.2 (by simp))⟩
  · have HKf := Lib.hid (show RP.kept s m a = false by rw [HKe.out, decide_eq_false hv, Bool.false_and])
    have hd : (RP.verdict s m != 3) = true := by simp [hv]
    clear hv
    go_wp2_with fail
    go_ret
    exact ⟨by rw [HKf.out]; rfl, Lib.hid (by rw [HKs.out, HKf.out]; exact HR.out.raise HR.out.top (Nat.le_refl _)), HX⟩
end
end Go.Proofs.Ytbjemihcbbiiaaa
