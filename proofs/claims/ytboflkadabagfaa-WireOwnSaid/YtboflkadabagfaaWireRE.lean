/- Texts that belong together: RdBlk, WireR8. -/
import Derived.Test.YtboflkadabagfaaOctB
import Derived.Test.YtboflkadabagfaaWireRC
import Derived.Test.YtboflkadabagfaaWireA
import Derived.Test.YtboflkadabagfaaWireRD
import Derived.Test.YtboflkadabagfaaWireW8
namespace Go.Proofs.Ytboflkadabagfaa.Oct.Rb
open Go.RowKit
open Oct
set_option linter.unusedVariables false
set_option maxRecDepth 100000
theorem map_block {A : Option Addr} {s : Nat} : ∀ ad, Option.map (fun x => x.add s) A = some ad → ∃ a0, A = some a0 ∧ ad.block = a0.block := by
  intro ad e
  cases A with
  | none => cases e
  | some a =>
    have e2 : ad = a.add s := by simpa using e.symm
    subst e2
    refine ⟨a, rfl, ?_⟩
    unfold Addr.add
    split <;> rfl
/-- What the document's reader answers: a first value, and the reader behind it; its bytes lie where they lay. -/
def RefRead (w : World) (A0 : Option Addr) (n0 : Nat) (v : Value) (l : List UInt8) (e : Nat) (x : Ending) (w' : World) : Prop :=
  ∃ A c, x = .returned (.tuple #[v, .agg #[.slice A l.length c, .int .i64 (e : Int)]]) ∧ BytesAt w A l ∧ l.length ≤ c ∧ c ≤ 9223372036854775807 ∧ Below w.heap.size w w' ∧ l.length ≤ n0 ∧ ∀ ad, A = some ad → ∃ a0, A0 = some a0 ∧ ad.block = a0.block
theorem refRead {A0 : Option Addr} {n0 : Nat} {w w' : World} {l m : List UInt8} {e a x n : Nat} {A : Option Addr} {c : Nat} {k : Int} (h : OM.rnum l e = (a, m, x)) (hk : k = (a : Int)) (hn : m.length = n) (hB : BytesAt w A m) (h3 : n ≤ c) (h4 : c ≤ 9223372036854775807) (hb : Below w.heap.size w w') (h5 : n ≤ n0) (h6 : ∀ ad, A = some ad → ∃ a0, A0 = some a0 ∧ ad.block = a0.block) :
    RefRead w A0 n0 (.int .i64 ((OM.rnum l e).1 : Int)) (OM.rnum l e).2.1 (OM.rnum l e).2.2 (.returned (.tuple #[.int .i64 k, .agg #[.slice A n c, .int .i64 (x : Int)]])) w' := by
  rw [h, hk]
  subst hn
  exact ⟨A, c, rfl, hB, h3, h4, hb, h5, h6⟩
set_option maxRecDepth 100000 in
set_option maxHeartbeats 2000000 in
theorem ReadNum_any (A : Option Addr) (c : Nat) (l : List UInt8) (e : Nat) (w : World) (h : BytesAt w A l) (h3 : l.length ≤ c) (h4 : c ≤ 9223372036854775807) :
    Calls Try.prog 66 #[.agg #[.slice A l.length c, .int .i64 (e : Int)]] w (RefRead w A l.length (.int .i64 ((OM.rnum l e).1 : Int)) (OM.rnum l e).2.1 (OM.rnum l e).2.2) := by
  have K2 := Lib.hid h; clear h
  by_cases he : e = 0
  · subst he
    rcases OM.take_err l with ⟨a, s, ht⟩ | ht | ht
    · have hs := OM.take_le ht
      have T := Lib.hid ht; clear ht
      go_enter Try.func66, Try.ntmps66
      go_wp2_with (go_at_call 87; refine (TakeNum_any _ _ l _ ((K2.out.below ((Below.refl _ w).alloc (Nat.le_refl _) _)).below ((Below.refl _ _).alloc (Nat.le_refl _) _)) (by omega)).mono ?_; rintro x w' ⟨rfl, rfl⟩; rw [T.out])
      go_region
      all_goals go_wp2
      · have hB := K2.out.cut (k := s) (c := c) hs h3
        rw [if_pos (by assumption)] at hB
        refine bodyPost_ret (v := .tuple #[.int .i64 (a : Int), .agg #[.slice A (l.length - s) 0, .int .i64 0]]) ?_ rfl ?_
        · rw [results_tmp_cell rfl]
          go_simp
        · exact refRead (rnum_ok T.out) rfl (by rw [List.length_drop]) hB (by omega) (by omega) (((Below.refl _ _).alloc (Nat.le_refl _) _).alloc (by simp) _).drew (by omega) (fun ad e => ⟨ad, e, rfl⟩)
      · have hB := K2.out.cut (k := s) (c := c) hs h3
        rw [if_neg (by assumption)] at hB
        refine bodyPost_ret (v := .tuple #[.int .i64 (a : Int), .agg #[.slice (Option.map (fun x => x.add s) A) (l.length - s) (c - s), .int .i64 0]]) ?_ rfl ?_
        · rw [results_tmp_cell rfl]
          go_simp
        · exact refRead (rnum_ok T.out) rfl (by rw [List.length_drop]) hB (by omega) (by omega) (((Below.refl _ _).alloc (Nat.le_refl _) _).alloc (by simp) _).drew (by omega) map_block
    · have T := Lib.hid ht; clear ht
      go_enter Try.func66, Try.ntmps66
      go_wp2_with (go_at_call 87; refine (TakeNum_any _ _ l _ ((K2.out.below ((Below.refl _ w).alloc (Nat.le_refl _) _)).below ((Below.refl _ _).alloc (Nat.le_refl _) _)) (by omega)).mono ?_; rintro x w' ⟨rfl, rfl⟩; rw [T.out])
      go_region
      go_wp2
      refine bodyPost_ret (v := .tuple #[.int .i64 0, .agg #[.slice A l.length c, .int .i64 20]]) ?_ rfl ?_
      · rw [results_tmp_cell rfl]
        go_simp
      · exact refRead (rnum_bad T.out (by decide)) rfl rfl K2.out h3 h4 (((Below.refl _ _).alloc (Nat.le_refl _) _).alloc (by simp) _).drew (by omega) (fun ad e => ⟨ad, e, rfl⟩)
    · have T := Lib.hid ht; clear ht
      go_enter Try.func66, Try.ntmps66
      go_wp2_with (go_at_call 87; refine (TakeNum_any _ _ l _ ((K2.out.below ((Below.refl _ w).alloc (Nat.le_refl _) _)).below ((Below.refl _ _).alloc (Nat.le_refl _) _)) (by omega)).mono ?_; rintro x w' ⟨rfl, rfl⟩; rw [T.out])
      go_region
      go_wp2
      refine bodyPost_ret (v := .tuple #[.int .i64 0, .agg #[.slice A l.length c, .int .i64 21]]) ?_ rfl ?_
      · rw [results_tmp_cell rfl]
        go_simp
      · exact refRead (rnum_bad T.out (by decide)) rfl rfl K2.out h3 h4 (((Below.refl _ _).alloc (Nat.le_refl _) _).alloc (by simp) _).drew (by omega) (fun ad e => ⟨ad, e, rfl⟩)
  · have he' : ¬ (e : Int) = 0 := by omega
    go_enter Try.func66, Try.ntmps66
    go_wp2_with fail
    go_region
    go_wp2
    refine bodyPost_ret (v := .tuple #[.int .i64 0, .agg #[.slice A l.length c, .int .i64 (e : Int)]]) ?_ rfl ?_
    · rw [results_tmp_cell rfl]
      go_simp
    · exact refRead (rnum_stuck he) rfl rfl K2.out h3 h4 (((Below.refl _ _).alloc (Nat.le_refl _) _).alloc (by simp) _).drew (by omega) (fun ad e => ⟨ad, e, rfl⟩)
theorem refReadT {A0 : Option Addr} {n0 : Nat} {w w' : World} {l m t : List UInt8} {e x n : Nat} {most : Int} {A : Option Addr} {c : Nat} {k : ByteArray} (h : OM.rtext l e most = (t, m, x)) (hk : k = ⟨t.toArray⟩) (hn : m.length = n) (hB : BytesAt w A m) (h3 : n ≤ c) (h4 : c ≤ 9223372036854775807) (hb : Below w.heap.size w w') (h5 : n ≤ n0) (h6 : ∀ ad, A = some ad → ∃ a0, A0 = some a0 ∧ ad.block = a0.block) :
    RefRead w A0 n0 (.string ⟨(OM.rtext l e most).1.toArray⟩) (OM.rtext l e most).2.1 (OM.rtext l e most).2.2 (.returned (.tuple #[.string k, .agg #[.slice A n c, .int .i64 (x : Int)]])) w' := by
  rw [h, hk]
  subst hn
  exact ⟨A, c, rfl, hB, h3, h4, hb, h5, h6⟩
set_option maxRecDepth 100000 in
set_option maxHeartbeats 2000000 in
theorem ReadText_any (A : Option Addr) (c : Nat) (l : List UInt8) (e : Nat) (most : Int) (w : World) (hmost : -9223372036854775808 ≤ most ∧ most ≤ 9223372036854775807) (h : BytesAt w A l) (h3 : l.length ≤ c) (h4 : c ≤ 9223372036854775807) :
    Calls Try.prog 88 #[.agg #[.slice A l.length c, .int .i64 (e : Int)], .int .i64 most] w (RefRead w A l.length (.string ⟨(OM.rtext l e most).1.toArray⟩) (OM.rtext l e most).2.1 (OM.rtext l e most).2.2) := by
  have K2 := Lib.hid h; clear h
  by_cases he : e = 0
  · subst he
    obtain ⟨t, k, x, ht⟩ : ∃ t k x, tt l most = (t, k, x) := ⟨_, _, _, rfl⟩
    have hs := tt_le l most
    rw [ht] at hs
    have T := Lib.hid ht; clear ht
    by_cases hx : x = 0
    · subst hx
      go_enter Try.func88, Try.ntmps88
      go_wp2_with (go_at_call 95; refine (TakeText_any _ _ l most _ hmost ((K2.out.below ((Below.refl _ w).alloc (Nat.le_refl _) _)).below ((Below.refl _ _).alloc (Nat.le_refl _) _)) h3 h4).mono ?_; rintro x w' ⟨rfl, rfl⟩; rw [T.out])
      go_region
      all_goals go_wp2
      · have hB := K2.out.cut (k := k) (c := c) hs h3
        rw [if_pos (by assumption)] at hB
        refine bodyPost_ret (v := .tuple #[.string ⟨t.toArray⟩, .agg #[.slice A (l.length - k) 0, .int .i64 0]]) ?_ rfl ?_
        · rw [results_tmp_cell rfl]
          go_simp
        · exact refReadT (tt_good T.out) rfl (by rw [List.length_drop]) hB (by omega) (by omega) (((Below.refl _ _).alloc (Nat.le_refl _) _).alloc (by simp) _).drew (by omega) (fun ad e => ⟨ad, e, rfl⟩)
      · have hB := K2.out.cut (k := k) (c := c) hs h3
        rw [if_neg (by assumption)] at hB
        refine bodyPost_ret (v := .tuple #[.string ⟨t.toArray⟩, .agg #[.slice (Option.map (fun x => x.add k) A) (l.length - k) (c - k), .int .i64 0]]) ?_ rfl ?_
        · rw [results_tmp_cell rfl]
          go_simp
        · exact refReadT (tt_good T.out) rfl (by rw [List.length_drop]) hB (by omega) (by omega) (((Below.refl _ _).alloc (Nat.le_refl _) _).alloc (by simp) _).drew (by omega) map_block
    · have hx' : ¬ (x : Int) = 0 := by omega
      go_enter Try.func88, Try.ntmps88
      go_wp2_with (go_at_call 95; refine (TakeText_any _ _ l most _ hmost ((K2.out.below ((Below.refl _ w).alloc (Nat.le_refl _) _)).below ((Below.refl _ _).alloc (Nat.le_refl _) _)) h3 h4).mono ?_; rintro x w' ⟨rfl, rfl⟩; rw [T.out])
      go_region
      go_wp2
      refine bodyPost_ret (v := .tuple #[.string ⟨#[]⟩, .agg #[.slice A l.length c, .int .i64 (x : Int)]]) ?_ rfl ?_
      · rw [results_tmp_cell rfl]
        go_simp
      · exact refReadT (tt_fail T.out hx) rfl rfl K2.out h3 h4 (((Below.refl _ _).alloc (Nat.le_refl _) _).alloc (by simp) _).drew (by omega) (fun ad e => ⟨ad, e, rfl⟩)
  · have he' : ¬ (e : Int) = 0 := by omega
    go_enter Try.func88, Try.ntmps88
    go_wp2_with fail
    go_region
    go_wp2
    refine bodyPost_ret (v := .tuple #[.string ⟨#[]⟩, .agg #[.slice A l.length c, .int .i64 (e : Int)]]) ?_ rfl ?_
    · rw [results_tmp_cell rfl]
      go_simp
    · exact refReadT (rtext_stuck he) rfl rfl K2.out h3 h4 (((Below.refl _ _).alloc (Nat.le_refl _) _).alloc (by simp) _).drew (by omega) (fun ad e => ⟨ad, e, rfl⟩)
end Go.Proofs.Ytboflkadabagfaa.Oct.Rb
namespace Go.Proofs.Ytboflkadabagfaa
open Go.RowKit
open Oct (BytesAt u8s)
open WM (Msg)
set_option linter.unusedVariables false
set_option linter.unusedSimpArgs false
set_option maxRecDepth 100000
def tk2 (A : Option Addr) (n c e : Nat) : Array Value := #[.slice A n c, .int .i64 (e : Int)]
/-- The document's taker: the bytes that are left, the error. -/
def TkAt (w : World) (q B : Nat) (s : WM.St) : Prop := ∃ A c, Whole w q 66 (tk2 A s.1.length c s.2) ∧ BytesAt w A s.1 ∧ s.1.length ≤ c ∧ c ≤ 9223372036854775807 ∧ (0 < s.1.length → ∀ ad, A = some ad → ad.block < B)
theorem bytes_far {w w' : World} {A A2 : Option Addr} {l : List UInt8} {q n c e : Nat} {t : TypeId} (h : BytesAt w A l) (hq : Whole w q t (tk2 A2 n c e)) (hm : Mod [q] w w') : BytesAt w' A l := fun h0 => by
  obtain ⟨b, o, eA, hlt, hc⟩ := h h0
  have hne : b ≠ q := by
    intro eb
    subst eb
    have h1 := hc 0 _ (List.getElem?_eq_getElem h0)
    have h2 := hq.cell (o + 0)
    rw [h1] at h2
    unfold tk2 at h2
    match o with
    | 0 => cases h2
    | 1 => cases h2
    | k + 2 => simp at h2
  exact ⟨b, o, eA, Nat.lt_of_lt_of_le hlt hm.size, fun j x hx => (hm.cell (p := ⟨b, o + j, none⟩) hlt (by simpa using hne)).trans (hc j x hx)⟩
theorem TkAt.below {w w' : World} {q B : Nat} {s : WM.St} (h : TkAt w q B s) (hb : Below w.heap.size w w') : TkAt w' q B s := by
  obtain ⟨A, c, h1, h2, h3⟩ := h
  exact ⟨A, c, (Mod.of_below hb []).whole h1 (by simp), h2.below hb, h3⟩
theorem TkAt.mod {w w' : World} {q B : Nat} {s : WM.St} {F : List Nat} (h : TkAt w q B s) (hm : Mod F w w') (hq : q ∉ F) (hF : ∀ b ∈ F, B ≤ b) : TkAt w' q B s := by
  obtain ⟨A, c, h1, h2, h3, h4, h5⟩ := h
  refine ⟨A, c, hm.whole h1 hq, fun h0 => ?_, h3, h4, h5⟩
  obtain ⟨b, o, eA, hlt, hc⟩ := h2 h0
  have hne : b ∉ F := fun hb => by
    have h6 : b < B := h5 h0 ⟨b, o, none⟩ eA
    have h7 := hF b hb
    omega
  exact ⟨b, o, eA, Nat.lt_of_lt_of_le hlt hm.size, fun j x hx => (hm.cell (p := ⟨b, o + j, none⟩) hlt hne).trans (hc j x hx)⟩
/-- The reader is put back. -/
theorem TkAt.put {w w' : World} {q n c e B : Nat} {A A' A0 : Option Addr} {c' n0 : Nat} {s : WM.St} (hq : Whole w q 66 (tk2 A n c e)) (hB : BytesAt w A' s.1) (hl : s.1.length ≤ c' ∧ c' ≤ 9223372036854775807)
    (hw : Whole w' q 66 (tk2 A' s.1.length c' s.2)) (hm : Mod [q] w w') (h5 : 0 < n0 → ∀ ad, A0 = some ad → ad.block < B) (h6 : s.1.length ≤ n0 ∧ ∀ ad, A' = some ad → ∃ a0, A0 = some a0 ∧ ad.block = a0.block) : TkAt w' q B s :=
  ⟨A', c', hw, bytes_far hB hq hm, hl.1, hl.2, fun h0 ad e => by
    obtain ⟨a0, e0, eb⟩ := h6.2 ad e
    rw [eb]
    exact h5 (by have := h6.1; omega) a0 e0⟩
set_option maxHeartbeats 4000000 in
theorem r6_tnum (q B : Nat) (s : WM.St) (w : World) (h : TkAt w q B s) :
    Calls Try.prog 37 #[.pointer (some ⟨q, 0, none⟩)] w fun e w' => e = .returned (.int .i64 (WM.tnum s).1) ∧ TkAt w' q B ((WM.tnum s).2) ∧ Mod [q] w w' := by
  obtain ⟨A, c, hw, hB, hl, hc, hbk⟩ := h
  have HBK := Lib.hid hbk
  clear hbk
  have HW := Lib.hid hw
  have HB := Lib.hid hB
  have c0 := hw.cell 0
  have c1 := hw.cell 1
  unfold tk2 at c0 c1
  have HH := Lib.hid (show (WM.tnum s).1 = ((OM.rnum s.1 s.2).1 : Int) ∧ (WM.tnum s).2 = ((OM.rnum s.1 s.2).2) from ⟨rfl, rfl⟩)
  clear hw hB
  go_enter Try.func37, Try.ntmps37
  go_wp2_with fail
  refine (Oct.Rb.ReadNum_any A c s.1 s.2 _ HB.out hl hc).mono ?_
  rintro e w1 ⟨A1, c1', rfl, h1, h2, h3, hb, h6⟩
  have H6 := Lib.hid h6
  clear h6
  have HW1 := Lib.hid ((Mod.of_below hb []).whole HW.out (by simp))
  have HX1 := Lib.hid hb
  have HB1 := Lib.hid h1
  have HM := Lib.hid h2
  clear h1 hb c0 c1 HW HB
  generalize OM.rnum s.1 s.2 = r at HB1 HM HH H6 ⊢
  obtain ⟨rv, rl, re⟩ := r
  dsimp only at HB1 HM HH H6 ⊢
  go_upto_region 2 with (fail)
  have HWA := Lib.hid (HW1.out.alloc (.cells #[.slice A1 rl.length c1', .int .i64 (re : Int)] 64))
  have HRA := Lib.hid (Whole.new w1 64 #[.slice A1 rl.length c1', .int .i64 (re : Int)])
  have HXA := Lib.hid ((Below.refl _ w1).alloc (Nat.le_refl _) (.cells #[.slice A1 rl.length c1', .int .i64 (re : Int)] 64))
  have HBA := Lib.hid (HB1.out.below (below_on HX1.out HXA.out))
  generalize w1.alloc (.cells #[.slice A1 rl.length c1', .int .i64 (re : Int)] 64) = wa at HWA HRA HXA HBA ⊢
  have g0 := HWA.out.cell 0
  have g1 := HWA.out.cell 1
  have f0 := HWA.out.frozen 0
  have f1 := HWA.out.frozen 1
  have b0 := HRA.out.cell 0
  have b1 := HRA.out.cell 1
  unfold tk2 at g0 g1
  go_wp2_with fail
  go_ret
  have hK := ((HWA.out.store 0 (.slice A1 rl.length c1')).store 1 (.int .i64 (re : Int)))
  have hM : Mod [q] wa ((wa.setCell ⟨q, 0, none⟩ (.slice A1 rl.length c1')).setCell ⟨q, 1, none⟩ (.int .i64 (re : Int))) := ((Mod.refl [q] wa).store (p := ⟨q, 0, none⟩) (.inl (by simp)) _).store (p := ⟨q, 1, none⟩) (.inl (by simp)) _
  refine ⟨by rw [HH.out.1]; rfl, by rw [HH.out.2]; exact TkAt.put (s := (rl, re)) HWA.out HBA.out ⟨HM.out, h3⟩ hK hM HBK.out H6.out, (Mod.of_below (below_on HX1.out HXA.out) [q]).trans hM (by simp)⟩
set_option maxHeartbeats 4000000 in
theorem r6_ttext (q B : Nat) (s : WM.St) (w : World) (h : TkAt w q B s) :
    Calls Try.prog 67 #[.pointer (some ⟨q, 0, none⟩)] w fun e w' => e = .returned (.string (WM.ttext s).1) ∧ TkAt w' q B ((WM.ttext s).2) ∧ Mod [q] w w' := by
  obtain ⟨A, c, hw, hB, hl, hc, hbk⟩ := h
  have HBK := Lib.hid hbk
  clear hbk
  have HW := Lib.hid hw
  have HB := Lib.hid hB
  have c0 := hw.cell 0
  have c1 := hw.cell 1
  unfold tk2 at c0 c1
  have HH := Lib.hid (show (WM.ttext s).1 = ⟨(OM.rtext s.1 s.2 200).1.toArray⟩ ∧ (WM.ttext s).2 = ((OM.rtext s.1 s.2 200).2) from ⟨rfl, rfl⟩)
  clear hw hB
  go_enter Try.func67, Try.ntmps67
  go_wp2_with fail
  refine (Oct.Rb.ReadText_any A c s.1 s.2 200 _ (by decide) HB.out hl hc).mono ?_
  rintro e w1 ⟨A1, c1', rfl, h1, h2, h3, hb, h6⟩
  have H6 := Lib.hid h6
  clear h6
  have HW1 := Lib.hid ((Mod.of_below hb []).whole HW.out (by simp))
  have HX1 := Lib.hid hb
  have HB1 := Lib.hid h1
  have HM := Lib.hid h2
  clear h1 hb c0 c1 HW HB
  generalize OM.rtext s.1 s.2 200 = r at HB1 HM HH H6 ⊢
  obtain ⟨rv, rl, re⟩ := r
  dsimp only at HB1 HM HH H6 ⊢
  go_upto_region 2 with (fail)
  have HWA := Lib.hid (HW1.out.alloc (.cells #[.slice A1 rl.length c1', .int .i64 (re : Int)] 64))
  have HRA := Lib.hid (Whole.new w1 64 #[.slice A1 rl.length c1', .int .i64 (re : Int)])
  have HXA := Lib.hid ((Below.refl _ w1).alloc (Nat.le_refl _) (.cells #[.slice A1 rl.length c1', .int .i64 (re : Int)] 64))
  have HBA := Lib.hid (HB1.out.below (below_on HX1.out HXA.out))
  generalize w1.alloc (.cells #[.slice A1 rl.length c1', .int .i64 (re : Int)] 64) = wa at HWA HRA HXA HBA ⊢
  have g0 := HWA.out.cell 0
  have g1 := HWA.out.cell 1
  have f0 := HWA.out.frozen 0
  have f1 := HWA.out.frozen 1
  have b0 := HRA.out.cell 0
  have b1 := HRA.out.cell 1
  unfold tk2 at g0 g1
  go_wp2_with fail
  go_ret
  have hK := ((HWA.out.store 0 (.slice A1 rl.length c1')).store 1 (.int .i64 (re : Int)))
  have hM : Mod [q] wa ((wa.setCell ⟨q, 0, none⟩ (.slice A1 rl.length c1')).setCell ⟨q, 1, none⟩ (.int .i64 (re : Int))) := ((Mod.refl [q] wa).store (p := ⟨q, 0, none⟩) (.inl (by simp)) _).store (p := ⟨q, 1, none⟩) (.inl (by simp)) _
  refine ⟨by rw [HH.out.1]; rfl, by rw [HH.out.2]; exact TkAt.put (s := (rl, re)) HWA.out HBA.out ⟨HM.out, h3⟩ hK hM HBK.out H6.out, (Mod.of_below (below_on HX1.out HXA.out) [q]).trans hM (by simp)⟩
/-- One number put behind a row of the call's own. -/
theorem app_int {w1 : World} {ops : Array Oper} {rest : List Oper} {o : Oper} {a : Act} {Q : Exit → Act → World → Prop} (hgd : o.guard = none) (s x : Operand)
    (ho : o.op = .call { callee := .builtin .append, args := #[s, x], argTypes := #[26, 26] })
    (base : Nat) (v : Value) (pre : List Int) (hown : w1.ownsRow base 3 1 v pre.length (i64s pre)) (hb : base ≤ w1.heap.size) (hs : a.eval s = v) (k : Int) (hx : a.eval x = .slice (some ⟨w1.heap.size, 0, none⟩) 1 1) (hl : (pre.length + 1) * 8 ≤ 140737488355328)
    (h : ∀ v' w2, w2.ownsRow base 3 1 v' (pre ++ [k]).length (i64s (pre ++ [k])) → Mod v.ownBlock.toList w1 w2 → wpList Try.prog ops Q rest (a.put o.dst v') w2) : wpList Try.prog ops Q (o :: rest) a (w1.alloc (.cells #[.int .i64 k] 3)) := by
  obtain ⟨i0, hi, hz0, hz1, hz2⟩ := info_parts info_int
  refine wpList_append_own_at _ hgd s x 26 ho base 3 i0 (.int .i64 0) 1 8 Try.underlying26 hi hz0 hz1 hz2 rfl (by decide) v pre.length (i64s pre) hs (hown.alloc _) ⟨w1.heap.size, 0, none⟩ 1 1 [.int .i64 k] hx rfl
    (World.news_of_block (cs := #[.int .i64 k]) (t := 3) (fr := (0, 0)) (heap_alloc_new w1 _)) (one_i64 (l := [k])) (by unfold maxLen; omega) (by omega) (by rw [World.size_alloc]; omega) ?_
  intro v' w2 h2 hgrow _ _
  refine h v' w2 (by rw [List.length_append, i64s_append]; exact h2) (((Mod.refl _ w1).alloc _).grown hgrow (fun k hk => .inl (by rw [hk]; simp)))
set_option maxHeartbeats 4000000 in
theorem r6_tcounters (q B : Nat) (s : WM.St) (w : World) (h : TkAt w q B s) (hB : B ≤ w.heap.size) (hq : q < w.heap.size) :
    Calls Try.prog 68 #[.pointer (some ⟨q, 0, none⟩)] w fun e w' => ∃ v, e = .returned v ∧ w'.ownsRow w.heap.size 3 1 v (WM.tstamp 5 s).1.length (i64s (WM.tstamp 5 s).1) ∧ TkAt w' q B (WM.tstamp 5 s).2 ∧ Mod [q] w w' := by
  have HT := Lib.hid h
  have HE := Lib.hid (show WM.tstamp 5 s = WM.tnums (min (WM.tnum s).1.toNat 5) (WM.tnum s).2 from rfl)
  clear h
  go_enter Try.func68, Try.ntmps68
  go_wp2_with fail
  refine (r6_tnum q B s w HT.out).mono ?_
  rintro e w1 ⟨rfl, h1, hm1⟩
  have HT1 := Lib.hid h1
  have HM1 := Lib.hid hm1
  clear h1 hm1 HT
  generalize WM.tnum s = t0 at HE HT1 ⊢
  obtain ⟨n, s1⟩ := t0
  dsimp only at HE HT1 ⊢
  obtain ⟨M, hM⟩ : ∃ M, M = min n.toNat 5 := ⟨_, rfl⟩
  rw [← hM] at HE
  have hM5 : M ≤ 5 := by omega
  have HMD := Lib.hid (show ∀ k : Nat, k ≤ M → (k < M ↔ ((k : Int) < n ∧ (k : Int) < 5)) from fun k hk => by omega)
  clear hM
  go_wp2_with fail
  go_loopw [5, 4] (fun i v wx => ∃ k : Nat, i = .int .i64 (k : Int) ∧ k ≤ M ∧ Hid (wx.ownsRow w.heap.size 3 1 v (WM.tnums k s1).1.length (i64s (WM.tnums k s1).1)) ∧ Hid (TkAt wx q B (WM.tnums k s1).2) ∧ Hid (Mod [q] w wx)) (fun i _ _ => M - (intOf i).toNat)
  case atStart => exact ⟨0, rfl, Nat.zero_le _, Lib.hid (World.ownsRow_nil _ _ _ _), HT1, HM1⟩
  case round =>
    obtain ⟨k, rfl, hk, HR, HTk, HMk⟩ := hrel
    by_cases hlt : k < M
    · obtain ⟨ha, hb⟩ := (HMD.out k hk).1 hlt
      have d1 : decide ((k : Int) < n) = true := decide_eq_true ha
      have d2 : decide ((k : Int) < 5) = true := decide_eq_true hb
      have HSN := Lib.hid (WM.tnums_snoc k s1)
      have HLN := Lib.hid (WM.tnums_len k s1)
      clear ha hb
      go_wp2_with fail
      refine (r6_tnum q B _ wr HTk.out).mono ?_
      rintro e w2 ⟨rfl, h2, hm2⟩
      have HR2 := Lib.hid (hm2.own HR.out (fun j hj => by have := (HR.out.lt j hj).1; simp; omega))
      have HT2 := Lib.hid h2
      have HM2 := Lib.hid (HMk.out.trans hm2 (by simp))
      clear h2 hm2
      generalize WM.tnums k s1 = pk at HSN HR2 HT2 HLN ⊢
      generalize WM.tnum pk.2 = tk at HSN HT2 ⊢
      go_wp2_with (at_builtin; refine app_int rfl (.tmp 20) (.tmp 22) rfl w.heap.size _ pk.1 HR2.out HM2.out.size rfl tk.1 rfl (by have := HLN.out; omega) ?_; intro v3 w3 h3 hm3; have HR3 := Lib.hid h3; have HT3 := Lib.hid (HT2.out.mod hm3 (by intro hx; have := (HR2.out.lt q (by simpa using hx)).1; omega) (fun b hb => by have := (HR2.out.lt b (by simpa using hb)).1; omega)); have HM3 := Lib.hid (HM2.out.trans hm3 (fun x hx => .inr (HR2.out.lt x (by simpa using hx)).1)); clear h3 hm3)
      go_roundw
      case rel =>
        refine ⟨k + 1, rfl, by omega, Lib.hid ?_, Lib.hid ?_, HM3⟩
        · rw [HSN.out]; exact HR3.out
        · rw [HSN.out]; exact HT3.out
      case measure => simp only [intOf]; omega
    · have hkM : k = M := by omega
      have hno : ¬ ((k : Int) < n ∧ (k : Int) < 5) := fun h => hlt ((HMD.out k hk).2 h)
      have HV := Lib.hid (show WM.tnums k s1 = WM.tstamp 5 s by rw [HE.out, hkM])
      rw [HV.out] at HR HTk
      clear hkM HV
      by_cases ha : (k : Int) < n
      · have d1 : decide ((k : Int) < n) = true := decide_eq_true ha
        have d2 : decide ((k : Int) < 5) = false := decide_eq_false (fun h => hno ⟨ha, h⟩)
        clear ha hno
        go_wp2_with fail
        go_ret
        exact ⟨_, rfl, HR.out, HTk.out, HMk.out⟩
      · have d1 : decide ((k : Int) < n) = false := decide_eq_false ha
        clear ha hno
        go_wp2_with fail
        go_ret
        exact ⟨_, rfl, HR.out, HTk.out, HMk.out⟩
/-- What stands while the document's fields are taken: the message's box, the answer's box, the taker, the stamp's list. -/
structure FdSt (w0 : World) (q B : Nat) (m : Msg) (sv : Value) (s : WM.St) (w : World) : Prop where
  kb : MsgBlk w w0.heap.size m sv
  kz : MsgBlk w (w0.heap.size + 1) WM.zero (.slice none 0 0)
  tk : TkAt w q B s
  mod : Mod [q] w0 w
  row : w.ownsRow (w0.heap.size + 2) 3 1 sv m.stamp.length (i64s m.stamp)
  q0 : q < w0.heap.size
  b0 : B ≤ w0.heap.size
  size : w0.heap.size + 2 ≤ w.heap.size
section
variable {w0 w w2 : World} {q B : Nat} {m m' : Msg} {sv sv' x : Value} {s s2 : WM.St}
theorem FdSt.num (h : FdSt w0 q B m sv s w) (h2 : TkAt w2 q B s2) (hm : Mod [q] w w2) : FdSt w0 q B m sv s2 w2 :=
  ⟨hm.whole h.kb (by have := h.q0; simp; omega), hm.whole h.kz (by have := h.q0; simp; omega), h2, h.mod.trans hm (by simp), hm.own h.row (fun k hk => by have := (h.row.lt k hk).1; have := h.q0; simp; omega), h.q0, h.b0, Nat.le_trans h.size hm.size⟩
theorem FdSt.store (h : FdSt w0 q B m sv s w) {i : Nat} (he : (cellsM m sv).setIfInBounds i x = cellsM m' sv) (hs : m'.stamp = m.stamp) : FdSt w0 q B m' sv s (w.setCell ⟨w0.heap.size, i, none⟩ x) := by
  have hM : Mod [w0.heap.size] w (w.setCell ⟨w0.heap.size, i, none⟩ x) := (Mod.refl _ w).store (p := ⟨w0.heap.size, i, none⟩) (.inl (by simp)) x
  have hk := h.kb.store i x
  rw [he] at hk
  refine ⟨hk, hM.whole h.kz (by simp), h.tk.mod hM (by have := h.q0; simp; omega) (fun b hb => by simp at hb; have := h.b0; omega), h.mod.trans hM (fun y hy => by simp at hy; right; omega), ?_, h.q0, h.b0, by simpa using h.size⟩
  rw [hs]
  exact hM.own h.row (fun k hk => by have := (h.row.lt k hk).1; simp; omega)
/-- The stamp is put in its place. -/
theorem FdSt.stamp (h : FdSt w0 q B m sv s w) {l : List Int} (h1 : w2.ownsRow w.heap.size 3 1 x l.length (i64s l)) (h2 : TkAt w2 q B s2) (hm : Mod [q] w w2) : FdSt w0 q B { m with stamp := l } x s2 (w2.setCell ⟨w0.heap.size, 13, none⟩ x) := by
  have hM : Mod [w0.heap.size] w2 (w2.setCell ⟨w0.heap.size, 13, none⟩ x) := (Mod.refl _ w2).store (p := ⟨w0.heap.size, 13, none⟩) (.inl (by simp)) x
  have h' := h.num h2 hm
  have hk := h'.kb.store 13 x
  have hs := h.size
  refine ⟨hk, hM.whole h'.kz (by simp), h2.mod hM (by have := h.q0; simp; omega) (fun b hb => by simp at hb; have := h.b0; omega), h'.mod.trans hM (fun y hy => by simp at hy; right; omega), ?_, h.q0, h.b0, by simpa using h'.size⟩
  exact gw_base (hM.own h1 (fun k hk => by have := (h1.lt k hk).1; simp; omega)) hs
/-- What the call answers. -/
def Fields6 (w : World) (q : Nat) (m : Msg) (e : Ending) (w' : World) : Prop := ∃ v, e = .returned (.agg (cellsM m v)) ∧ w'.ownsRow w.heap.size 3 1 v m.stamp.length (i64s m.stamp) ∧ Mod [q] w w'
theorem FdSt.done (h : FdSt w0 q B m sv s w) : MsgBlk (w.setRow (w0.heap.size + 1) (cellsM m sv)) (w0.heap.size + 1) m sv ∧ Fields6 w0 q m (.returned (.agg (cellsM m sv))) (w.setRow (w0.heap.size + 1) (cellsM m sv)) := by
  obtain ⟨hK, hM⟩ := row16 h.kz m sv
  have hs := h.size
  exact ⟨hK, sv, rfl, gw_base (hM.own h.row (fun k hk => by have := (h.row.lt k hk).1; simp; omega)) (by omega), h.mod.trans hM (fun y hy => by simp at hy; right; omega)⟩
end
set_option maxHeartbeats 8000000 in
theorem fd6_2 (q B : Nat) (s : WM.St) (m : Msg) (w : World) (h : TkAt w q B s) (hB : B ≤ w.heap.size) (hq : q < w.heap.size) (hs : m.stamp = []) (hk : m.kind = 2) :
    Calls Try.prog 38 #[.pointer (some ⟨q, 0, none⟩), .agg (cellsM m (.slice none 0 0))] w (Fields6 w q (WM.partT 5 m s).1) := by
  have HKK := Lib.hid hk
  clear hk
  have HX := Lib.hid (((Below.refl _ w).alloc (Nat.le_refl _) (.cells (cellsM m (.slice none 0 0)) 28)).alloc (by simp) (.cells #[.int .i64 0, .int .i64 0, .int .i64 0, .int .i64 0, .int .i64 0, .int .i64 0, .int .i64 0, .string ⟨#[]⟩, .int .i64 0, .int .i64 0, .int .i64 0, .bool false, .int .i64 0, .slice none 0 0, .int .i64 0, .int .i64 0] 28))
  have HK := Lib.hid (show MsgBlk ((w.alloc (.cells (cellsM m (.slice none 0 0)) 28)).alloc (.cells #[.int .i64 0, .int .i64 0, .int .i64 0, .int .i64 0, .int .i64 0, .int .i64 0, .int .i64 0, .string ⟨#[]⟩, .int .i64 0, .int .i64 0, .int .i64 0, .bool false, .int .i64 0, .slice none 0 0, .int .i64 0, .int .i64 0] 28)) w.heap.size m (.slice none 0 0) from (Whole.new w 28 (cellsM m (.slice none 0 0))).alloc (.cells #[.int .i64 0, .int .i64 0, .int .i64 0, .int .i64 0, .int .i64 0, .int .i64 0, .int .i64 0, .string ⟨#[]⟩, .int .i64 0, .int .i64 0, .int .i64 0, .bool false, .int .i64 0, .slice none 0 0, .int .i64 0, .int .i64 0] 28))
  have HZ := Lib.hid (show MsgBlk ((w.alloc (.cells (cellsM m (.slice none 0 0)) 28)).alloc (.cells #[.int .i64 0, .int .i64 0, .int .i64 0, .int .i64 0, .int .i64 0, .int .i64 0, .int .i64 0, .string ⟨#[]⟩, .int .i64 0, .int .i64 0, .int .i64 0, .bool false, .int .i64 0, .slice none 0 0, .int .i64 0, .int .i64 0] 28)) (w.heap.size + 1) WM.zero (.slice none 0 0) from by have h := Whole.new (w.alloc (.cells (cellsM m (.slice none 0 0)) 28)) 28 (cellsM WM.zero (.slice none 0 0)); have e : (w.alloc (.cells (cellsM m (.slice none 0 0)) 28)).heap.size = w.heap.size + 1 := (by simp); rw [e] at h; exact h)
  have HT := Lib.hid (show FdSt w q B m (.slice none 0 0) s ((w.alloc (.cells (cellsM m (.slice none 0 0)) 28)).alloc (.cells #[.int .i64 0, .int .i64 0, .int .i64 0, .int .i64 0, .int .i64 0, .int .i64 0, .int .i64 0, .string ⟨#[]⟩, .int .i64 0, .int .i64 0, .int .i64 0, .bool false, .int .i64 0, .slice none 0 0, .int .i64 0, .int .i64 0] 28)) from ⟨HK.out, HZ.out, h.below HX.out, Mod.of_below HX.out [q], by rw [hs]; exact World.ownsRow_nil _ _ _ _, hq, hB, by simp⟩)
  clear h hB hq HX HK HZ
  go_enter Try.func38, Try.ntmps38
  go_upto_region 1 with (fail)
  generalize (w.alloc (.cells (cellsM m (.slice none 0 0)) 28)).alloc (.cells #[.int .i64 0, .int .i64 0, .int .i64 0, .int .i64 0, .int .i64 0, .int .i64 0, .int .i64 0, .string ⟨#[]⟩, .int .i64 0, .int .i64 0, .int .i64 0, .bool false, .int .i64 0, .slice none 0 0, .int .i64 0, .int .i64 0] 28) = w1 at HT ⊢
  obtain ⟨c0, c1, c2', c3, c4, c5, c6, c7, c8, c9, c10, c11, c12, c13, c14, c15⟩ := msg_cells HT.out.kb
  rw [HKK.out] at c0
  go_wp2_with fail
  refine (r6_tnum q B s _ HT.out.tk).mono ?_
  rintro e x2 ⟨rfl, h2, hm2⟩
  have HT2 := Lib.hid (HT.out.num h2 hm2)
  clear h2 hm2 HT c0 c1 c2' c3 c4 c5 c6 c7 c8 c9 c10 c11 c12 c13 c14 c15
  generalize ha : WM.tnum s = t2 at HT2 ⊢
  obtain ⟨a2, s2⟩ := t2
  have HA2 := Lib.hid ha
  clear ha
  dsimp only at HT2 ⊢
  obtain ⟨c0, c1, c2', c3, c4, c5, c6, c7, c8, c9, c10, c11, c12, c13, c14, c15⟩ := msg_cells HT2.out.kb
  have f3 := HT2.out.kb.frozen 3
  go_upto_region 21 with (fail)
  have HT := Lib.hid (HT2.out.store (i := 3) (x := .int .i64 a2) (m' := { m with boot := a2 }) rfl rfl)
  clear HT2 f3 c0 c1 c2' c3 c4 c5 c6 c7 c8 c9 c10 c11 c12 c13 c14 c15
  generalize World.setCell _ _ _ = w3 at HT ⊢
  obtain ⟨c0, c1, c2', c3, c4, c5, c6, c7, c8, c9, c10, c11, c12, c13, c14, c15⟩ := msg_cells HT.out.kb
  go_wp2_with fail
  refine (r6_tnum q B s2 _ HT.out.tk).mono ?_
  rintro e x3 ⟨rfl, h2, hm2⟩
  have HT2 := Lib.hid (HT.out.num h2 hm2)
  clear h2 hm2 HT c0 c1 c2' c3 c4 c5 c6 c7 c8 c9 c10 c11 c12 c13 c14 c15
  generalize ha : WM.tnum s2 = t3 at HT2 ⊢
  obtain ⟨a3, s3⟩ := t3
  have HA3 := Lib.hid ha
  clear ha
  dsimp only at HT2 ⊢
  obtain ⟨c0, c1, c2', c3, c4, c5, c6, c7, c8, c9, c10, c11, c12, c13, c14, c15⟩ := msg_cells HT2.out.kb
  have f4 := HT2.out.kb.frozen 4
  go_upto_region 22 with (fail)
  have HT := Lib.hid (HT2.out.store (i := 4) (x := .int .i64 a3) (m' := { m with boot := a2, seq := a3 }) rfl rfl)
  clear HT2 f4 c0 c1 c2' c3 c4 c5 c6 c7 c8 c9 c10 c11 c12 c13 c14 c15
  generalize World.setCell _ _ _ = w4 at HT ⊢
  obtain ⟨c0, c1, c2', c3, c4, c5, c6, c7, c8, c9, c10, c11, c12, c13, c14, c15⟩ := msg_cells HT.out.kb
  go_wp2_with fail
  refine (r6_tnum q B s3 _ HT.out.tk).mono ?_
  rintro e x4 ⟨rfl, h2, hm2⟩
  have HT2 := Lib.hid (HT.out.num h2 hm2)
  clear h2 hm2 HT c0 c1 c2' c3 c4 c5 c6 c7 c8 c9 c10 c11 c12 c13 c14 c15
  generalize ha : WM.tnum s3 = t4 at HT2 ⊢
  obtain ⟨a4, s4⟩ := t4
  have HA4 := Lib.hid ha
  clear ha
  dsimp only at HT2 ⊢
  obtain ⟨c0, c1, c2', c3, c4, c5, c6, c7, c8, c9, c10, c11, c12, c13, c14, c15⟩ := msg_cells HT2.out.kb
  have f12 := HT2.out.kb.frozen 12
  go_upto_region 23 with (fail)
  have HT := Lib.hid (HT2.out.store (i := 12) (x := .int .i64 a4) (m' := { m with boot := a2, seq := a3, code := a4 }) rfl rfl)
  clear HT2 f12 c0 c1 c2' c3 c4 c5 c6 c7 c8 c9 c10 c11 c12 c13 c14 c15
  generalize World.setCell _ _ _ = w5 at HT ⊢
  obtain ⟨c0, c1, c2', c3, c4, c5, c6, c7, c8, c9, c10, c11, c12, c13, c14, c15⟩ := msg_cells HT.out.kb
  by_cases hc : a4 = 0
  · skip
    have HC := Lib.hid hc
    have HCN := Lib.hid hc
    rw [hc] at c12
    clear hc
    go_wp2_with fail
    refine (r6_tnum q B s4 _ HT.out.tk).mono ?_
    rintro e x5 ⟨rfl, h2, hm2⟩
    have HT2 := Lib.hid (HT.out.num h2 hm2)
    clear h2 hm2 HT c0 c1 c2' c3 c4 c5 c6 c7 c8 c9 c10 c11 c12 c13 c14 c15
    generalize ha : WM.tnum s4 = t5 at HT2 ⊢
    obtain ⟨a5, s5⟩ := t5
    have HA5 := Lib.hid ha
    clear ha
    dsimp only at HT2 ⊢
    obtain ⟨c0, c1, c2', c3, c4, c5, c6, c7, c8, c9, c10, c11, c12, c13, c14, c15⟩ := msg_cells HT2.out.kb
    have f10 := HT2.out.kb.frozen 10
    go_upto_region 25 with (fail)
    have HT := Lib.hid (HT2.out.store (i := 10) (x := .int .i64 a5) (m' := { m with boot := a2, seq := a3, code := a4, id := a5 }) rfl rfl)
    clear HT2 f10 c0 c1 c2' c3 c4 c5 c6 c7 c8 c9 c10 c11 c12 c13 c14 c15
    generalize World.setCell _ _ _ = w6 at HT ⊢
    obtain ⟨c0, c1, c2', c3, c4, c5, c6, c7, c8, c9, c10, c11, c12, c13, c14, c15⟩ := msg_cells HT.out.kb
    go_wp2_with fail
    refine (r6_tnum q B s5 _ HT.out.tk).mono ?_
    rintro e x6 ⟨rfl, h2, hm2⟩
    have HT2 := Lib.hid (HT.out.num h2 hm2)
    clear h2 hm2 HT c0 c1 c2' c3 c4 c5 c6 c7 c8 c9 c10 c11 c12 c13 c14 c15
    generalize ha : WM.tnum s5 = t6 at HT2 ⊢
    obtain ⟨a6, s6⟩ := t6
    have HA6 := Lib.hid ha
    clear ha
    dsimp only at HT2 ⊢
    obtain ⟨c0, c1, c2', c3, c4, c5, c6, c7, c8, c9, c10, c11, c12, c13, c14, c15⟩ := msg_cells HT2.out.kb
    have f9 := HT2.out.kb.frozen 9
    go_upto_region 26 with (fail)
    have HT := Lib.hid (HT2.out.store (i := 9) (x := .int .i64 a6) (m' := { m with boot := a2, seq := a3, code := a4, id := a5, term := a6 }) rfl rfl)
    clear HT2 f9 c0 c1 c2' c3 c4 c5 c6 c7 c8 c9 c10 c11 c12 c13 c14 c15
    generalize World.setCell _ _ _ = w7 at HT ⊢
    obtain ⟨c0, c1, c2', c3, c4, c5, c6, c7, c8, c9, c10, c11, c12, c13, c14, c15⟩ := msg_cells HT.out.kb
    go_wp2_with fail
    refine (r6_tcounters q B s6 _ HT.out.tk (Nat.le_trans HT.out.b0 HT.out.mod.size) (Nat.lt_of_lt_of_le HT.out.q0 HT.out.mod.size)).mono ?_
    rintro e x7 ⟨vv, rfl, h1, h2, hm2⟩
    obtain ⟨A9, cz9, e9, _, _⟩ := own_shape h1
    subst e9
    have HT2 := Lib.hid (HT.out.stamp h1 h2 hm2)
    have HT3 := Lib.hid (HT.out.num h2 hm2)
    clear h1 h2 hm2 HT c0 c1 c2' c3 c4 c5 c6 c7 c8 c9 c10 c11 c12 c13 c14 c15
    generalize ha : WM.tstamp 5 s6 = t7 at HT2 HT3 ⊢
    obtain ⟨a7, s7⟩ := t7
    have HA7 := Lib.hid ha
    clear ha
    dsimp only at HT2 HT3 ⊢
    obtain ⟨c0, c1, c2', c3, c4, c5, c6, c7, c8, c9, c10, c11, c12, c13, c14, c15⟩ := msg_cells HT3.out.kb
    have f13 := HT3.out.kb.frozen 13
    clear HT3
    go_upto_region 40 with (fail)
    clear f13 c0 c1 c2' c3 c4 c5 c6 c7 c8 c9 c10 c11 c12 c13 c14 c15
    have HT := HT2
    clear HT2
    generalize World.setCell _ _ _ = w8 at HT ⊢
    obtain ⟨c0, c1, c2', c3, c4, c5, c6, c7, c8, c9, c10, c11, c12, c13, c14, c15⟩ := msg_cells HT.out.kb
    go_upto_region 40 with (fail)
    clear c0 c1 c2' c3 c4 c5 c6 c7 c8 c9 c10 c11 c12 c13 c14 c15
    have HP := Lib.hid (show (WM.partT 5 m s).1 = { m with boot := a2, seq := a3, code := a4, id := a5, term := a6, stamp := a7 } by
      have hk := HKK.out
      simp [WM.partT, WM.askT, WM.replyT, WM.recallT, WM.doneT, WM.opT, hk, HA2.out, HA3.out, HA4.out, HC.out, HA5.out, HA6.out, HA7.out])
    have HD := Lib.hid HT.out.done
    have HLD := Lib.hid (msg_range HT.out.kb)
    have HKZ := Lib.hid HT.out.kz
    have hv1 : ((.slice A9 a7.length cz9) : Value).oneCell' = true := rfl
    go_wp2_with (first | (refine wpList_load_mid rfl 28 (.tmp 3) rfl w.heap.size 0 rfl (cellsM { m with boot := a2, seq := a3, code := a4, id := a5, term := a6, stamp := a7 } (.slice A9 a7.length cz9)).toList _ HLD.out Try.underlying28 rfl (by kernel_rfl) ?_) | (refine wpList_store_row rfl 28 (.tmp 4) (.tmp 112) rfl (w.heap.size + 1) (cellsM { m with boot := a2, seq := a3, code := a4, id := a5, term := a6, stamp := a7 } (.slice A9 a7.length cz9)) rfl rfl 28 _ HKZ.out (by kernel_rfl) rfl (by simp [cellsM, Value.oneCell', hv1]) ?_))
    generalize World.setRow _ _ _ = w6 at HD ⊢
    obtain ⟨c0, c1, c2', c3, c4, c5, c6, c7, c8, c9, c10, c11, c12, c13, c14, c15⟩ := msg_cells HD.out.1
    change bodyPost Try.prog _ _ Exit.ret _ _
    refine bodyPost_ret (v := .agg (cellsM { m with boot := a2, seq := a3, code := a4, id := a5, term := a6, stamp := a7 } (.slice A9 a7.length cz9))) (by simp [results, Try.results38, go_sem, c0, c1, c2', c3, c4, c5, c6, c7, c8, c9, c10, c11, c12, c13, c14, c15, cellsM]) rfl ?_
    rw [HP.out]
    exact HD.out.2
  have d0 : (a4 == 0) = false := by simpa using hc
  have HN0 := Lib.hid hc
  clear hc
  go_upto_region 40 with (fail)
  clear c0 c1 c2' c3 c4 c5 c6 c7 c8 c9 c10 c11 c12 c13 c14 c15
  have HP := Lib.hid (show (WM.partT 5 m s).1 = { m with boot := a2, seq := a3, code := a4 } by
    have hk := HKK.out
    simp [WM.partT, WM.askT, WM.replyT, WM.recallT, WM.doneT, WM.opT, hk, HA2.out, HA3.out, HA4.out, HN0.out])
  have HD := Lib.hid HT.out.done
  have HLD := Lib.hid (msg_range HT.out.kb)
  have HKZ := Lib.hid HT.out.kz
  have hv1 : ((.slice none 0 0) : Value).oneCell' = true := rfl
  go_wp2_with (first | (refine wpList_load_mid rfl 28 (.tmp 3) rfl w.heap.size 0 rfl (cellsM { m with boot := a2, seq := a3, code := a4 } (.slice none 0 0)).toList _ HLD.out Try.underlying28 rfl (by kernel_rfl) ?_) | (refine wpList_store_row rfl 28 (.tmp 4) (.tmp 112) rfl (w.heap.size + 1) (cellsM { m with boot := a2, seq := a3, code := a4 } (.slice none 0 0)) rfl rfl 28 _ HKZ.out (by kernel_rfl) rfl (by simp [cellsM, Value.oneCell']) ?_))
  generalize World.setRow _ _ _ = w6 at HD ⊢
  obtain ⟨c0, c1, c2', c3, c4, c5, c6, c7, c8, c9, c10, c11, c12, c13, c14, c15⟩ := msg_cells HD.out.1
  change bodyPost Try.prog _ _ Exit.ret _ _
  refine bodyPost_ret (v := .agg (cellsM { m with boot := a2, seq := a3, code := a4 } (.slice none 0 0))) (by simp [results, Try.results38, go_sem, c0, c1, c2', c3, c4, c5, c6, c7, c8, c9, c10, c11, c12, c13, c14, c15, cellsM]) rfl ?_
  rw [HP.out]
  exact HD.out.2
set_option maxHeartbeats 8000000 in
theorem fd6_3 (q B : Nat) (s : WM.St) (m : Msg) (w : World) (h : TkAt w q B s) (hB : B ≤ w.heap.size) (hq : q < w.heap.size) (hs : m.stamp = []) (hk : m.kind = 3) :
    Calls Try.prog 38 #[.pointer (some ⟨q, 0, none⟩), .agg (cellsM m (.slice none 0 0))] w (Fields6 w q (WM.partT 5 m s).1) := by
  have HKK := Lib.hid hk
  clear hk
  have HX := Lib.hid (((Below.refl _ w).alloc (Nat.le_refl _) (.cells (cellsM m (.slice none 0 0)) 28)).alloc (by simp) (.cells #[.int .i64 0, .int .i64 0, .int .i64 0, .int .i64 0, .int .i64 0, .int .i64 0, .int .i64 0, .string ⟨#[]⟩, .int .i64 0, .int .i64 0, .int .i64 0, .bool false, .int .i64 0, .slice none 0 0, .int .i64 0, .int .i64 0] 28))
  have HK := Lib.hid (show MsgBlk ((w.alloc (.cells (cellsM m (.slice none 0 0)) 28)).alloc (.cells #[.int .i64 0, .int .i64 0, .int .i64 0, .int .i64 0, .int .i64 0, .int .i64 0, .int .i64 0, .string ⟨#[]⟩, .int .i64 0, .int .i64 0, .int .i64 0, .bool false, .int .i64 0, .slice none 0 0, .int .i64 0, .int .i64 0] 28)) w.heap.size m (.slice none 0 0) from (Whole.new w 28 (cellsM m (.slice none 0 0))).alloc (.cells #[.int .i64 0, .int .i64 0, .int .i64 0, .int .i64 0, .int .i64 0, .int .i64 0, .int .i64 0, .string ⟨#[]⟩, .int .i64 0, .int .i64 0, .int .i64 0, .bool false, .int .i64 0, .slice none 0 0, .int .i64 0, .int .i64 0] 28))
  have HZ := Lib.hid (show MsgBlk ((w.alloc (.cells (cellsM m (.slice none 0 0)) 28)).alloc (.cells #[.int .i64 0, .int .i64 0, .int .i64 0, .int .i64 0, .int .i64 0, .int .i64 0, .int .i64 0, .string ⟨#[]⟩, .int .i64 0, .int .i64 0, .int .i64 0, .bool false, .int .i64 0, .slice none 0 0, .int .i64 0, .int .i64 0] 28)) (w.heap.size + 1) WM.zero (.slice none 0 0) from by have h := Whole.new (w.alloc (.cells (cellsM m (.slice none 0 0)) 28)) 28 (cellsM WM.zero (.slice none 0 0)); have e : (w.alloc (.cells (cellsM m (.slice none 0 0)) 28)).heap.size = w.heap.size + 1 := (by simp); rw [e] at h; exact h)
  have HT := Lib.hid (show FdSt w q B m (.slice none 0 0) s ((w.alloc (.cells (cellsM m (.slice none 0 0)) 28)).alloc (.cells #[.int .i64 0, .int .i64 0, .int .i64 0, .int .i64 0, .int .i64 0, .int .i64 0, .int .i64 0, .string ⟨#[]⟩, .int .i64 0, .int .i64 0, .int .i64 0, .bool false, .int .i64 0, .slice none 0 0, .int .i64 0, .int .i64 0] 28)) from ⟨HK.out, HZ.out, h.below HX.out, Mod.of_below HX.out [q], by rw [hs]; exact World.ownsRow_nil _ _ _ _, hq, hB, by simp⟩)
  clear h hB hq HX HK HZ
  go_enter Try.func38, Try.ntmps38
  go_upto_region 1 with (fail)
  generalize (w.alloc (.cells (cellsM m (.slice none 0 0)) 28)).alloc (.cells #[.int .i64 0, .int .i64 0, .int .i64 0, .int .i64 0, .int .i64 0, .int .i64 0, .int .i64 0, .string ⟨#[]⟩, .int .i64 0, .int .i64 0, .int .i64 0, .bool false, .int .i64 0, .slice none 0 0, .int .i64 0, .int .i64 0] 28) = w1 at HT ⊢
  obtain ⟨c0, c1, c2', c3, c4, c5, c6, c7, c8, c9, c10, c11, c12, c13, c14, c15⟩ := msg_cells HT.out.kb
  rw [HKK.out] at c0
  go_wp2_with fail
  refine (r6_tnum q B s _ HT.out.tk).mono ?_
  rintro e x2 ⟨rfl, h2, hm2⟩
  have HT2 := Lib.hid (HT.out.num h2 hm2)
  clear h2 hm2 HT c0 c1 c2' c3 c4 c5 c6 c7 c8 c9 c10 c11 c12 c13 c14 c15
  generalize ha : WM.tnum s = t2 at HT2 ⊢
  obtain ⟨a2, s2⟩ := t2
  have HA2 := Lib.hid ha
  clear ha
  dsimp only at HT2 ⊢
  obtain ⟨c0, c1, c2', c3, c4, c5, c6, c7, c8, c9, c10, c11, c12, c13, c14, c15⟩ := msg_cells HT2.out.kb
  have f10 := HT2.out.kb.frozen 10
  go_upto_region 29 with (fail)
  have HT := Lib.hid (HT2.out.store (i := 10) (x := .int .i64 a2) (m' := { m with id := a2 }) rfl rfl)
  clear HT2 f10 c0 c1 c2' c3 c4 c5 c6 c7 c8 c9 c10 c11 c12 c13 c14 c15
  generalize World.setCell _ _ _ = w3 at HT ⊢
  obtain ⟨c0, c1, c2', c3, c4, c5, c6, c7, c8, c9, c10, c11, c12, c13, c14, c15⟩ := msg_cells HT.out.kb
  go_wp2_with fail
  refine (r6_ttext q B s2 _ HT.out.tk).mono ?_
  rintro e x3 ⟨rfl, h2, hm2⟩
  have HT2 := Lib.hid (HT.out.num h2 hm2)
  clear h2 hm2 HT c0 c1 c2' c3 c4 c5 c6 c7 c8 c9 c10 c11 c12 c13 c14 c15
  generalize ha : WM.ttext s2 = t3 at HT2 ⊢
  obtain ⟨a3, s3⟩ := t3
  have HA3 := Lib.hid ha
  clear ha
  dsimp only at HT2 ⊢
  obtain ⟨c0, c1, c2', c3, c4, c5, c6, c7, c8, c9, c10, c11, c12, c13, c14, c15⟩ := msg_cells HT2.out.kb
  have f7 := HT2.out.kb.frozen 7
  go_upto_region 30 with (fail)
  have HT := Lib.hid (HT2.out.store (i := 7) (x := .string a3) (m' := { m with id := a2, path := a3 }) rfl rfl)
  clear HT2 f7 c0 c1 c2' c3 c4 c5 c6 c7 c8 c9 c10 c11 c12 c13 c14 c15
  generalize World.setCell _ _ _ = w4 at HT ⊢
  obtain ⟨c0, c1, c2', c3, c4, c5, c6, c7, c8, c9, c10, c11, c12, c13, c14, c15⟩ := msg_cells HT.out.kb
  go_wp2_with fail
  refine (r6_tnum q B s3 _ HT.out.tk).mono ?_
  rintro e x4 ⟨rfl, h2, hm2⟩
  have HT2 := Lib.hid (HT.out.num h2 hm2)
  clear h2 hm2 HT c0 c1 c2' c3 c4 c5 c6 c7 c8 c9 c10 c11 c12 c13 c14 c15
  generalize ha : WM.tnum s3 = t4 at HT2 ⊢
  obtain ⟨a4, s4⟩ := t4
  have HA4 := Lib.hid ha
  clear ha
  dsimp only at HT2 ⊢
  obtain ⟨c0, c1, c2', c3, c4, c5, c6, c7, c8, c9, c10, c11, c12, c13, c14, c15⟩ := msg_cells HT2.out.kb
  have f14 := HT2.out.kb.frozen 14
  go_upto_region 31 with (fail)
  have HT := Lib.hid (HT2.out.store (i := 14) (x := .int .i64 a4) (m' := { m with id := a2, path := a3, origin := a4 }) rfl rfl)
  clear HT2 f14 c0 c1 c2' c3 c4 c5 c6 c7 c8 c9 c10 c11 c12 c13 c14 c15
  generalize World.setCell _ _ _ = w5 at HT ⊢
  obtain ⟨c0, c1, c2', c3, c4, c5, c6, c7, c8, c9, c10, c11, c12, c13, c14, c15⟩ := msg_cells HT.out.kb
  go_wp2_with fail
  refine (r6_tnum q B s4 _ HT.out.tk).mono ?_
  rintro e x5 ⟨rfl, h2, hm2⟩
  have HT2 := Lib.hid (HT.out.num h2 hm2)
  clear h2 hm2 HT c0 c1 c2' c3 c4 c5 c6 c7 c8 c9 c10 c11 c12 c13 c14 c15
  generalize ha : WM.tnum s4 = t5 at HT2 ⊢
  obtain ⟨a5, s5⟩ := t5
  have HA5 := Lib.hid ha
  clear ha
  dsimp only at HT2 ⊢
  obtain ⟨c0, c1, c2', c3, c4, c5, c6, c7, c8, c9, c10, c11, c12, c13, c14, c15⟩ := msg_cells HT2.out.kb
  have f15 := HT2.out.kb.frozen 15
  go_upto_region 40 with (fail)
  have HT := Lib.hid (HT2.out.store (i := 15) (x := .int .i64 a5) (m' := { m with id := a2, path := a3, origin := a4, number := a5 }) rfl rfl)
  clear HT2 f15 c0 c1 c2' c3 c4 c5 c6 c7 c8 c9 c10 c11 c12 c13 c14 c15
  generalize World.setCell _ _ _ = w6 at HT ⊢
  obtain ⟨c0, c1, c2', c3, c4, c5, c6, c7, c8, c9, c10, c11, c12, c13, c14, c15⟩ := msg_cells HT.out.kb
  go_upto_region 40 with (fail)
  clear c0 c1 c2' c3 c4 c5 c6 c7 c8 c9 c10 c11 c12 c13 c14 c15
  have HP := Lib.hid (show (WM.partT 5 m s).1 = { m with id := a2, path := a3, origin := a4, number := a5 } by
    have hk := HKK.out
    simp [WM.partT, WM.askT, WM.replyT, WM.recallT, WM.doneT, WM.opT, hk, HA2.out, HA3.out, HA4.out, HA5.out])
  have HD := Lib.hid HT.out.done
  have HLD := Lib.hid (msg_range HT.out.kb)
  have HKZ := Lib.hid HT.out.kz
  have hv1 : ((.slice none 0 0) : Value).oneCell' = true := rfl
  go_wp2_with (first | (refine wpList_load_mid rfl 28 (.tmp 3) rfl w.heap.size 0 rfl (cellsM { m with id := a2, path := a3, origin := a4, number := a5 } (.slice none 0 0)).toList _ HLD.out Try.underlying28 rfl (by kernel_rfl) ?_) | (refine wpList_store_row rfl 28 (.tmp 4) (.tmp 112) rfl (w.heap.size + 1) (cellsM { m with id := a2, path := a3, origin := a4, number := a5 } (.slice none 0 0)) rfl rfl 28 _ HKZ.out (by kernel_rfl) rfl (by simp [cellsM, Value.oneCell']) ?_))
  generalize World.setRow _ _ _ = w6 at HD ⊢
  obtain ⟨c0, c1, c2', c3, c4, c5, c6, c7, c8, c9, c10, c11, c12, c13, c14, c15⟩ := msg_cells HD.out.1
  change bodyPost Try.prog _ _ Exit.ret _ _
  refine bodyPost_ret (v := .agg (cellsM { m with id := a2, path := a3, origin := a4, number := a5 } (.slice none 0 0))) (by simp [results, Try.results38, go_sem, c0, c1, c2', c3, c4, c5, c6, c7, c8, c9, c10, c11, c12, c13, c14, c15, cellsM]) rfl ?_
  rw [HP.out]
  exact HD.out.2
end Go.Proofs.Ytboflkadabagfaa
