/- A tick of the clocks. -/
import Derived.Test.YtbcpphckjfbkbaaClkW2
import Derived.Test.YtbcpphckjfbkbaaTermW6
namespace Go.Proofs.Ytbcpphckjfbkbaa
open Go.RowKit
open CK (Ck)
set_option linter.unusedVariables false
set_option linter.unusedSimpArgs false
set_option maxRecDepth 100000
section
variable {w : World} {g : Nat} {c : Ck}
theorem Tick_nil (w : World) (d : Int) (v : Value) :
    Calls Try.prog 10 #[.pointer none, .int .i64 d, v] w fun e w' => e = .returned (.int .i64 1) ∧ w = w' := by
  go_enter Try.func10, Try.ntmps10
  go_wp2_with fail
  go_ret
  exact ⟨rfl, rfl⟩
theorem Least_at (d a : Int) (w : World) (hd : -9223372036854775808 ≤ d ∧ d ≤ 9223372036854775807) (ha : -9223372036854775808 ≤ a ∧ a ≤ 9223372036854775807) {m : Int} (hm : (TM.least d a : Int) = m) :
    Calls Try.prog 24 #[.int .i64 d, .int .i64 a] w fun e w' => e = .returned (.int .i64 m) ∧ Below w.heap.size w w' := by
  subst hm
  exact (Tm.Least_any d a w hd ha).mono fun e w' h => ⟨h.1, h.2.below (Nat.le_refl _)⟩
set_option maxHeartbeats 2000000 in
theorem Tick_range (h : ClkAt w g c) (d : Int) (A : Option Addr) (n : Nat) (bs : List Int) (hA : IntsAt w A bs) (hl : bs.length ≤ n) (hn : n ≤ 9223372036854775807) (hd : -9223372036854775808 ≤ d ∧ d ≤ 9223372036854775807) (hi : In64 bs)
    (hb : bs.length ≠ c.ts.length ∨ d < 0 ∨ CK.neg bs = true) :
    Calls Try.prog 10 #[.pointer (some ⟨g, 0, none⟩), .int .i64 d, .slice A bs.length n] w fun e w' => e = .returned (.int .i64 2) ∧ Below w.heap.size w w' := by
  have HC := Lib.hid (Contains_any bs A n w hA hl hn hi)
  have c8 := h.size
  clear h hA
  by_cases h1 : bs.length = c.ts.length
  · by_cases h2 : d < 0
    · clear hb
      rw [← h1] at c8
      clear h1
      go_enter Try.func10, Try.ntmps10
      go_wp2_with fail
      go_ret
      exact ⟨rfl, Below.refl _ _⟩
    · have h3 : CK.neg bs = true := hb.elim (fun h => absurd h1 h) (fun h => h.elim (fun h => absurd h h2) id)
      rw [h3] at HC
      clear hb h3
      rw [← h1] at c8
      clear h1
      go_enter Try.func10, Try.ntmps10
      go_wp2_with (go_at_call 19; refine HC.out.mono ?_; rintro e w' ⟨rfl, hb⟩; have HB := Lib.hid hb; clear hb)
      go_ret
      exact ⟨rfl, HB.out⟩
  · clear hb
    have hne : ((bs.length : Int) == (c.ts.length : Int)) = false := beq_eq_false_iff_ne.2 (by omega)
    have hne' : ¬ (bs.length : Int) = (c.ts.length : Int) := by omega
    go_enter Try.func10, Try.ntmps10
    go_wp2_with fail
    go_ret
    exact ⟨rfl, Below.refl _ _⟩
set_option maxHeartbeats 2000000 in
theorem Tick_time (h : ClkAt w g c) (d : Int) (A : Option Addr) (n : Nat) (bs : List Int) (hA : IntsAt w A bs) (hl : bs.length ≤ n) (hn : n ≤ 9223372036854775807) (hd : 0 ≤ d ∧ d ≤ 9223372036854775807) (hi : In64 bs)
    (h1 : bs.length = c.ts.length) (h3 : CK.neg bs = false) (hb : CK.late c.tr d = true ∨ CK.lateAny c.ts bs = true) :
    Calls Try.prog 10 #[.pointer (some ⟨g, 0, none⟩), .int .i64 d, .slice A bs.length n] w fun e w' => e = .returned (.int .i64 30) ∧ Below w.heap.size w w' := by
  have HC := Lib.hid (Contains_any bs A n w hA hl hn hi)
  rw [h3] at HC
  have H := Lib.hid h
  have HA := Lib.hid hA
  have HL := Lib.hid h1
  have HI := Lib.hid hi
  have c8 := h.size
  rw [← h1] at c8
  clear h hA h1 h3 hi
  obtain ⟨hd0, hd1⟩ := hd
  cases hq : CK.late c.tr d with
  | true =>
    clear hb
    have HP := Lib.hid (fun w' => passesEnd_any c.tr d w' H.out.ok.tr ⟨by omega, hd1⟩)
    rw [hq] at HP
    clear hq
    go_enter Try.func10, Try.ntmps10
    go_wp2_with (go_at_call 19; refine HC.out.mono ?_; rintro e w' ⟨rfl, hb⟩; have c9 := (H.out.below hb).tr; have HB := Lib.hid hb; clear hb)
    refine (HP.out _).mono ?_
    rintro e w2 ⟨rfl, rfl⟩
    go_wp2_with fail
    go_ret
    exact ⟨rfl, HB.out⟩
  | false =>
    have h4 : CK.lateAny c.ts bs = true := hb.resolve_left (by rw [hq]; decide)
    have HP := Lib.hid (fun w' => passesEnd_any c.tr d w' H.out.ok.tr ⟨by omega, hd1⟩)
    rw [hq] at HP
    clear hq hb
    have HQ := Lib.hid h4
    clear h4
    go_enter Try.func10, Try.ntmps10
    go_wp2_with (go_at_call 19; refine HC.out.mono ?_; rintro e w' ⟨rfl, hb⟩; have c9 := (H.out.below hb).tr; have HB := Lib.hid hb; clear hb)
    refine (HP.out _).mono ?_
    rintro e w2 ⟨rfl, rfl⟩
    go_wp2_with fail
    refine (anyPassesEnd_any (H.out.below HB.out) A n bs (HA.out.below HB.out) HL.out HI.out).mono ?_
    rintro e w2 ⟨rfl, rfl⟩
    rw [HQ.out]
    go_wp2_with fail
    go_ret
    exact ⟨rfl, HB.out⟩
set_option maxHeartbeats 4000000 in
theorem Tick_ok (h : ClkAt w g c) (d : Int) (A : Option Addr) (n : Nat) (bs : List Int) (hA : IntsAt w A bs) (hG : ∀ ad, A = some ad → ad.block ≠ g) (hl : bs.length ≤ n) (hn : n ≤ 9223372036854775807) (hd : 0 ≤ d ∧ d ≤ 9223372036854775807) (hi : In64 bs)
    (h1 : bs.length = c.ts.length) (h3 : CK.neg bs = false) (h4 : CK.late c.tr d = false) (h5 : CK.lateAny c.ts bs = false) :
    Calls Try.prog 10 #[.pointer (some ⟨g, 0, none⟩), .int .i64 d, .slice A bs.length n] w fun e w' => e = .returned (.int .i64 0) ∧ Hid (ClkAt w' g (CK.go c d bs)) ∧ Hid (Mod [g] w w') := by
  have HC := Lib.hid (Contains_any bs A n w hA hl hn hi)
  rw [h3] at HC
  have H := Lib.hid h
  have HA := Lib.hid hA
  have HG := Lib.hid hG
  have HL := Lib.hid h1
  have HI := Lib.hid hi
  have HNG := Lib.hid h3
  have HLA := Lib.hid h5
  have hltr := CK.late_not.1 h4
  have htr := h.ok.tr
  have h8 : bs.length ≤ 8 := by have := h.ok.le; omega
  have c8 := h.size
  rw [← h1] at c8
  clear h hA h1 h3 hi h5 hG
  obtain ⟨hd0, hd1⟩ := hd
  have HP := Lib.hid (fun w' => passesEnd_any c.tr d w' H.out.ok.tr ⟨by omega, hd1⟩)
  rw [h4] at HP
  have HW := Lib.hid (show IntKind.i64.wrap (c.tr + d) = c.tr + d by rw [IntKind.wrap_i64]; omega)
  have HTR := Lib.hid (show 0 ≤ c.tr + d ∧ c.tr + d ≤ 1152921504606846976 by omega)
  clear h4 hltr htr
  go_enter Try.func10, Try.ntmps10
  go_wp2_with (go_at_call 19; refine HC.out.mono ?_; rintro e w' ⟨rfl, hb⟩; have c9 := (H.out.below hb).tr; have HB := Lib.hid hb; clear hb)
  refine (HP.out _).mono ?_
  rintro e w2 ⟨rfl, rfl⟩
  go_wp2_with fail
  have H1 := Lib.hid (H.out.below HB.out)
  refine (anyPassesEnd_any H1.out A n bs (HA.out.below HB.out) HL.out HI.out).mono ?_
  rintro e w2 ⟨rfl, rfl⟩
  rw [HLA.out]
  have f9 := H1.out.mem.frozen 9
  have hw := HW.out
  go_wp2_with fail
  clear c8 c9 f9 hw
  have H2 := Lib.hid (H1.out.set_true HTR.out)
  have HM2 := Lib.hid ((Mod.of_below HB.out [g]).store (p := ⟨g, 9, none⟩) (.inl (by simp)) (.int .i64 (c.tr + d)))
  have HA2 := Lib.hid (HA.out.mod HM2.out (fun ad e => by simpa using HG.out ad e))
  generalize World.setCell _ ⟨g, 9, none⟩ (.int .i64 (c.tr + d)) = w2 at *
  refine (goOn_any H2.out A n bs HA2.out HG.out HL.out HNG.out HLA.out).mono ?_
  rintro e w3 ⟨rfl, H3, hm⟩
  have HM3 := Lib.hid (HM2.out.trans hm.out (by simp))
  clear hm H2 HM2 HA2 HB HP HC
  go_wp2_with fail
  go_loopw [8, 55] (fun _ i wr => ∃ k : Nat, i = .int .i64 (k : Int) ∧ k ≤ bs.length ∧ Hid (ClkAt wr g ⟨List.zipWith (· + ·) c.ts bs, c.tr + d, CK.drift d c.dr (bs.take k)⟩) ∧ Hid (Mod [g] w wr)) (fun _ i _ => bs.length - (intOf i).toNat)
  case atStart => exact ⟨0, rfl, Nat.zero_le _, H3, HM3⟩
  case round =>
    clear H3 HM3
    obtain ⟨k, rfl, hk, HK, HM⟩ := hrel
    by_cases hlt : k < bs.length
    · obtain ⟨b, o, eA, hb, hcell0⟩ := ints_cell HA.out hlt
      have hcell : wr.cell? ⟨b, o + k, none⟩ = some (.int .i64 bs[k]) := (HM.out.cell (p := ⟨b, o + k, none⟩) hb (by simpa using HG.out _ eA)).trans hcell0
      subst eA
      clear hcell0
      have HT := Lib.hid (CK.drift_take (d := d) (r := c.dr) hlt)
      have HR := Lib.hid (CK.drift_range d (bs.take k) c.dr H.out.ok.dr)
      have HIK := Lib.hid (HI.out _ (List.getElem_mem hlt))
      have HR2 := Lib.hid (CK.drift_range d (bs.take (k + 1)) c.dr H.out.ok.dr)
      rw [HT.out] at HR2
      have c10 : wr.cell? ⟨g, 10, none⟩ = some (.int .i64 (CK.drift d c.dr (bs.take k))) := HK.out.dr
      have f10 := HK.out.mem.frozen 10
      obtain ⟨m, hm⟩ : ∃ m, (TM.least d bs[k] : Int) = m := ⟨_, rfl⟩
      have HLE := Lib.hid (Least_at d bs[k] wr.drew ⟨by omega, hd1⟩ HIK.out hm)
      rw [hm] at HT HR2
      clear hm
      generalize hx : bs[k] = x at hcell HLE HT HIK
      clear hx
      go_wp2_with fail
      generalize CK.drift d c.dr (bs.take k) = r at *
      have c10' : wr.drew.cell? ⟨g, 10, none⟩ = some (.int .i64 r) := c10
      go_region_with (go_at_call 24; refine HLE.out.mono ?_; rintro e w5 ⟨rfl, hb5⟩
                      have HX5 := Lib.hid (HK.out.drew.below hb5)
                      have HM5 := Lib.hid (HM.out.drew.trans (Mod.of_below hb5 [g]) (by simp))
                      have c105 : w5.cell? ⟨g, 10, none⟩ = some (.int .i64 r) := HX5.out.dr
                      have f105 := HX5.out.mem.frozen 10
                      clear hb5)
      all_goals
        go_wp2_with fail
        go_roundw
        case rel => exact ⟨k + 1, rfl, by omega, Lib.hid (by rw [HT.out]; exact HX5.out.set_drift HR2.out), Lib.hid (HM5.out.store (p := ⟨g, 10, none⟩) (.inl (by simp)) _)⟩
        case measure => simp only [intOf]; omega
    · have HE := HK.out
      rw [List.take_of_length_le (by omega)] at HE
      have HE := Lib.hid HE
      go_wp2_with fail
      go_ret
      exact ⟨rfl, HE, HM⟩
/-- A tick, whatever it is. -/
theorem Tick_any (h : ClkAt w g c) (d : Int) (A : Option Addr) (n : Nat) (bs : List Int) (hA : IntsAt w A bs) (hG : ∀ ad, A = some ad → ad.block ≠ g) (hl : bs.length ≤ n) (hn : n ≤ 9223372036854775807) (hd : -9223372036854775808 ≤ d ∧ d ≤ 9223372036854775807) (hi : In64 bs) :
    Calls Try.prog 10 #[.pointer (some ⟨g, 0, none⟩), .int .i64 d, .slice A bs.length n] w fun e w' => e = .returned (.int .i64 (CK.err c d bs)) ∧ Hid (ClkAt w' g (CK.step c d bs)) ∧ Hid (Mod [g] w w') := by
  by_cases h1 : bs.length ≠ c.ts.length ∨ d < 0 ∨ CK.neg bs = true
  · have e1 := CK.err_range h1
    rw [CK.step_no (by rw [e1]; decide), e1]
    exact (Tick_range h d A n bs hA hl hn hd hi h1).mono fun e w' k => ⟨k.1, Lib.hid (h.below k.2), Lib.hid (Mod.of_below k.2 _)⟩
  have e1 : bs.length = c.ts.length := Classical.byContradiction fun e => h1 (.inl e)
  have e2 : 0 ≤ d := by have : ¬ d < 0 := fun e => h1 (.inr (.inl e)); omega
  have e3 : CK.neg bs = false := by cases e : CK.neg bs with | false => rfl | true => exact absurd (.inr (.inr e)) h1
  by_cases h2 : CK.late c.tr d = true ∨ CK.lateAny c.ts bs = true
  · have e4 := CK.err_time e1 e2 e3 h2
    rw [CK.step_no (by rw [e4]; decide), e4]
    exact (Tick_time h d A n bs hA hl hn ⟨e2, hd.2⟩ hi e1 e3 h2).mono fun e w' k => ⟨k.1, Lib.hid (h.below k.2), Lib.hid (Mod.of_below k.2 _)⟩
  · have e4 : CK.late c.tr d = false := by cases e : CK.late c.tr d with | false => rfl | true => exact absurd (.inl e) h2
    have e5 : CK.lateAny c.ts bs = false := by cases e : CK.lateAny c.ts bs with | false => rfl | true => exact absurd (.inr e) h2
    have e6 := CK.err_ok.2 ⟨e1, e2, e3, e4, e5⟩
    rw [CK.step_ok e6, e6]
    exact Tick_ok h d A n bs hA hG hl hn ⟨e2, hd.2⟩ hi e1 e3 e4 e5
end
end Go.Proofs.Ytbcpphckjfbkbaa
