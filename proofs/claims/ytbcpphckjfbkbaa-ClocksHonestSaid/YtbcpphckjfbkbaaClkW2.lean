/- Would a clock pass its end; the clocks go on. -/
import Derived.Test.YtbcpphckjfbkbaaClkW1
namespace Go.Proofs.Ytbcpphckjfbkbaa
open Go.RowKit
open CK (Ck)
set_option linter.unusedVariables false
set_option linter.unusedSimpArgs false
set_option maxRecDepth 100000
section
variable {w : World} {g : Nat} {c : Ck}
theorem ints_cell {w : World} {A : Option Addr} {bs : List Int} (hA : IntsAt w A bs) {k : Nat} (hk : k < bs.length) : ∃ b o, A = some ⟨b, o, none⟩ ∧ b < w.heap.size ∧ w.cell? ⟨b, o + k, none⟩ = some (.int .i64 bs[k]) := by
  obtain ⟨b, o, e, hb, hc⟩ := hA (by omega)
  exact ⟨b, o, e, hb, hc k _ (List.getElem?_eq_getElem hk)⟩
set_option maxHeartbeats 2000000 in
theorem anyPassesEnd_any (h : ClkAt w g c) (A : Option Addr) (n : Nat) (bs : List Int) (hA : IntsAt w A bs) (hl : bs.length = c.ts.length) (hi : In64 bs) :
    Calls Try.prog 22 #[.pointer (some ⟨g, 0, none⟩), .slice A bs.length n] w fun e w' => e = .returned (.bool (CK.lateAny c.ts bs)) ∧ w = w' := by
  have H := Lib.hid h
  have HA := Lib.hid hA
  have HI := Lib.hid hi
  have HL := Lib.hid hl
  have h8 : bs.length ≤ 8 := by have := h.ok.le; omega
  clear h hA hi hl
  go_enter Try.func22, Try.ntmps22
  go_wp2_with fail
  go_loopw [5, 6, 9] (fun _ _ i wr => ∃ k : Nat, i = .int .i64 (k : Int) ∧ k ≤ bs.length ∧ wr = w ∧ Hid (∀ j (h1 : j < c.ts.length) (h2 : j < bs.length), j < k → CK.late c.ts[j] bs[j] = false)) (fun _ _ i _ => bs.length - (intOf i).toNat)
  case atStart => exact ⟨0, rfl, Nat.zero_le _, rfl, Lib.hid (fun j _ _ hj => absurd hj (Nat.not_lt_zero _))⟩
  case round =>
    obtain ⟨k, rfl, hk, rfl, HN⟩ := hrel
    by_cases hlt : k < bs.length
    · obtain ⟨b, o, eA, hb, hcell⟩ := ints_cell HA.out hlt
      subst eA
      have hkt : k < c.ts.length := by have := HL.out; omega
      have c0 := H.out.time hkt
      have HP := Lib.hid (passesEnd_any c.ts[k] bs[k] wr (H.out.ok.ts _ (List.getElem_mem _)) (HI.out _ (List.getElem_mem _)))
      have HT := Lib.hid (fun h => CK.lateAny_true hkt hlt h)
      have HX := Lib.hid (fun (h : CK.late c.ts[k] bs[k] = false) j (h1 : j < c.ts.length) (h2 : j < bs.length) (hjk : j < k + 1) => (show CK.late c.ts[j] bs[j] = false from if e : j = k then by subst e; exact h else HN.out j h1 h2 (by omega)))
      have hk8 : k < 8 := by omega
      generalize c.ts[k] = t at c0 HP HT HX
      generalize bs[k] = x at hcell HP HT HX
      cases hq : CK.late t x with
      | true =>
        rw [hq] at HP
        have HH := Lib.hid (HT.out hq)
        clear hq HX HT
        go_wp2_with (go_at_call 21; refine HP.out.mono ?_; rintro e w' ⟨rfl, rfl⟩)
        go_ret
        exact ⟨ret_bool HH.out.symm, rfl⟩
      | false =>
        rw [hq] at HP
        have HX' := Lib.hid (HX.out hq)
        clear hq HX HT
        go_wp2_with (go_at_call 21; refine HP.out.mono ?_; rintro e w' ⟨rfl, rfl⟩)
        go_roundw
        case rel => exact ⟨k + 1, rfl, by omega, trivial, HX'⟩
        case measure => simp only [intOf]; omega
    · have HE := Lib.hid (CK.lateAny_false (ts := c.ts) (bs := bs) (fun j h1 h2 => HN.out j h1 h2 (by omega)))
      go_wp2_with fail
      go_ret
      exact ⟨ret_bool HE.out.symm, rfl⟩
/-- The clocks with other times. -/
theorem ClkAt.set_time (h : ClkAt w g c) {i : Nat} (hi : i < c.ts.length) {x : Int} (hx : 0 ≤ x ∧ x ≤ 1152921504606846976) : ClkAt (w.setCell ⟨g, i, none⟩ (.int .i64 x)) g ⟨c.ts.set i x, c.tr, c.dr⟩ := by
  refine ⟨?_, by simpa using h.ok.one, by simpa using h.ok.le, fun t ht => ?_, h.ok.tr, h.ok.dr⟩
  · have := h.mem.store i (.int .i64 x)
    rwa [Proofs.Ytbcpphckjfbkbaa.set_time hi h.ok.le] at this
  · rcases List.mem_or_eq_of_mem_set ht with ht | ht
    · exact h.ok.ts t ht
    · subst ht; exact hx
theorem ClkAt.set_true (h : ClkAt w g c) {x : Int} (hx : 0 ≤ x ∧ x ≤ 1152921504606846976) : ClkAt (w.setCell ⟨g, 9, none⟩ (.int .i64 x)) g ⟨c.ts, x, c.dr⟩ := by
  refine ⟨?_, h.ok.one, h.ok.le, h.ok.ts, hx, h.ok.dr⟩
  have := h.mem.store 9 (.int .i64 x)
  rwa [Proofs.Ytbcpphckjfbkbaa.set_true h.ok.le] at this
theorem ClkAt.set_drift (h : ClkAt w g c) {x : Int} (hx : 0 ≤ x ∧ x ≤ 1000) : ClkAt (w.setCell ⟨g, 10, none⟩ (.int .i64 x)) g ⟨c.ts, c.tr, x⟩ := by
  refine ⟨?_, h.ok.one, h.ok.le, h.ok.ts, h.ok.tr, hx⟩
  have := h.mem.store 10 (.int .i64 x)
  rwa [Proofs.Ytbcpphckjfbkbaa.set_drift h.ok.le] at this
theorem ClkAt.drew (h : ClkAt w g c) : ClkAt w.drew g c := ⟨h.mem, h.ok⟩
/-- The first k clocks have gone on. -/
def Gone (ts bs us : List Int) (k : Nat) : Prop := us.length = ts.length ∧ ∀ i (h1 : i < ts.length) (h2 : i < bs.length), us[i]? = some (if i < k then ts[i] + bs[i] else ts[i])
theorem Gone.start (ts bs : List Int) : Gone ts bs ts 0 := ⟨rfl, fun i h1 h2 => by rw [if_neg (Nat.not_lt_zero _), List.getElem?_eq_getElem h1]⟩
theorem Gone.next {ts bs us : List Int} {k : Nat} (h : Gone ts bs us k) (h1 : k < ts.length) (h2 : k < bs.length) {x : Int} (hx : x = ts[k] + bs[k]) : Gone ts bs (us.set k x) (k + 1) := by
  refine ⟨by rw [List.length_set]; exact h.1, fun i i1 i2 => ?_⟩
  by_cases e : i = k
  · subst e
    rw [List.getElem?_set_self (by rw [h.1]; exact h1), if_pos (by omega), hx]
  · rw [List.getElem?_set_ne (fun x => e x.symm), h.2 i i1 i2]
    by_cases e2 : i < k
    · rw [if_pos e2, if_pos (by omega)]
    · rw [if_neg e2, if_neg (by omega)]
theorem Gone.here {ts bs us : List Int} {k : Nat} (h : Gone ts bs us k) (h1 : k < ts.length) (h2 : k < bs.length) (h3 : k < us.length) : us[k] = ts[k] := by
  have := h.2 k h1 h2
  rw [if_neg (Nat.lt_irrefl _), List.getElem?_eq_getElem h3] at this
  exact Option.some.inj this
theorem Gone.done {ts bs us : List Int} {k : Nat} (h : Gone ts bs us k) (hl : bs.length = ts.length) (hk : ts.length ≤ k) : us = List.zipWith (· + ·) ts bs :=
  CK.zip_eq hl h.1 fun i h1 h2 => by rw [h.2 i h1 h2, if_pos (by omega)]
set_option maxHeartbeats 4000000 in
theorem goOn_any (h : ClkAt w g c) (A : Option Addr) (n : Nat) (bs : List Int) (hA : IntsAt w A bs) (hG : ∀ ad, A = some ad → ad.block ≠ g) (hl : bs.length = c.ts.length) (hn : CK.neg bs = false) (hlt : CK.lateAny c.ts bs = false) :
    Calls Try.prog 23 #[.pointer (some ⟨g, 0, none⟩), .slice A bs.length n] w fun e w' => e = .returned (.tuple #[]) ∧ Hid (ClkAt w' g ⟨List.zipWith (· + ·) c.ts bs, c.tr, c.dr⟩) ∧ Hid (Mod [g] w w') := by
  have H := Lib.hid h
  have HA := Lib.hid hA
  have HG := Lib.hid hG
  have HN := Lib.hid hn
  have HT := Lib.hid hlt
  have HL := Lib.hid hl
  have h8 : bs.length ≤ 8 := by have := h.ok.le; omega
  clear h hA hG hn hlt hl
  go_enter Try.func23, Try.ntmps23
  go_wp2_with fail
  go_loopw [4, 5, 8] (fun _ _ i wr => ∃ (k : Nat) (us : List Int), i = .int .i64 (k : Int) ∧ k ≤ bs.length ∧ Hid (Gone c.ts bs us k) ∧ Hid (ClkAt wr g ⟨us, c.tr, c.dr⟩) ∧ Hid (Mod [g] w wr)) (fun _ _ i _ => bs.length - (intOf i).toNat)
  case atStart => exact ⟨0, c.ts, rfl, Nat.zero_le _, Lib.hid (Gone.start _ _), H, Lib.hid (Mod.refl _ _)⟩
  case round =>
    obtain ⟨k, us, rfl, hk, HGo, HC, HM⟩ := hrel
    by_cases hlt : k < bs.length
    · obtain ⟨b, o, eA, hb, hcell0⟩ := ints_cell HA.out hlt
      have hcell : wr.cell? ⟨b, o + k, none⟩ = some (.int .i64 bs[k]) := (HM.out.cell (p := ⟨b, o + k, none⟩) hb (by simpa using HG.out _ eA)).trans hcell0
      subst eA
      clear hcell0
      have hkt : k < c.ts.length := by have := HL.out; omega
      have hku : k < us.length := by rw [HGo.out.1]; exact hkt
      have c0 : wr.cell? ⟨g, k, none⟩ = some (.int .i64 c.ts[k]) := by
        have := HC.out.time (show k < (Ck.mk us c.tr c.dr).ts.length from hku)
        rwa [show (Ck.mk us c.tr c.dr).ts[k] = c.ts[k] from HGo.out.here hkt hlt hku] at this
      have e1 := CK.late_not.1 (CK.lateAny_not HT.out hkt hlt)
      have e2 := CK.neg_not HN.out _ (List.getElem_mem hlt)
      have e3 := H.out.ok.ts _ (List.getElem_mem hkt)
      have HX := Lib.hid (fun (x : Int) (hx : x = c.ts[k] + bs[k]) => And.intro (HGo.out.next hkt hlt hx) (HC.out.set_time (i := k) (x := x) hku (by omega)))
      have HW := Lib.hid (show IntKind.i64.wrap (c.ts[k] + bs[k]) = c.ts[k] + bs[k] by rw [IntKind.wrap_i64]; omega)
      have f0 := HC.out.mem.frozen k
      have hk8 : k < 8 := by omega
      clear e1 e2 e3
      generalize c.ts[k] = t at c0 HX HW
      generalize bs[k] = x at hcell HX HW
      go_wp2_with fail
      have hw := HW.out
      have HX' := Lib.hid (HX.out _ rfl)
      clear HX HW
      go_region
      go_wp2_with fail
      go_roundw
      case rel => exact ⟨k + 1, _, rfl, by omega, Lib.hid HX'.out.1, Lib.hid HX'.out.2.drew, Lib.hid (HM.out.store (p := ⟨g, k, none⟩) (.inl (by simp)) _).drew⟩
      case measure => simp only [intOf]; omega
    · have HE := HGo.out.done HL.out (by have := HL.out; omega)
      subst HE
      go_wp2_with fail
      go_end0
      exact ⟨rfl, HC, HM⟩
end
end Go.Proofs.Ytbcpphckjfbkbaa
