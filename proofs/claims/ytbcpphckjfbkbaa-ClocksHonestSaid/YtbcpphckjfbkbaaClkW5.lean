/- The document's clocks: New, Tick, At. -/
import Derived.Test.YtbcpphckjfbkbaaClkW4
import Derived.Test.YtbcpphckjfbkbaaTermW6
namespace Go.Proofs.Ytbcpphckjfbkbaa
open Go.RowKit
open CK (Ck)
set_option linter.unusedVariables false
set_option linter.unusedSimpArgs false
set_option maxRecDepth 100000
/-- The document's clocks as three cells: true time, the clocks' times, the drift. -/
def rv (c : Ck) (A : Option Addr) (n : Nat) : Array Value := #[.int .i64 c.tr, .slice A c.ts.length n, .int .i64 c.dr]
structure RefAt (w : World) (A : Option Addr) (n : Nat) (c : Ck) : Prop where
  ints : IntsAt w A c.ts
  le : c.ts.length ≤ n
  cap : n ≤ 9223372036854775807
  ok : CK.Sound c
theorem RefAt.below {w w' : World} {A : Option Addr} {n : Nat} {c : Ck} (h : RefAt w A n c) (hb : Below w.heap.size w w') : RefAt w' A n c := ⟨h.ints.below hb, h.le, h.cap, h.ok⟩
theorem RefAt.mod {F : List Nat} {w w' : World} {A : Option Addr} {n : Nat} {c : Ck} (h : RefAt w A n c) (hm : Mod F w w') (hn : ∀ ad, A = some ad → ad.block ∉ F) : RefAt w' A n c := ⟨h.ints.mod hm hn, h.le, h.cap, h.ok⟩
theorem mod3 (w : World) (b o0 o1 o2 : Nat) (u0 u1 u2 : Value) : Mod [b] w (((w.setCell ⟨b, o0, none⟩ u0).setCell ⟨b, o1, none⟩ u1).setCell ⟨b, o2, none⟩ u2) :=
  (((Mod.refl [b] w).store (p := ⟨b, o0, none⟩) (.inl (by simp)) u0).store (p := ⟨b, o1, none⟩) (.inl (by simp)) u1).store (p := ⟨b, o2, none⟩) (.inl (by simp)) u2
theorem own_at {w : World} {B n c : Nat} {A : Option Addr} {xs : List Value} (h : w.ownsRow B 3 1 (.slice A n c) n xs) : ∀ ad, A = some ad → B ≤ ad.block ∧ ad.block < w.heap.size := by
  intro ad e
  subst e
  rcases h.2 with ⟨e, _⟩ | ⟨g, cap, cur, e, _⟩
  · cases e
  · injection e with e1
    injection e1 with e1
    subst e1
    exact h.lt g rfl
/-- What a call of the document's answers: clocks and a number. -/
def Out (w : World) (A : Option Addr) (c' : Ck) (er : Int) : Ending → World → Prop := fun e w' =>
  ∃ A' n', e = .returned (.tuple #[.agg (rv c' A' n'), .int .i64 er]) ∧ Hid (RefAt w' A' n' c') ∧ Hid (Below w.heap.size w w') ∧ Hid (∀ ad, A' = some ad → w.heap.size ≤ ad.block ∨ A = some ad)
theorem ref_exit {w wr : World} {A : Option Addr} {n b : Nat} {c : Ck} (hR : RefAt wr A n c) (hb : Below w.heap.size w wr) (h1 : w.heap.size ≤ b) (hA : ∀ ad, A = some ad → ad.block ≠ b) (u0 u1 u2 : Value) :
    RefAt (((wr.setCell ⟨b, 0, none⟩ u0).setCell ⟨b, 1, none⟩ u1).setCell ⟨b, 2, none⟩ u2) A n c ∧ Below w.heap.size w (((wr.setCell ⟨b, 0, none⟩ u0).setCell ⟨b, 1, none⟩ u1).setCell ⟨b, 2, none⟩ u2) :=
  ⟨hR.mod (mod3 wr b 0 1 2 u0 u1 u2) (fun ad e => by simpa using hA ad e), hb.trans ((mod3 wr b 0 1 2 u0 u1 u2).below hb.size (by simpa using h1))⟩
theorem zeros_len (k : Nat) : (List.replicate k (0 : Int)).length = k := List.length_replicate
set_option maxHeartbeats 2000000 in
theorem RefNew_ok (n : Nat) (w : World) (h : 1 ≤ n ∧ n ≤ 8) :
    Calls Try.prog 13 #[.int .i64 (n : Int)] w fun e w' => ∃ A m, e = .returned (.tuple #[.agg #[.int .i64 0, .slice A n m, .int .i64 0], .int .i64 0]) ∧ Hid (RefAt w' A m (CK.zero n)) ∧ Hid (Below w.heap.size w w') ∧ Hid (∀ ad, A = some ad → w.heap.size ≤ ad.block) := by
  have HS := Lib.hid (CK.zero_sound h.1 h.2)
  obtain ⟨h1, h8⟩ := h
  have HX := Lib.hid ((Below.refl _ w).alloc (Nat.le_refl _) (.cells #[.int .i64 0, .slice none 0 0, .int .i64 0] 33))
  have HW := Lib.hid (Whole.new w 33 #[.int .i64 0, .slice none 0 0, .int .i64 0])
  go_enter Try.func13, Try.ntmps13
  go_wp2_with fail
  generalize w.alloc (.cells #[.int .i64 0, .slice none 0 0, .int .i64 0] 33) = w0 at HX HW ⊢
  go_loopw [4, 5] (fun v i wr => ∃ k : Nat, i = .int .i64 (k : Int) ∧ k ≤ n ∧ Hid (Grew w0 (List.replicate k 0) v wr)) (fun _ i _ => n - (intOf i).toNat)
  case atStart => exact ⟨0, rfl, Nat.zero_le _, Lib.hid (Grew.nil w0)⟩
  case round =>
    obtain ⟨k, rfl, hk, HG⟩ := hrel
    by_cases hlt : k < n
    · have HL := Lib.hid (show ((List.replicate k (0 : Int)).length + 1) * 8 ≤ 140737488355328 by rw [zeros_len]; omega)
      go_wp2_with (at_builtin; refine app_one rfl (.tmp 18) (.tmp 19) rfl _ _ HG.out rfl 0 rfl HL.out ?_; intro v2 w5 hg2; rw [← List.replicate_succ'] at hg2; have HG5 := Lib.hid hg2; clear hg2)
      go_roundw
      case rel => exact ⟨k + 1, rfl, by omega, HG5⟩
      case measure => simp only [intOf]; omega
    · have e : k = n := by omega
      subst e
      obtain ⟨A, m, e, k1, k2⟩ := own_shape HG.out.1
      rw [zeros_len] at e k1
      subst e
      have HW2 := Lib.hid ((Mod.of_below HG.out.2 []).whole HW.out (by simp))
      have f0 := HW2.out.frozen 0
      have f1 := HW2.out.frozen 1
      have f2 := HW2.out.frozen 2
      have z0 : wr.cell? ⟨w.heap.size, 0, none⟩ = some (.int .i64 0) := HW2.out.cell 0
      have z1 : wr.cell? ⟨w.heap.size, 1, none⟩ = some (.slice none 0 0) := HW2.out.cell 1
      have z2 : wr.cell? ⟨w.heap.size, 2, none⟩ = some (.int .i64 0) := HW2.out.cell 2
      have HR := Lib.hid (show RefAt wr A m (CK.zero k) from ⟨IntsAt.own (base := w0.heap.size) (n := k) (c := m) (by have := HG.out.1; rw [zeros_len] at this; exact this), by show (List.replicate k (0 : Int)).length ≤ m; rw [zeros_len]; exact k1, k2, HS.out⟩)
      have HB := Lib.hid (below_on HX.out HG.out.2)
      have HA := Lib.hid (own_at (B := w0.heap.size) (n := k) (c := m) (by have := HG.out.1; rw [zeros_len] at this; exact this))
      have HZ := Lib.hid HW.out.lt
      clear HG HX HW
      go_wp2_with fail
      refine bodyPost_ret (v := .tuple #[.agg #[.int .i64 0, .slice A k m, .int .i64 0], .int .i64 0]) (by simp [results, Try.results13, go_sem, z0, z1, z2]) rfl ?_
      have hE := ref_exit (b := w.heap.size) HR.out HB.out (Nat.le_refl _) (fun ad e => by have := HA.out ad e; have := HZ.out; omega) (.int .i64 0) (.slice A k m) (.int .i64 0)
      exact ⟨A, m, rfl, Lib.hid hE.1, Lib.hid hE.2, Lib.hid (fun ad e => by have := HA.out ad e; have := HZ.out; omega)⟩
theorem RefNew_no (n : Int) (w : World) (h : n < 1 ∨ 8 < n) (hn : -9223372036854775808 ≤ n ∧ n ≤ 9223372036854775807) :
    Calls Try.prog 13 #[.int .i64 n] w fun e w' => e = .returned (.tuple #[.agg #[.int .i64 0, .slice none 0 0, .int .i64 0], .int .i64 2]) ∧ Below w.heap.size w w' := by
  have HX := Lib.hid ((Below.refl _ w).alloc (Nat.le_refl _) (.cells #[.int .i64 0, .slice none 0 0, .int .i64 0] 33))
  have HW := Lib.hid (Whole.new w 33 #[.int .i64 0, .slice none 0 0, .int .i64 0])
  rcases h with h | h
  all_goals
    go_enter Try.func13, Try.ntmps13
    go_upto_region 1 with (fail)
    generalize w.alloc (.cells #[.int .i64 0, .slice none 0 0, .int .i64 0] 33) = w0 at HX HW ⊢
    have f0 := HW.out.frozen 0
    have f1 := HW.out.frozen 1
    have f2 := HW.out.frozen 2
    have z0 : w0.cell? ⟨w.heap.size, 0, none⟩ = some (.int .i64 0) := HW.out.cell 0
    have z1 : w0.cell? ⟨w.heap.size, 1, none⟩ = some (.slice none 0 0) := HW.out.cell 1
    have z2 : w0.cell? ⟨w.heap.size, 2, none⟩ = some (.int .i64 0) := HW.out.cell 2
    go_wp2_with fail
    refine bodyPost_ret (v := .tuple #[.agg #[.int .i64 0, .slice none 0 0, .int .i64 0], .int .i64 2]) (by simp [results, Try.results13, go_sem, z0, z1, z2]) rfl ?_
    exact ⟨rfl, HX.out.trans ((mod3 w0 w.heap.size 0 1 2 _ _ _).below HX.out.size (by simp))⟩
/-- What a clock says. -/
theorem RefAt_any {w : World} {A : Option Addr} {n : Nat} {c : Ck} (h : RefAt w A n c) (k : Int) (hk : -9223372036854775808 ≤ k ∧ k ≤ 9223372036854775807) :
    Calls Try.prog 17 #[.agg #[.int .i64 c.tr, .slice A c.ts.length n, .int .i64 c.dr], .int .i64 k] w fun e w' => e = .returned (.int .i64 (CK.now c k)) ∧ Below w.heap.size w w' := by
  have HX := Lib.hid ((Below.refl _ w).alloc (Nat.le_refl _) (.cells (rv c A n) 33))
  have HW := Lib.hid (Whole.new w 33 (rv c A n))
  have H := Lib.hid (h.below HX.out)
  have hle := h.le
  have hcap := h.cap
  clear h
  by_cases h0 : k < 0
  · have HN := Lib.hid (CK.now_no (c := c) (.inl h0))
    go_enter Try.func17, Try.ntmps17
    go_wp2_with fail
    go_ret
    exact ⟨ret_int HN.out.symm, HX.out⟩
  have c1 : (w.alloc (.cells (rv c A n) 33)).cell? ⟨w.heap.size, 1, none⟩ = some (.slice A c.ts.length n) := HW.out.cell 1
  by_cases h1 : (c.ts.length : Int) ≤ k
  · have HN := Lib.hid (CK.now_no (c := c) (.inr h1))
    go_enter Try.func17, Try.ntmps17
    go_upto_region 1 with (fail)
    unfold rv at HX HW H c1
    generalize w.alloc (.cells #[.int .i64 c.tr, .slice A c.ts.length n, .int .i64 c.dr] 33) = w0 at HX HW c1 H ⊢
    go_wp2_with fail
    go_ret
    exact ⟨ret_int HN.out.symm, HX.out⟩
  obtain ⟨i, rfl⟩ : ∃ i : Nat, k = (i : Int) := ⟨k.toNat, by omega⟩
  have hi : i < c.ts.length := by omega
  have HN := Lib.hid (CK.now_at hi)
  obtain ⟨b, o, eA, hb, hcell⟩ := ints_cell H.out.ints hi
  subst eA
  generalize c.ts[i] = x at hcell HN
  go_enter Try.func17, Try.ntmps17
  go_upto_region 1 with (fail)
  unfold rv at HX HW H c1 hcell
  generalize w.alloc (.cells #[.int .i64 c.tr, .slice (some ⟨b, o, none⟩) c.ts.length n, .int .i64 c.dr] 33) = w0 at HX HW c1 H hcell ⊢
  go_wp2_with fail
  go_ret
  exact ⟨ret_int HN.out.symm, HX.out⟩
end Go.Proofs.Ytbcpphckjfbkbaa
