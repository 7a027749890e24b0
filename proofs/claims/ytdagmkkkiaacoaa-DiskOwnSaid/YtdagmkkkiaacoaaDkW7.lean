/- The package's From; the statement's bytes (filled). -/
import Derived.Test.YtdagmkkkiaacoaaDkW6
namespace Go.Proofs.Ytdagmkkkiaacoaa
open Go.RowKit
open By (BytesAt u8s own_shape)
set_option linter.unusedVariables false
set_option linter.unusedSimpArgs false
set_option maxRecDepth 100000
section
variable {w : World} {A : Option Addr} {ss : List (List UInt8)}
set_option maxHeartbeats 2000000 in
theorem Index_any (c : Nat) (hA : RowsAt w A ss) (hl : ss.length ≤ c) (hc : c ≤ 9223372036854775807) :
    Calls Try.prog 32 #[.slice A ss.length c, .func (.func 28) #[] #[]] w fun e w' => ∃ z : Int, e = .returned (.int .i64 z) ∧ Hid ((Fit ss ss.length → z = -1) ∧ (¬ Fit ss ss.length → 0 ≤ z)) ∧ w = w' := by
  have eg : ∀ args w, (callFunc 28 args).run Try.prog w = .ok (.enter 28 args) w := enters_of Try.func28 (by kernel_rfl) rfl
  have HA := Lib.hid hA
  clear hA
  go_enter Try.func32, Try.ntmps32
  go_wp2_with fail
  go_loopw [5, 8] (fun _ i wr => ∃ k : Nat, i = .int .i64 (k : Int) ∧ k ≤ ss.length ∧ Hid (w = wr) ∧ Hid (Fit ss k)) (fun _ i _ => ss.length - (intOf i).toNat)
  case atStart => exact ⟨0, rfl, Nat.zero_le _, Lib.hid rfl, Lib.hid (fun i x _ hi => absurd hi (Nat.not_lt_zero _))⟩
  case round =>
    obtain ⟨k, rfl, hk, HW, HF⟩ := hrel
    have hw := HW.out
    subst hw
    by_cases hlt : k < ss.length
    · obtain ⟨b, o, eA, hb, hca⟩ := HA.out (by omega)
      subst eA
      have HX := Lib.hid (List.getElem?_eq_getElem hlt)
      generalize ss[k] = x at HX
      obtain ⟨A1, c1, a0, hd⟩ := hca k x HX.out
      have hcall := isNo_any A1 x.length c1 w
      clear hca hd
      by_cases hx : x.length = 64
      · rw [decide_eq_true hx] at hcall
        have HC := Lib.hid hcall
        have HFF := Lib.hid (show Fit ss (k + 1) from fun i y hy hi => if e : i = k then by subst e; rw [HX.out] at hy; cases hy; exact hx else HF.out i y hy (by omega))
        clear hcall hx
        go_wp2_with (go_at_fn 28; refine HC.out.mono ?_; rintro e w' ⟨rfl, rfl⟩)
        go_roundw
        case rel => exact ⟨k + 1, rfl, by omega, Lib.hid trivial, HFF⟩
        case measure => simp only [intOf]; omega
      · rw [decide_eq_false hx] at hcall
        have HC := Lib.hid hcall
        have HN := Lib.hid (show ¬ Fit ss ss.length from fun hf => hx (hf k x HX.out hlt))
        clear hcall hx
        go_wp2_with (go_at_fn 28; refine HC.out.mono ?_; rintro e w' ⟨rfl, rfl⟩)
        go_ret
        exact ⟨(k : Int), rfl, Lib.hid ⟨fun hf => absurd hf HN.out, fun _ => by omega⟩, rfl⟩
    · obtain rfl : k = ss.length := by omega
      go_wp2_with fail
      go_ret
      exact ⟨-1, rfl, Lib.hid ⟨fun _ => rfl, fun hn => absurd HF.out hn⟩, rfl⟩
theorem Contains_any (c : Nat) (hA : RowsAt w A ss) (hl : ss.length ≤ c) (hc : c ≤ 9223372036854775807) :
    Calls Try.prog 27 #[.slice A ss.length c, .func (.func 28) #[] #[]] w fun e w' => ∃ b : Bool, e = .returned (.bool b) ∧ Hid ((Fit ss ss.length → b = false) ∧ (¬ Fit ss ss.length → b = true)) ∧ w = w' := by
  have HI := Lib.hid (Index_any c hA hl hc)
  clear hA
  go_enter Try.func27, Try.ntmps27
  go_wp2_with (refine HI.out.mono ?_; rintro e w' ⟨z, rfl, HZ, rfl⟩)
  go_ret
  exact ⟨_, rfl, Lib.hid ⟨fun hf => by rw [HZ.out.1 hf]; rfl, fun hn => decide_eq_true (HZ.out.2 hn)⟩, rfl⟩
/-- The first k sectors are in, the rest are zeros. -/
def mix (ss : List (List UInt8)) (k : Nat) : List (List UInt8) := ss.take k ++ List.replicate (ss.length - k) (List.replicate 64 0)
theorem mix_zero : mix ss 0 = (DK.zero ss.length).ss := by simp [mix, DK.zero]
theorem mix_all : mix ss ss.length = ss := by simp [mix]
theorem mix_len {k : Nat} (h : k ≤ ss.length) : (mix ss k).length = ss.length := by simp [mix]; omega
theorem mix_set {k : Nat} {x : List UInt8} (hx : ss[k]? = some x) : (mix ss k).set k x = mix ss (k + 1) := by
  obtain ⟨hk, rfl⟩ := List.getElem?_eq_some_iff.1 hx
  unfold mix
  have hl : (ss.take k).length = k := by rw [List.length_take]; omega
  rw [List.set_append_right _ _ (by omega), hl, Nat.sub_self, show ss.length - k = (ss.length - (k + 1)) + 1 by omega, List.replicate_succ, List.set_cons_zero, List.take_succ_eq_append_getElem hk, List.append_assoc]
  rfl
set_option maxHeartbeats 1000000 in
theorem From_size (c : Nat) (h : ss.length < 1 ∨ 512 < ss.length) (hl : ss.length ≤ 9223372036854775807) :
    Calls Try.prog 9 #[.slice A ss.length c] w fun e w' => e = .returned (.tuple #[.pointer none, .int .i64 2]) ∧ w = w' := by
  have HN := Lib.hid (New_no (ss.length : Int) w (by omega) (by omega))
  go_enter Try.func9, Try.ntmps9
  go_wp2_with (refine HN.out.mono ?_; rintro e w' ⟨rfl, rfl⟩)
  go_ret2
  exact ⟨rfl, rfl⟩
set_option maxHeartbeats 2000000 in
theorem From_no (c : Nat) (hA : RowsAt w A ss) (h : 1 ≤ ss.length ∧ ss.length ≤ 512) (hl : ss.length ≤ c) (hc : c ≤ 9223372036854775807) (hn : ¬ Fit ss ss.length) :
    Calls Try.prog 9 #[.slice A ss.length c] w fun e w' => e = .returned (.tuple #[.pointer none, .int .i64 2]) ∧ Hid (Below w.heap.size w w') := by
  have HN := Lib.hid (New_ok ss.length w h)
  have HX := Lib.hid ((Below.refl _ w).alloc (Nat.le_refl _) (.cells (disk0 ss.length) 59))
  have HC := Lib.hid (Contains_any (w := w.alloc (.cells (disk0 ss.length) 59)) c (hA.below HX.out) hl hc)
  have HF := Lib.hid hn
  clear hA hn h
  go_enter Try.func9, Try.ntmps9
  go_wp2_with (first
    | (refine HN.out.mono ?_; rintro e w' ⟨rfl, rfl⟩)
    | (refine HC.out.mono ?_; rintro e w' ⟨b, rfl, hb, rfl⟩; obtain rfl := hb.out.2 HF.out))
  go_ret2
  exact ⟨rfl, HX⟩
set_option maxHeartbeats 4000000 in
theorem From_ok (c : Nat) (hA : RowsAt w A ss) (h : 1 ≤ ss.length ∧ ss.length ≤ 512) (hl : ss.length ≤ c) (hc : c ≤ 9223372036854775807) (hn : Fit ss ss.length) :
    Calls Try.prog 9 #[.slice A ss.length c] w fun e w' => e = .returned (.tuple #[.pointer (some ⟨w.heap.size, 0, none⟩), .int .i64 0]) ∧ Hid (DkAt w' w.heap.size (DK.of ss)) ∧ Hid (Below w.heap.size w w') := by
  have HN := Lib.hid (New_ok ss.length w h)
  have HX := Lib.hid ((Below.refl _ w).alloc (Nat.le_refl _) (.cells (disk0 ss.length) 59))
  have HC := Lib.hid (Contains_any (w := w.alloc (.cells (disk0 ss.length) 59)) c (hA.below HX.out) hl hc)
  have HF := Lib.hid hn
  have HZ := Lib.hid (DkAt.zero h w)
  have HA := Lib.hid hA
  have HU := Lib.hid Try.underlying56
  obtain ⟨h1, h2⟩ := h
  clear hA hn
  go_enter Try.func9, Try.ntmps9
  go_wp2_with (first
    | (refine HN.out.mono ?_; rintro e w' ⟨rfl, rfl⟩)
    | (refine HC.out.mono ?_; rintro e w' ⟨b, rfl, hb, rfl⟩; obtain rfl := hb.out.1 HF.out))
  go_loopw [6, 7, 22] (fun _ _ i wr => ∃ k : Nat, i = .int .i64 (k : Int) ∧ k ≤ ss.length ∧ Hid (DkAt wr w.heap.size (DK.of (mix ss k))) ∧ Hid (Below w.heap.size w wr)) (fun _ _ i _ => ss.length - (intOf i).toNat)
  case atStart => exact ⟨0, rfl, Nat.zero_le _, Lib.hid (by rw [mix_zero]; exact HZ.out), HX⟩
  case round =>
    obtain ⟨k, rfl, hk, HD, HB⟩ := hrel
    by_cases hlt : k < ss.length
    · have HX1 := Lib.hid (List.getElem?_eq_getElem hlt)
      generalize ss[k] = x at HX1
      obtain ⟨b, o, eA, hb, hca⟩ := HA.out (by omega)
      subst eA
      obtain ⟨A1, c1, a0, hd⟩ := hca k x HX1.out
      have hx := HF.out k x HX1.out hlt
      have a1 : wr.cell? ⟨b, o + k, none⟩ = some (.slice A1 x.length c1) := (HB.out.cell (p := ⟨b, o + k, none⟩) hb).trans a0
      obtain ⟨b2, o2, eA2, hb2, hrg⟩ := BytesAt.range hd (by omega)
      subst eA2
      have hrg2 : wr.rangeAt b2 o2 (u8s x) := fun j v hv => (HB.out.cell (p := ⟨b2, o2 + j, none⟩) hb2).trans (hrg j v hv)
      have hml : (DK.of (mix ss k)).ss.length = ss.length := mix_len hk
      have hk5 : (k : Int) < 512 := by omega
      have hle : (DK.of (mix ss k)).ss.length ≤ 512 := by omega
      have hkm : k < (DK.of (mix ss k)).ss.length := by omega
      have hsp : ∀ w', (Instr.arrayAt 56 (.slice (some ⟨b2, o2, none⟩) 64 c1)).run Try.prog w' = .ok (.pointer (some ⟨b2, o2, none⟩)) w' := fun w' => by
        unfold Instr.arrayAt
        rw [Sem.run_bind, run_underlying HU.out w']
        rfl
      have hl64 : (u8s x).length = 64 := (By.u8s_len _).trans hx
      have hne : b2 ≠ w.heap.size := by omega
      have HDN := Lib.hid (show DkAt (wr.drew.setCells w.heap.size (k * 64) (u8s x)) w.heap.size (DK.of (mix ss (k + 1))) ∧ Mod [w.heap.size] wr (wr.drew.setCells w.heap.size (k * 64) (u8s x)) by
        have h' : DkAt wr.drew w.heap.size (DK.of (mix ss k)) := ⟨HD.out.ex, HD.out.ok⟩
        have := h'.setRow hkm hx
        rw [show (⟨(DK.of (mix ss k)).ss.set k x, (DK.of (mix ss k)).wr, (DK.of (mix ss k)).off, (DK.of (mix ss k)).am⟩ : Dk) = DK.of (mix ss (k + 1)) by show Dk.mk ((mix ss k).set k x) 0 false (-1) = _; rw [mix_set HX1.out]; rfl] at this
        exact ⟨this.1, ((Mod.refl [w.heap.size] wr).drew).trans this.2 (fun x hx => .inl hx)⟩)
      have HT0 := Lib.hid (show wr.drew.there w.heap.size (k * 64) 64 from HD.out.there (by omega))
      have HK1 := Lib.hid (World.rangeAt_setCells_apart (show wr.drew.rangeAt b2 o2 (u8s x) from hrg2) w.heap.size (k * 64) (u8s x) (.inl hne))
      have HK2 := Lib.hid (World.there_setCells HT0.out w.heap.size (k * 64) (u8s x))
      have h1c := By.one_u8 (l := x)
      have hb' : wr.drew.rangeAt b2 o2 (u8s x) := hrg2
      have hth := HT0.out
      rw [hx] at a1
      have hi := info_sector hx
      have hu := HU.out
      clear hca hd hrg hrg2 a0 hml hx
      go_wp2_with fail
      go_region_held3 (fun w' : World => w'.rangeAt b2 o2 (u8s x) ∧ w'.there w.heap.size (k * 64) 64) (first | with_reducible exact And.intro hb' hth | with_reducible exact And.intro HK1.out HK2.out) (fail)
      generalize wr.drew.setCells w.heap.size (k * 64) (u8s x) = W1 at HDN ⊢
      clear a1 hb' hth hi hu h1c hl64 hsp HK1 HK2 HT0
      go_wp2_with fail
      go_roundw
      case rel => exact ⟨k + 1, rfl, hlt, Lib.hid HDN.out.1, Lib.hid (HB.out.trans (HDN.out.2.below HB.out.size (by simp)))⟩
      case measure => simp only [intOf]; omega
    · obtain rfl : k = ss.length := by omega
      have HD2 := HD
      rw [mix_all] at HD2
      go_wp2_with fail
      go_ret2
      exact ⟨rfl, HD2, HB⟩
end
end Go.Proofs.Ytdagmkkkiaacoaa
