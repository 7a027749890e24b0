/- Calls with the statement's bytes; the statement's first calls (awake). -/
import Derived.Test.YtdagmkkkiaacoaaDkW8
namespace Go.Proofs.Ytdagmkkkiaacoaa
open Go.RowKit
open By (BytesAt u8s own_shape)
set_option linter.unusedVariables false
set_option linter.unusedSimpArgs false
set_option maxRecDepth 100000
/-- A disk that the call has made; what was there stands. -/
structure Ow (w : World) (g : Nat) (d : Dk) (cur : World) : Prop where
  disk : DkAt cur g d
  ge : w.heap.size ≤ g
  below : Below w.heap.size w cur
section
variable {w cur : World} {g : Nat} {d : Dk}
theorem Ow.on (h : Ow w g d cur) {w' : World} (hb : Below cur.heap.size cur w') : Ow w g d w' := ⟨h.disk.below hb, h.ge, below_on h.below hb⟩
theorem Ow.mod (h : Ow w g d cur) {w' : World} {d' : Dk} (hd : DkAt w' g d') (hm : Mod [g] cur w') : Ow w g d' w' := ⟨hd, h.ge, h.below.trans (hm.below h.below.size (fun x hx => by rw [List.mem_singleton.1 hx]; exact h.ge))⟩
theorem fl_bytes {b : Nat} {X : List UInt8} (hb : Whole cur b 5 (u8s X).toArray) (h : DkAt cur g d) : ∀ ad : Addr, (some ⟨b, 0, none⟩ : Option Addr) = some ad → ad.block ≠ g := fun ad e hx => by
  injection e with e
  subst e
  obtain ⟨cs, h1, _⟩ := h.ex
  exact Whole.ne hb h1 (by decide) hx
theorem Ow.write (h : Ow w g d cur) (i : Int) {b n : Nat} {X : List UInt8} (hb : Whole cur b 5 (u8s X).toArray) (hn : X.length = n) (c : Nat) :
    Calls Try.prog 21 #[.pointer (some ⟨g, 0, none⟩), .int .i64 i, .slice (some ⟨b, 0, none⟩) n c] cur fun e w' => e = .returned (.int .i64 (DK.werr d i n)) ∧ Hid (Ow w g (DK.written d i X) w') ∧ Hid (Mod [g] cur w') := by
  subst hn
  exact (Write_any h.disk i _ X c (Whole.reads hb) (fl_bytes hb h.disk)).mono fun e w' ⟨h1, h2, h3⟩ => ⟨h1, Lib.hid (h.mod h2.out h3.out), h3⟩
theorem Ow.filled (h : Ow w g d cur) (c : UInt8) (m : Nat) (hm : m ≤ 100) :
    Calls Try.prog 22 #[.int .u8 (c.toNat : Int), .int .i64 (m : Int)] cur fun e w' => e = .returned (.slice (some ⟨cur.heap.size, 0, none⟩) m m) ∧ Hid (Whole w' cur.heap.size 5 (u8s (fl c m)).toArray) ∧ Hid (Ow w g d w') ∧ Hid (Below cur.heap.size cur w') :=
  (filled_any c m m (by omega) cur (by omega)).mono fun e w' ⟨h1, h2, h3⟩ => ⟨h1, h2, Lib.hid (h.on h3.out), h3⟩
end
def ad1 : Dk := DK.written (DK.zero 2) 1 (fl 7 64)
def ad2 : Dk := DK.written (DK.arm ad1 1) 0 (fl 8 64)
def ad3 : Dk := DK.on (DK.written ad2 0 (fl 9 64))
theorem ad_e1 : DK.werr (DK.zero 2) 1 64 = 0 := by decide +kernel
theorem ad_w1 : ad1.wr = 1 := by decide +kernel
theorem ad_e2 : DK.werr (DK.arm ad1 1) 0 64 = 0 := by decide +kernel
theorem ad_e3 : DK.werr ad2 0 64 = 40 := by decide +kernel
theorem ad_o3 : (DK.written ad2 0 (fl 9 64)).off = true := by decide +kernel
theorem ad_r3 : DK.rerr ad3 0 = 0 := by decide +kernel
theorem ad_g3 : DK.got ad3 0 = fl 8 64 := by decide +kernel
set_option maxHeartbeats 8000000 in
theorem awake_any (w : World) : Calls Try.prog 10 #[] w fun e w' => e = .returned (.bool true) ∧ Hid (Below w.heap.size w w') := by
  go_enter Try.func10, Try.ntmps10
  go_wp2_with fail
  refine (New_ok 2 w (by decide)).mono ?_
  rintro e w1 ⟨rfl, hw1⟩
  have HO := Lib.hid (show Ow w w.heap.size (DK.zero 2) w1 by rw [hw1]; exact ⟨DkAt.zero (by decide) w, Nat.le_refl _, (Below.refl _ w).alloc (Nat.le_refl _) _⟩)
  clear hw1
  go_wp2_with fail
  refine (HO.out.filled 7 64 (by decide)).mono ?_
  rintro e w2 ⟨rfl, HF2, HO2, _⟩
  clear HO
  go_wp2_with fail
  refine (HO2.out.write 1 HF2.out (fl_len _ _) 64).mono ?_
  rintro e w3 ⟨rfl, HO3, _⟩
  rw [ad_e1]
  change Hid (Ow w w.heap.size ad1 w3) at HO3
  clear HO2 HF2
  go_wp2_with fail
  refine (Writes_any HO3.out.disk).mono ?_
  rintro e w4 ⟨rfl, rfl⟩
  rw [ad_w1]
  go_wp2_with fail
  refine (Len_any HO3.out.disk).mono ?_
  rintro e w4 ⟨rfl, rfl⟩
  rw [show ((ad1.ss.length : Nat) : Int) = 2 by decide +kernel]
  go_wp2_with fail
  refine (Arm_any HO3.out.disk 1 (by decide)).mono ?_
  rintro e w4 ⟨rfl, hd, hm⟩
  have HO4 := Lib.hid (HO3.out.mod hd hm)
  clear hd hm HO3
  go_wp2_with fail
  refine (HO4.out.filled 8 64 (by decide)).mono ?_
  rintro e w5 ⟨rfl, HF5, HO5, _⟩
  clear HO4
  go_wp2_with fail
  refine (HO5.out.write 0 HF5.out (fl_len _ _) 64).mono ?_
  rintro e w6 ⟨rfl, HO6, _⟩
  rw [ad_e2]
  change Hid (Ow w w.heap.size ad2 w6) at HO6
  clear HO5 HF5
  go_wp2_with fail
  refine (HO6.out.filled 9 64 (by decide)).mono ?_
  rintro e w7 ⟨rfl, HF7, HO7, _⟩
  clear HO6
  go_wp2_with fail
  refine (HO7.out.write 0 HF7.out (fl_len _ _) 64).mono ?_
  rintro e w8 ⟨rfl, HO8, _⟩
  rw [ad_e3]
  clear HO7 HF7
  go_wp2_with fail
  refine (Off_any HO8.out.disk).mono ?_
  rintro e w9 ⟨rfl, rfl⟩
  rw [ad_o3]
  go_wp2_with fail
  refine (On_any HO8.out.disk).mono ?_
  rintro e w9 ⟨rfl, hd, hm⟩
  have HO9 := Lib.hid (show Ow w w.heap.size ad3 w9 from HO8.out.mod hd hm)
  clear hd hm HO8
  go_wp2_with fail
  refine (Read_any HO9.out.disk 0).mono ?_
  rintro e w10 ⟨A, c, rfl, hB, hb⟩
  have HO10 := Lib.hid (HO9.out.on hb.out)
  rw [ad_r3]
  rw [ad_g3, fl_len]
  rw [ad_g3] at hB
  clear HO9 hb
  go_wp2_with fail
  have hcv1 : (convert 35 9 (.slice A 64 c)).run Try.prog w10.drew = .ok (.string ⟨(fl 8 64).toArray⟩) w10.drew := By.conv_of (fl_len _ _).symm (show BytesAt w10.drew A (fl 8 64) from hB.out)
  have HOD := Lib.hid (HO10.out.on (Below.drew (Below.refl _ w10)))
  clear HO10
  have HFL := Lib.hid (HOD.out.filled 8 64 (by decide))
  have HBD := Lib.hid (show BytesAt w10.drew A (fl 8 64) from hB.out)
  clear hB
  go_region_with (first
    | (go_at_call 22; refine HFL.out.mono ?_; rintro e w11 ⟨rfl, HF11, HO11, HB11⟩
       have HI11 := Lib.hid (Image_any HO11.out.disk)
       have hcv2 : (convert 35 9 (.slice A 64 c)).run Try.prog w11 = .ok (.string ⟨(fl 8 64).toArray⟩) w11 := By.conv_of (fl_len _ _).symm (HBD.out.below HB11.out)
       have hcv3 : (convert 35 9 (.slice (some ⟨w10.heap.size, 0, none⟩) 64 64)).run Try.prog w11 = .ok (.string ⟨(fl 8 64).toArray⟩) w11 := By.conv_of (fl_len _ _).symm (Whole.reads HF11.out))
    | (go_at_call 20; refine HI11.out.mono ?_; rintro e w12 ⟨rfl, HI12⟩
       have HX12 := Lib.hid (below_on HO11.out.below HI12.out.below)
       rw [show ad3.ss.length = 2 by decide +kernel]))
  all_goals
    go_wp2_with fail
    go_ret
    exact ⟨rfl, HX12⟩
end Go.Proofs.Ytdagmkkkiaacoaa
