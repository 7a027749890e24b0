/- The questions that open each statement of layer 7. -/
import Derived.Test.YtnbfdgccaacdiaaBagW9
namespace Go.Proofs.Ytnbfdgccaacdiaa
open Go.RowKit
open By (BytesAt u8s own_shape)
set_option linter.unusedVariables false
set_option linter.unusedSimpArgs false
set_option maxRecDepth 100000
def pkX : Pk := ⟨1, 0, [120]⟩
def pkY : Pk := ⟨2, 0, [121]⟩
set_option maxHeartbeats 8000000 in
theorem awake_any (w : World) : Calls Try.prog 5 #[] w fun e w' => e = .returned (.bool true) ∧ Below w.heap.size w w' := by
  go_enter Try.func5, Try.ntmps5
  go_wp2_with fail
  refine (New_any w).mono ?_
  rintro e w1 ⟨rfl, hw1⟩
  have HX := Lib.hid (show Below w.heap.size w w1 by rw [hw1]; exact (Below.refl _ w).alloc (Nat.le_refl _) _)
  have HB := Lib.hid (show BagAt (fun x => x ≠ w.heap.size) w1 w.heap.size [] 0 0 by rw [hw1]; exact bag0_at w (fun h => h rfl))
  clear hw1
  go_wp2_with fail
  refine (packet_any 1 [120] w1).mono ?_
  rintro e w2 ⟨A2, c2, rfl, hB2, hb⟩
  have HX2 := Lib.hid (below_on HX.out hb)
  have HB2 := Lib.hid (HB.out.below hb)
  clear hb HX HB
  go_wp2_with fail
  refine (Send_ok HB2.out pkX A2 c2 hB2.out (by decide) (by decide) (fun x hx => by have := HB2.out.lt; show x ≠ _; omega) (by decide)).mono ?_
  rintro e w3 ⟨rfl, hB3, hm3⟩
  have HX3 := Lib.hid (mod_on HX2.out hm3.out (Nat.le_refl _))
  have HB3 := Lib.hid (show BagAt (fun x => x ≠ w.heap.size) w3 w.heap.size [pkX] 1 0 from hB3.out)
  clear hB2 hm3 hB3 HX2 HB2
  go_wp2_with fail
  refine (packet_any 2 [121] w3).mono ?_
  rintro e w4 ⟨A4, c4, rfl, hB4, hb⟩
  have HX4 := Lib.hid (below_on HX3.out hb)
  have HB4 := Lib.hid (HB3.out.below hb)
  clear hb HX3 HB3
  go_wp2_with fail
  refine (Send_ok HB4.out pkY A4 c4 hB4.out (by decide) (by decide) (fun x hx => by have := HB4.out.lt; show x ≠ _; omega) (by decide)).mono ?_
  rintro e w5 ⟨rfl, hB5, hm5⟩
  have HX5 := Lib.hid (mod_on HX4.out hm5.out (Nat.le_refl _))
  have HB5 := Lib.hid (show BagAt (fun x => x ≠ w.heap.size) w5 w.heap.size [pkX, pkY] 2 0 from hB5.out)
  clear hB4 hm5 hB5 HX4 HB4
  go_wp2_with fail
  refine (Double_ok HB5.out (k := 0) (p := pkX) rfl (by decide) (by decide) (fun x hx => by have := HB5.out.lt; show x ≠ _; omega)).mono ?_
  rintro e w6 ⟨rfl, hB6, hm6⟩
  have HX6 := Lib.hid (mod_on HX5.out hm6.out (Nat.le_refl _))
  have HB6 := Lib.hid (show BagAt (fun x => x ≠ w.heap.size) w6 w.heap.size [pkX, pkY, pkX] 2 0 from hB6.out)
  clear hm6 hB6 HX5 HB5
  go_wp2_with fail
  refine (Len_any HB6.out).mono ?_
  rintro e w7 ⟨rfl, rfl⟩
  rw [show ((([pkX, pkY, pkX] : List Pk).length : Nat) : Int) = 3 from rfl]
  go_wp2_with fail
  refine (Sent_any HB6.out).mono ?_
  rintro e w7 ⟨rfl, rfl⟩
  go_wp2_with fail
  refine (Take_yes HB6.out (k := 0) (p := pkX) rfl (by decide)).mono ?_
  rintro e w7 ⟨A7, c7, rfl, hd7, hB7, hm7⟩
  have HX7 := Lib.hid (mod_on HX6.out hm7.out (Nat.le_refl _))
  have HB7 := Lib.hid (show BagAt (fun x => x ≠ w.heap.size) w7 w.heap.size [pkY, pkX] 2 0 from hB7.out)
  have HD7 := Lib.hid hd7.out.bytes
  clear hd7 hB7 hm7 HX6 HB6
  unfold three
  have HA8 := Lib.hid ((Below.refl _ w7).alloc (Nat.le_refl _) (.cells #[.int .i64 pkX.frm, .int .i64 pkX.dst, .slice A7 pkX.d.length c7] 31))
  have HP8 := Lib.hid (Whole.new w7 31 #[.int .i64 pkX.frm, .int .i64 pkX.dst, .slice A7 pkX.d.length c7])
  go_wp2_with fail
  generalize w7.alloc (.cells #[.int .i64 pkX.frm, .int .i64 pkX.dst, .slice A7 pkX.d.length c7] 31) = w8 at HA8 HP8 ⊢
  have HX8 := Lib.hid (below_on HX7.out HA8.out)
  have HB8 := Lib.hid (HB7.out.below HA8.out)
  have HD8 := Lib.hid (HD7.out.below HA8.out)
  clear HX7 HB7 HD7 HA8
  refine (Look_yes HB8.out (k := 1) (p := pkX) rfl (by decide)).mono ?_
  rintro e w9 ⟨A9, c9, rfl, hd9, hb9⟩
  have HX9 := Lib.hid (below_on HX8.out hb9.out)
  have HB9 := Lib.hid (HB8.out.below hb9.out)
  have HD9 := Lib.hid (HD8.out.below hb9.out)
  have HP9 := Lib.hid ((Mod.of_below hb9.out []).whole HP8.out (by simp))
  have HE9 := Lib.hid hd9.out.bytes
  clear hd9 hb9 HX8 HB8 HD8 HP8
  unfold three
  have HA10 := Lib.hid ((Below.refl _ w9).alloc (Nat.le_refl _) (.cells #[.int .i64 pkX.frm, .int .i64 pkX.dst, .slice A9 pkX.d.length c9] 31))
  have HQ10 := Lib.hid (Whole.new w9 31 #[.int .i64 pkX.frm, .int .i64 pkX.dst, .slice A9 pkX.d.length c9])
  go_upto_region 6 with (fail)
  generalize w9.alloc (.cells #[.int .i64 pkX.frm, .int .i64 pkX.dst, .slice A9 pkX.d.length c9] 31) = w10 at HA10 HQ10 ⊢
  have HX10 := Lib.hid (below_on HX9.out HA10.out)
  have HB10 := Lib.hid (HB9.out.below HA10.out)
  have HP10 := Lib.hid ((Mod.of_below HA10.out []).whole HP9.out (by simp))
  have hcv1 : (convert 29 9 (.slice A7 1 c7)).run Try.prog w10 = .ok (.string ⟨#[120]⟩) w10 := By.str_of (l := [120]) (HD9.out.below HA10.out)
  have hcv2 : (convert 29 9 (.slice A9 1 c9)).run Try.prog w10 = .ok (.string ⟨#[120]⟩) w10 := By.str_of (l := [120]) (HE9.out.below HA10.out)
  have p0 : w10.cell? ⟨w7.heap.size, 0, none⟩ = some (.int .i64 1) := HP10.out.cell 0
  have p2 : w10.cell? ⟨w7.heap.size, 2, none⟩ = some (.slice A7 1 c7) := HP10.out.cell 2
  have q2 : w10.cell? ⟨w9.heap.size, 2, none⟩ = some (.slice A9 1 c9) := HQ10.out.cell 2
  clear HA10 HQ10 HX9 HB9 HD9 HP9 HE9 HP10
  go_wp2_with fail
  refine (Len_any HB10.out).mono ?_
  rintro e w11 ⟨rfl, rfl⟩
  rw [show ((([pkY, pkX] : List Pk).length : Nat) : Int) = 2 from rfl]
  clear p0 p2 q2 hcv1 hcv2
  go_wp2_with fail
  refine (List_any HB10.out (by intro p hp; simp at hp; rcases hp with rfl | rfl <;> decide)).mono ?_
  rintro e w11 ⟨B11, rfl, -, hb⟩
  have HX11 := Lib.hid (below_on HX10.out hb.out)
  have HB11 := Lib.hid (HB10.out.below hb.out)
  clear hb HX10 HB10
  rw [show ([pkY, pkX] : List Pk).length = 2 from rfl]
  go_wp2_with fail
  refine (Drop_no HB11.out (k := 5) (.inr (by decide))).mono ?_
  rintro e w12 ⟨rfl, rfl⟩
  go_wp2_with fail
  refine (Double_gone HB11.out (k := 2) (.inr (by decide))).mono ?_
  rintro e w12 ⟨rfl, rfl⟩
  go_wp2_with fail
  go_ret
  exact ⟨rfl, HX11.out⟩
end Go.Proofs.Ytnbfdgccaacdiaa
