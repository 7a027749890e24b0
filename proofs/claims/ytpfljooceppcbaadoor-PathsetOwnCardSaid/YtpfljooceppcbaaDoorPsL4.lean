/- The statements' own opening calls of layer 5, whose answers the document fixes. -/
import Derived.Test.YtpfljooceppcbaaDoorPsL3
namespace Go.Proofs.YtpfljooceppcbaaDoor
open Go.RowKit
open SE (Ent)
set_option linter.unusedVariables false
set_option maxRecDepth 100000
theorem IntsAt.lit (w : World) (l : List Int) {cs : Array Value} (hcs : cs = (i64s l).toArray) : IntsAt (w.alloc (.cells cs 3)) (some ⟨w.heap.size, 0, none⟩) l := by
  subst hcs
  refine fun h0 => ⟨w.heap.size, 0, rfl, by simp, fun j x hj => ?_⟩
  rw [World.cell?_alloc_at _ _ _ _ (by simp), Nat.zero_add, List.getElem?_toArray]
  unfold i64s
  rw [List.getElem?_map, hj]
  rfl
def E1 : Ent := ⟨1, ⟨#[97]⟩, 2, 5⟩
def E2 : Ent := ⟨2, ⟨#[97, 47, 98]⟩, 1, 6⟩
def E3 : Ent := ⟨3, ⟨#[99]⟩, 1, 5⟩
theorem put1 : SE.put [] E1 = ([E1], 0) := by kernel_rfl
theorem put2 : SE.put [E1] E2 = ([E1, E2], 0) := by kernel_rfl
theorem put3 : SE.put [E1, E2] E3 = ([E1, E2, E3], 0) := by kernel_rfl
theorem getE2 : getE [E1, E2, E3] 2 = E2 := by kernel_rfl
theorem has2 : SE.has [E1, E2, E3] 2 = true := by kernel_rfl
theorem has3 : SE.has [E1, E2, E3] 3 = true := by kernel_rfl
theorem has3' : SE.has [E1, E2] 3 = false := by kernel_rfl
theorem drop3 : SE.drop [E1, E2, E3] 3 = [E1, E2] := by kernel_rfl
theorem drop3' : SE.drop [E1, E2] 3 = [E1, E2] := by kernel_rfl
theorem clashE : SE.clash [E1, E2, E3] [] 2 7 = [1, 2, 3] := by kernel_rfl
theorem overE : SE.over [E1, E2, E3] [97, 47, 98] = [1, 2] := by kernel_rfl
theorem underE : SE.under [E1, E2, E3] [97] = [1, 2] := by kernel_rfl
theorem fair1 : Fair E1 := by unfold Fair E1; decide
theorem fair2 : Fair E2 := by unfold Fair E2; decide
theorem fair3 : Fair E3 := by unfold Fair E3; decide
section
variable {S : Sets} {w0 w : World} {g : Nat} {K : List Nat}
theorem a_put1 (h : Mine S w0 g [] K w) : Calls Tryd.prog 8 #[.pointer (some ⟨g, 0, none⟩), .agg #[.int .i64 1, .string ⟨#[97]⟩, .int .i64 2, .int .i64 5]] w fun x w' => x = .returned (.int .i64 0) ∧ Hid (Mine S w0 g [E1] K w') := by
  have h2 := h.put E1 fair1
  rw [put1] at h2
  exact h2.mono fun x w' ⟨k1, k2, _⟩ => ⟨k1, k2⟩
theorem a_put2 (h : Mine S w0 g [E1] K w) : Calls Tryd.prog 8 #[.pointer (some ⟨g, 0, none⟩), .agg #[.int .i64 2, .string ⟨#[97, 47, 98]⟩, .int .i64 1, .int .i64 6]] w fun x w' => x = .returned (.int .i64 0) ∧ Hid (Mine S w0 g [E1, E2] K w') := by
  have h2 := h.put E2 fair2
  rw [put2] at h2
  exact h2.mono fun x w' ⟨k1, k2, _⟩ => ⟨k1, k2⟩
theorem a_put3 (h : Mine S w0 g [E1, E2] K w) : Calls Tryd.prog 8 #[.pointer (some ⟨g, 0, none⟩), .agg #[.int .i64 3, .string ⟨#[99]⟩, .int .i64 1, .int .i64 5]] w fun x w' => x = .returned (.int .i64 0) ∧ Hid (Mine S w0 g [E1, E2, E3] K w') := by
  have h2 := h.put E3 fair3
  rw [put3] at h2
  exact h2.mono fun x w' ⟨k1, k2, _⟩ => ⟨k1, k2⟩
theorem a_get (h : Mine S w0 g [E1, E2, E3] K w) : Calls Tryd.prog 17 #[.pointer (some ⟨g, 0, none⟩), .int .i64 2] w fun x w' => x = .returned (.tuple #[.agg #[.int .i64 2, .string ⟨#[97, 47, 98]⟩, .int .i64 1, .int .i64 6], .bool true]) ∧ Hid (Mine S w0 g [E1, E2, E3] K w') := by
  have h2 := h.get 2
  rw [getE2, has2] at h2
  exact h2.mono fun x w' ⟨k1, k2, _⟩ => ⟨k1, k2⟩
theorem a_clash (h : Mine S w0 g [E1, E2, E3] K w) : Calls Tryd.prog 13 #[.pointer (some ⟨g, 0, none⟩), .string ⟨#[]⟩, .int .i64 2, .int .i64 7] w fun x w' => ∃ A c, x = .returned (.slice A 3 c) ∧ Hid (IntsAt w' A [1, 2, 3]) ∧ 3 ≤ c ∧ c ≤ 9223372036854775807 ∧ Hid (Mine S w0 g [E1, E2, E3] K w') ∧ Hid (Below w.heap.size w w') := by
  have h2 := h.clash ⟨#[]⟩ 2 7 (by decide)
  rw [clashE] at h2
  exact h2.mono fun x w' ⟨A, c, k1, k2, k3, k4, k5, k6⟩ => ⟨A, c, k1, k2, k3, k4, k5, k6⟩
theorem a_over (h : Mine S w0 g [E1, E2, E3] K w) : Calls Tryd.prog 14 #[.pointer (some ⟨g, 0, none⟩), .string ⟨#[97, 47, 98]⟩] w fun x w' => ∃ A c, x = .returned (.slice A 2 c) ∧ Hid (IntsAt w' A [1, 2]) ∧ 2 ≤ c ∧ c ≤ 9223372036854775807 ∧ Hid (Mine S w0 g [E1, E2, E3] K w') ∧ Hid (Below w.heap.size w w') := by
  have h2 := h.over ⟨#[97, 47, 98]⟩ (by decide)
  rw [overE] at h2
  exact h2.mono fun x w' ⟨A, c, k1, k2, k3, k4, k5, k6⟩ => ⟨A, c, k1, k2, k3, k4, k5, k6⟩
theorem a_under (h : Mine S w0 g [E1, E2, E3] K w) : Calls Tryd.prog 15 #[.pointer (some ⟨g, 0, none⟩), .string ⟨#[97]⟩] w fun x w' => ∃ A c, x = .returned (.slice A 2 c) ∧ Hid (IntsAt w' A [1, 2]) ∧ 2 ≤ c ∧ c ≤ 9223372036854775807 ∧ Hid (Mine S w0 g [E1, E2, E3] K w') ∧ Hid (Below w.heap.size w w') := by
  have h2 := h.under ⟨#[97]⟩ (by decide)
  rw [underE] at h2
  exact h2.mono fun x w' ⟨A, c, k1, k2, k3, k4, k5, k6⟩ => ⟨A, c, k1, k2, k3, k4, k5, k6⟩
theorem a_list (h : Mine S w0 g [E1, E2, E3] K w) : Calls Tryd.prog 11 #[.pointer (some ⟨g, 0, none⟩)] w fun x w' => ∃ A c, x = .returned (.slice A 3 c) ∧ Hid (Mine S w0 g [E1, E2, E3] K w') ∧ Hid (Below w.heap.size w w') :=
  h.list.mono fun x w' ⟨A, c, k1, k2, k3, k4, k5, k6⟩ => ⟨A, c, k1, k5, k6⟩
theorem a_drop (h : Mine S w0 g [E1, E2, E3] K w) : Calls Tryd.prog 9 #[.pointer (some ⟨g, 0, none⟩), .int .i64 3] w fun x w' => x = .returned (.bool true) ∧ Hid (Mine S w0 g [E1, E2] K w') := by
  have h2 := h.drop 3
  rw [has3, drop3] at h2
  exact h2.mono fun x w' ⟨k1, k2, _⟩ => ⟨k1, k2⟩
theorem a_drop2 (h : Mine S w0 g [E1, E2] K w) : Calls Tryd.prog 9 #[.pointer (some ⟨g, 0, none⟩), .int .i64 3] w fun x w' => x = .returned (.bool false) ∧ Hid (Mine S w0 g [E1, E2] K w') := by
  have h2 := h.drop 3
  rw [has3', drop3'] at h2
  exact h2.mono fun x w' ⟨k1, k2, _⟩ => ⟨k1, k2⟩
theorem a_len3 (h : Mine S w0 g [E1, E2, E3] K w) : Calls Tryd.prog 16 #[.pointer (some ⟨g, 0, none⟩)] w fun x w' => x = .returned (.int .i64 3) ∧ Hid (Mine S w0 g [E1, E2, E3] K w') ∧ Hid (Below w.heap.size w w') := h.len.mono fun x w' ⟨k1, k2, k3⟩ => ⟨k1, k2, k3⟩
theorem a_len2 (h : Mine S w0 g [E1, E2] K w) : Calls Tryd.prog 16 #[.pointer (some ⟨g, 0, none⟩)] w fun x w' => x = .returned (.int .i64 2) ∧ Hid (Mine S w0 g [E1, E2] K w') := h.len.mono fun x w' ⟨k1, k2, _⟩ => ⟨k1, k2⟩
end
set_option maxHeartbeats 4000000 in
theorem awake_any (S : Sets) (w : World) (hx : HasMax w) : Calls Tryd.prog 5 #[] w fun x w' => x = .returned (.bool true) ∧ Below w.heap.size w w' := by
  have HX := Lib.hid hx; clear hx
  go_enter Tryd.func5, Tryd.ntmps5
  go_wp2_with fail
  refine (Mine.new S HX.out (Below.refl _ w)).mono ?_
  rintro x w1 ⟨g, rfl, HM1, _⟩
  unfold ptr
  go_wp2_with fail
  refine (a_put1 HM1.out).mono ?_
  rintro x w2 ⟨rfl, HM2⟩
  go_wp2_with fail
  refine (a_put2 HM2.out).mono ?_
  rintro x w3 ⟨rfl, HM3⟩
  go_wp2_with fail
  refine (a_put3 HM3.out).mono ?_
  rintro x w4 ⟨rfl, HM4⟩
  go_wp2_with fail
  refine (a_get HM4.out).mono ?_
  rintro x w5 ⟨rfl, HM5⟩
  have HB0 := Lib.hid ((Below.refl w5.heap.size w5).alloc (Nat.le_refl _) (Obj.cells #[.int .i64 2, .string ⟨#[97, 47, 98]⟩, .int .i64 1, .int .i64 6] 25))
  have HE0 := Lib.hid (boxed (w := w5) E2 (Below.refl _ _)).1.2.1
  have HM5' := Lib.hid (HM5.out.below HB0.out)
  go_wp2_with fail
  refine (a_clash HM5'.out).mono ?_
  rintro x w6 ⟨A6, c6, rfl, HI6, hl6, hc6, HM6, HB6⟩
  have HZ6 := Lib.hid ((Below.refl w6.heap.size w6).alloc (Nat.le_refl _) (Obj.cells #[.int .i64 1, .int .i64 2, .int .i64 3] 3))
  go_wp2_with fail
  refine (SameInts_self A6 (some ⟨w6.heap.size, 0, none⟩) c6 3 [1, 2, 3] _ (HI6.out.below HZ6.out) (IntsAt.lit w6 [1, 2, 3] rfl) hl6 (by decide) hc6 (by decide)).mono ?_
  rintro x w7 ⟨rfl, hb7⟩
  have HB7 := Lib.hid (HB6.out |> fun h => below_on (below_on h HZ6.out) hb7)
  have HM7 := Lib.hid (HM6.out.below (below_on HZ6.out hb7))
  clear hb7
  go_wp2_with fail
  refine (a_over HM7.out).mono ?_
  rintro x w8 ⟨A8, c8, rfl, HI8, hl8, hc8, HM8, HB8⟩
  have HZ8 := Lib.hid ((Below.refl w8.heap.size w8).alloc (Nat.le_refl _) (Obj.cells #[.int .i64 1, .int .i64 2] 3))
  go_wp2_with fail
  refine (SameInts_self A8 (some ⟨w8.heap.size, 0, none⟩) c8 2 [1, 2] _ (HI8.out.below HZ8.out) (IntsAt.lit w8 [1, 2] rfl) hl8 (by decide) hc8 (by decide)).mono ?_
  rintro x w9 ⟨rfl, hb9⟩
  have HB9 := Lib.hid (below_on HB7.out HB8.out |> fun h => below_on (below_on h HZ8.out) hb9)
  have HM9 := Lib.hid (HM8.out.below (below_on HZ8.out hb9))
  clear hb9
  go_wp2_with fail
  refine (a_under HM9.out).mono ?_
  rintro x w10 ⟨A10, c10, rfl, HI10, hl10, hc10, HM10, HB10⟩
  have HZ10 := Lib.hid ((Below.refl w10.heap.size w10).alloc (Nat.le_refl _) (Obj.cells #[.int .i64 1, .int .i64 2] 3))
  go_wp2_with fail
  refine (SameInts_self A10 (some ⟨w10.heap.size, 0, none⟩) c10 2 [1, 2] _ (HI10.out.below HZ10.out) (IntsAt.lit w10 [1, 2] rfl) hl10 (by decide) hc10 (by decide)).mono ?_
  rintro x w11 ⟨rfl, hb11⟩
  have HB11 := Lib.hid (below_on HB9.out HB10.out |> fun h => below_on (below_on h HZ10.out) hb11)
  have HM11 := Lib.hid (HM10.out.below (below_on HZ10.out hb11))
  clear hb11
  go_wp2_with fail
  refine (a_len3 HM11.out).mono ?_
  rintro x w12 ⟨rfl, HM12, HB12⟩
  go_wp2_with fail
  refine (a_list HM12.out).mono ?_
  rintro x w13 ⟨A13, c13, rfl, HM13, HB13⟩
  have ce : w13.cell? ⟨w5.heap.size, 1, none⟩ = some (.string ⟨#[97, 47, 98]⟩) := ((below_on (below_on HB11.out HB12.out) HB13.out).cell (p := ⟨w5.heap.size, 1, none⟩) (by rw [World.size_alloc]; exact Nat.lt_succ_self _)).trans HE0.out
  go_wp2_with fail
  refine (a_drop HM13.out).mono ?_
  rintro x w14 ⟨rfl, HM14⟩
  go_wp2_with fail
  refine (a_drop2 HM14.out).mono ?_
  rintro x w15 ⟨rfl, HM15⟩
  go_wp2_with fail
  refine (a_len2 HM15.out).mono ?_
  rintro x w16 ⟨rfl, HM16⟩
  go_wp2_with fail
  go_ret
  exact ⟨rfl, HM16.out.on⟩
end Go.Proofs.YtpfljooceppcbaaDoor
