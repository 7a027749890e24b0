/- Where an item stands: the library's IndexFunc with the package's function literal. -/
import Derived.Test.YtkgipdhbaiaaeaaAgW4
namespace Go.Proofs.Ytkgipdhbaiaaeaa
open Go.RowKit Go.Sort
open AM (It HS g sw)
set_option linter.unusedVariables false
set_option linter.unusedSimpArgs false
set_option maxRecDepth 100000
theorem lt_of_cell {w : World} {b o : Nat} {v : Value} (h : w.cell? ⟨b, o, none⟩ = some v) : b < w.heap.size := by
  cases hb : w.heap[b]? with
  | none => simp [World.cell?, hb] at h
  | some _ => exact (Array.getElem?_eq_some_iff.1 hb).1
set_option maxHeartbeats 1000000 in
theorem hit_any (x : It) (k y : Int) (kb yb : Nat) (w : World) (hk : w.cell? ⟨kb, 0, none⟩ = some (.int .i64 k)) (hy : w.cell? ⟨yb, 0, none⟩ = some (.int .i64 y)) :
    Calls Try.prog 34 #[agg x, .pointer (some ⟨kb, 0, none⟩), .pointer (some ⟨yb, 0, none⟩)] w fun e w' => e = .returned (.bool (AM.hit k y x)) ∧ w' = w.alloc (.cells (three x) 29) := by
  have lk : kb < w.heap.size := lt_of_cell hk
  have ly : yb < w.heap.size := lt_of_cell hy
  unfold agg three
  by_cases h1 : x.kind = k
  · by_cases h2 : x.key = y
    · have hh : AM.hit k y x = true := AM.hit_iff.2 ⟨h1, h2⟩
      rw [hh]
      subst h1 h2
      clear hh
      go_enter Try.func34, Try.ntmps34
      go_wp2_with fail
      go_ret
      exact ⟨rfl, rfl⟩
    · have hh : AM.hit k y x = false := by cases e : AM.hit k y x with | false => rfl | true => exact absurd (AM.hit_iff.1 e).2 h2
      rw [hh]
      subst h1
      have h3 : (x.key == y) = false := by rw [beq_eq_false_iff_ne]; exact h2
      clear hh
      go_enter Try.func34, Try.ntmps34
      go_wp2_with fail
      go_ret
      exact ⟨rfl, rfl⟩
  · have hh : AM.hit k y x = false := by cases e : AM.hit k y x with | false => rfl | true => exact absurd (AM.hit_iff.1 e).1 h1
    rw [hh]
    have h3 : (x.kind == k) = false := by rw [beq_eq_false_iff_ne]; exact h1
    clear hh
    go_enter Try.func34, Try.ntmps34
    go_wp2_with fail
    go_ret
    exact ⟨rfl, rfl⟩
def PlPost (h : List It) (n : Nat) (k y : Int) (e : Ending) : Prop := (∃ i, i < n ∧ AM.hit k y (g h i) = true ∧ e = .returned (.int .i64 (i : Int))) ∨ ((∀ i, i < n → AM.hit k y (g h i) = false) ∧ e = .returned (.int .i64 (-1)))
section
variable {w : World} {b n : Nat} {h : List It}
set_option maxHeartbeats 2000000 in
theorem IndexFunc_any (k y : Int) (kb yb : Nat) (hk : w.cell? ⟨kb, 0, none⟩ = some (.int .i64 k)) (hy : w.cell? ⟨yb, 0, none⟩ = some (.int .i64 y)) (H : AgH w b h n) :
    Calls Try.prog 33 #[.slice (some ⟨b, 0, none⟩) n 32, .func (.func 34) #[] #[.pointer (some ⟨kb, 0, none⟩), .pointer (some ⟨yb, 0, none⟩)]] w fun e w' => PlPost h n k y e ∧ Below w.heap.size w w' := by
  have lk : kb < w.heap.size := lt_of_cell hk
  have ly : yb < w.heap.size := lt_of_cell hy
  have H0 := Lib.hid H
  have HK := Lib.hid hk
  have HY := Lib.hid hy
  have hn := H.n32
  clear H hk hy
  go_enter Try.func33, Try.ntmps33
  go_wp2_with fail
  go_loopw [8] (fun iv wr => ∃ i : Nat, iv = .int .i64 (i : Int) ∧ i ≤ n ∧ Hid (∀ j, j < i → AM.hit k y (g h j) = false) ∧ Hid (Below w.heap.size w wr)) (fun iv _ => n - (intOf iv).toNat)
  case atStart => exact ⟨0, rfl, Nat.zero_le _, Lib.hid (fun j hj => absurd hj (Nat.not_lt_zero _)), Lib.hid (Below.refl _ _)⟩
  case round =>
    obtain ⟨i, rfl, hi, HN, HB⟩ := hrel
    by_cases hin : i < n
    · have d1 : ((i : Int) < (n : Int)) := by omega
      have d2 : ((0 : Int) ≤ (i : Int)) := by omega
      have HA := Lib.hid (H0.out.below HB.out)
      obtain ⟨i0, i1, i2⟩ := HA.out.item (i := i) (by omega)
      have hw : IntKind.i64.wrap ((i : Int) + 1) = (i : Int) + 1 := IntWalk.i64_in _ (by omega)
      have HC := Lib.hid (hit_any (g h i) k y kb yb wr ((HB.out.cell (p := ⟨kb, 0, none⟩) lk).trans HK.out) ((HB.out.cell (p := ⟨yb, 0, none⟩) ly).trans HY.out))
      have HB2 := Lib.hid (HB.out.alloc HB.out.size (.cells (three (g h i)) 29))
      unfold agg at HC
      go_wp2_with fail
      refine HC.out.mono ?_
      rintro e w1 ⟨rfl, rfl⟩
      clear i0 i1 i2 HC
      generalize wr.alloc (.cells (three (g h i)) 29) = w2 at HB2 ⊢
      cases hr : AM.hit k y (g h i) with
      | true =>
        have HR := Lib.hid hr
        clear hr
        go_wp2_with fail
        go_ret
        exact ⟨.inl ⟨i, hin, HR.out, rfl⟩, HB2.out⟩
      | false =>
        have HR := Lib.hid hr
        clear hr
        go_wp2_with fail
        go_roundw
        case rel =>
          exact ⟨i + 1, rfl, by omega, Lib.hid (fun j hj => by
            by_cases e : j = i
            · rw [e]; exact HR.out
            · exact HN.out j (by omega)), HB2⟩
        case measure => simp [intOf]; omega
    · have d1 : decide ((i : Int) < (n : Int)) = false := by simp; omega
      go_wp2_with fail
      go_ret
      exact ⟨.inr ⟨fun j hj => HN.out j (by omega), rfl⟩, HB.out⟩
end
end Go.Proofs.Ytkgipdhbaiaaeaa
