/- The package's calls on one agenda: place, may, Put. -/
import Derived.Test.YtkgipdhbaiaaeaaAgW5
import Derived.BigRegion
namespace Go.Proofs.Ytkgipdhbaiaaeaa
open Go.RowKit Go.Sort
open AM (It HS g sw)
set_option linter.unusedVariables false
set_option linter.unusedSimpArgs false
set_option maxRecDepth 100000
set_option maxHeartbeats 1000000 in
theorem Index_nil (f : Value) (w : World) : Calls Try.prog 33 #[.slice none 0 0, f] w fun e w' => e = .returned (.int .i64 (-1)) ∧ w' = w := by
  go_enter Try.func33, Try.ntmps33
  go_wp2_with fail
  refine wp_loop_rounds 1 ?_
  rw [rounds_succ]
  go_wp2
  go_ret
  exact ⟨rfl, rfl⟩
/-- The agenda at block b holds these items, in order. -/
def AgAt (w : World) (b : Nat) (L : List It) : Prop := ∃ h, AgH w b h L.length ∧ HS h L.length L
section
variable {w w' : World} {b n : Nat} {h : List It} {L : List It} {F : List Nat}
theorem AgAt.lt (H : AgAt w b L) : b < w.heap.size := by obtain ⟨h, h1, _⟩ := H; exact h1.lt
theorem AgAt.mod (H : AgAt w b L) (hm : Mod F w w') (hb : b ∉ F) : AgAt w' b L := by obtain ⟨h, h1, h2⟩ := H; exact ⟨h, h1.mod hm hb, h2⟩
theorem AgAt.below (H : AgAt w b L) (hb : Below w.heap.size w w') : AgAt w' b L := by obtain ⟨h, h1, h2⟩ := H; exact ⟨h, h1.below hb, h2⟩
theorem AgAt.good (H : AgAt w b L) : AM.Good L := by obtain ⟨h, h1, h2⟩ := H; exact h2.good
theorem AgAt.of {n : Nat} (H : AgH w b h n) (HH : HS h n L) : AgAt w b L := by have := HH.size; subst this; exact ⟨h, H, HH⟩
theorem AgAt.new (w : World) : AgAt (w.alloc (.cells ag0 59)) w.heap.size [] := by
  refine AgAt.of (ag0_at w) ⟨by simp, by omega, fun k k0 kn => absurd kn (by omega), ?_, AM.good_nil⟩
  exact List.Perm.refl _
set_option maxHeartbeats 1000000 in
theorem place_any (k y : Int) (H : AgH w b h n) : Calls Try.prog 24 #[.pointer (some ⟨b, 0, none⟩), .int .i64 k, .int .i64 y] w fun e w' => PlPost h n k y e ∧ Below w.heap.size w w' := by
  have H1 := Lib.hid ((H.below ((Below.refl _ w).alloc (Nat.le_refl _) (.cells #[.int .i64 k] 27))).below ((Below.refl _ _).alloc (Nat.le_refl _) (.cells #[.int .i64 y] 3)))
  have HB := Lib.hid (((Below.refl _ w).alloc (Nat.le_refl _) (.cells #[.int .i64 k] 27)).alloc (by simp) (.cells #[.int .i64 y] 3))
  have hk : ((w.alloc (.cells #[.int .i64 k] 27)).alloc (.cells #[.int .i64 y] 3)).cell? ⟨w.heap.size, 0, none⟩ = some (.int .i64 k) := by go_simp
  have hy : ((w.alloc (.cells #[.int .i64 k] 27)).alloc (.cells #[.int .i64 y] 3)).cell? ⟨w.heap.size + 1, 0, none⟩ = some (.int .i64 y) := by go_simp
  have HK := Lib.hid hk
  have HY := Lib.hid hy
  clear H hk hy
  go_enter Try.func24, Try.ntmps24
  go_wp2_with fail
  generalize (w.alloc (.cells #[.int .i64 k] 27)).alloc (.cells #[.int .i64 y] 3) = w1 at H1 HB HK HY ⊢
  refine (in_any H1.out).mono ?_
  rintro e w2 ⟨rfl, q, rfl⟩
  go_wp2_with fail
  refine (IndexFunc_any (w := w1.drewN q) (b := b) (n := n) (h := h) k y w.heap.size (w.heap.size + 1) HK.out HY.out ⟨H1.out.whole, H1.out.len, H1.out.n32⟩).mono ?_
  rintro e w3 ⟨hp, hb⟩
  have HB3 := Lib.hid (below_on HB.out (show Below w1.heap.size w1 w3 from ⟨hb.os, hb.tape, hb.output, hb.size, hb.block⟩))
  clear hb HB HK HY H1
  rcases hp with ⟨i, h1, h2, rfl⟩ | ⟨h1, rfl⟩
  · have HI := Lib.hid (And.intro h1 h2)
    clear h1 h2
    go_wp2_with fail
    go_ret
    exact ⟨.inl ⟨i, HI.out.1, HI.out.2, rfl⟩, HB3.out⟩
  · have HI := Lib.hid h1
    clear h1
    go_wp2_with fail
    go_ret
    exact ⟨.inr ⟨HI.out, rfl⟩, HB3.out⟩
set_option maxHeartbeats 1000000 in
theorem place_nil (k y : Int) (w : World) : Calls Try.prog 24 #[.pointer none, .int .i64 k, .int .i64 y] w fun e w' => e = .returned (.int .i64 (-1)) ∧ Below w.heap.size w w' := by
  have HB := Lib.hid (((Below.refl _ w).alloc (Nat.le_refl _) (.cells #[.int .i64 k] 27)).alloc (by simp) (.cells #[.int .i64 y] 3))
  go_enter Try.func24, Try.ntmps24
  go_wp2_with fail
  generalize (w.alloc (.cells #[.int .i64 k] 27)).alloc (.cells #[.int .i64 y] 3) = w1 at HB ⊢
  refine (in_nil w1).mono ?_
  rintro e w2 ⟨rfl, rfl⟩
  go_wp2_with fail
  refine (Index_nil _ _).mono ?_
  rintro e w3 ⟨rfl, e0⟩
  obtain rfl := e0.symm
  go_wp2_with fail
  go_ret
  exact ⟨rfl, HB.out⟩
end
theorem may_box (x : It) (w : World) : Below w.heap.size w (w.alloc (.cells (three x) 29)) := (Below.refl _ w).alloc (Nat.le_refl _) _
set_option maxHeartbeats 2000000 in
theorem may_any (x : It) (w : World) : Calls Try.prog 23 #[agg x] w fun e w' => e = .returned (.bool (AM.may x)) ∧ w' = w.alloc (.cells (three x) 29) := by
  unfold agg three
  by_cases h0 : 0 ≤ x.due
  · by_cases h1 : x.due ≤ 4611686018427387904
    · by_cases h2 : 1 ≤ x.kind
      · by_cases h3 : x.kind ≤ 4
        · have hm : AM.may x = true := by simp [AM.may, h0, h1, h2, h3]
          rw [hm]
          go_enter Try.func23, Try.ntmps23
          go_wp2_with fail
          go_ret
          exact ⟨rfl, rfl⟩
        · have hm : AM.may x = false := by simp [AM.may, h0, h1, h2, h3]
          rw [hm]
          go_enter Try.func23, Try.ntmps23
          go_wp2_with fail
          go_ret
          exact ⟨rfl, rfl⟩
      · have hm : AM.may x = false := by simp [AM.may, h0, h1, h2]
        rw [hm]
        go_enter Try.func23, Try.ntmps23
        go_wp2_with fail
        go_ret
        exact ⟨rfl, rfl⟩
    · have hm : AM.may x = false := by simp [AM.may, h0, h1]
      rw [hm]
      go_enter Try.func23, Try.ntmps23
      go_wp2_with fail
      go_ret
      exact ⟨rfl, rfl⟩
  · have hm : AM.may x = false := by simp [AM.may, h0]
    rw [hm]
    go_enter Try.func23, Try.ntmps23
    go_wp2_with fail
    go_ret
    exact ⟨rfl, rfl⟩
end Go.Proofs.Ytkgipdhbaiaaeaa
