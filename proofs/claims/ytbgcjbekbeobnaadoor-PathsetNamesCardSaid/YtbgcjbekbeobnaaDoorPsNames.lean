/- The errors and limits of sets are the document's: the walk, over any Sets. -/
import Derived.Test.YtbgcjbekbeobnaaDoorPsL5
namespace Go.Proofs.YtbgcjbekbeobnaaDoor.ahead
open Go.RowKit
open SE (Ent)
set_option linter.unusedVariables false
set_option maxRecDepth 100000
def nth (i : Int) : Ent := ⟨i, ⟨#[97]⟩, 1, 0⟩
def nths (k : Nat) : List Ent := (List.range k).map fun (i : Nat) => nth (i : Int)
theorem nths_succ (k : Nat) : nths (k + 1) = nths k ++ [nth (k : Int)] := by unfold nths; rw [List.range_succ, List.map_append]; rfl
theorem nths_len (k : Nat) : (nths k).length = k := by unfold nths; simp
theorem ins_end {l : List Ent} {e : Ent} (h : ∀ x ∈ l, SE.before x e = true) : SE.ins l e = l ++ [e] := by
  have h1 : l.takeWhile (fun x => SE.before x e) = l := by
    induction l with
    | nil => rfl
    | cons a r ih =>
      rw [List.takeWhile_cons, if_pos (h a (by simp)), ih (fun x hx => h x (List.mem_cons_of_mem _ hx))]
  have h2 : l.dropWhile (fun x => SE.before x e) = [] := by
    induction l with
    | nil => rfl
    | cons a r ih =>
      rw [List.dropWhile_cons, if_pos (h a (by simp))]
      refine ih (fun x hx => h x (List.mem_cons_of_mem _ hx)) ?_
      rw [List.takeWhile_cons, if_pos (h a (by simp))] at h1
      exact (List.cons.inj h1).2
  unfold SE.ins
  rw [h1, h2]
theorem put_nth {k : Nat} (hk : k < 64) : SE.put (nths k) (nth (k : Int)) = (nths (k + 1), 0) := by
  have h1 : PM.okB (SE.p (nth (k : Int))) = true := by show PM.okB [97] = true; kernel_rfl
  have h3 : SE.has (nths k) (nth (k : Int)).id = false := by
    rw [Bool.eq_false_iff]
    intro h
    obtain ⟨e, he, hi⟩ := SE.has_iff.1 h
    unfold nths at he
    obtain ⟨i, hi2, rfl⟩ := List.mem_map.1 he
    have := List.mem_range.1 hi2
    have h4 : (i : Int) = (k : Int) := hi
    omega
  unfold SE.put
  rw [if_neg (by rw [h1]; decide), if_neg (by show ¬ SE.okMode 1 = false; decide), if_neg (by rw [h3]; decide), if_neg (by rw [nths_len]; omega), nths_succ, ins_end]
  intro x hx
  unfold nths at hx
  obtain ⟨i, hi, rfl⟩ := List.mem_map.1 hx
  have := List.mem_range.1 hi
  unfold SE.before
  have hp : PM.cmp (SE.p (nth (i : Int))) (SE.p (nth (k : Int))) = 0 := PM.cmp_self _
  rw [hp]
  have : decide ((nth (i : Int)).id < (nth (k : Int)).id) = true := decide_eq_true (by show (i : Int) < (k : Int); omega)
  rw [this]
  rfl
theorem put_full : SE.put (nths 64) (nth 64) = (nths 64, 51) := by kernel_rfl
theorem put_again : SE.put (nths 64) (nth 63) = (nths 64, 50) := by kernel_rfl
theorem has_seven : SE.has (nths 64) 7 = true := by kernel_rfl
theorem put_root : (SE.put (SE.drop (nths 64) 7) ⟨64, ⟨#[]⟩, 1, 0⟩).2 = 0 := by kernel_rfl
theorem len_root : (SE.put (SE.drop (nths 64) 7) ⟨64, ⟨#[]⟩, 1, 0⟩).1.length = 64 := by kernel_rfl
theorem fair_nth {i : Int} (h : 0 ≤ i ∧ i ≤ 64) : Fair (nth i) := ⟨⟨by show _ ≤ i; omega, by show i ≤ _; omega⟩, by show 1 ≤ _; decide, by show (-9223372036854775808 : Int) ≤ 1 ∧ (1 : Int) ≤ _; decide, by show (-9223372036854775808 : Int) ≤ 0 ∧ (0 : Int) ≤ _; decide⟩
theorem fair_root : Fair ⟨64, ⟨#[]⟩, 1, 0⟩ := by unfold Fair; decide
section
variable {S : Sets} {w0 w : World} {g : Nat} {K : List Nat}
theorem n_put {k : Nat} (hk : k < 64) (h : Mine S w0 g (nths k) K w) : Calls Tryd.prog 11 #[.pointer (some ⟨g, 0, none⟩), .agg #[.int .i64 (k : Int), .string ⟨#[97]⟩, .int .i64 1, .int .i64 0]] w fun x w' => x = .returned (.int .i64 0) ∧ Hid (Mine S w0 g (nths (k + 1)) K w') := by
  have h2 := h.put (nth (k : Int)) (fair_nth (by omega))
  rw [put_nth hk] at h2
  exact h2.mono fun x w' ⟨k1, k2, _⟩ => ⟨k1, k2⟩
theorem n_full (h : Mine S w0 g (nths 64) K w) : Calls Tryd.prog 11 #[.pointer (some ⟨g, 0, none⟩), .agg #[.int .i64 64, .string ⟨#[97]⟩, .int .i64 1, .int .i64 0]] w fun x w' => x = .returned (.int .i64 51) ∧ Hid (Mine S w0 g (nths 64) K w') := by
  have h2 := h.put (nth 64) (fair_nth (by omega))
  rw [put_full] at h2
  exact h2.mono fun x w' ⟨k1, k2, _⟩ => ⟨k1, k2⟩
theorem n_again (h : Mine S w0 g (nths 64) K w) : Calls Tryd.prog 11 #[.pointer (some ⟨g, 0, none⟩), .agg #[.int .i64 63, .string ⟨#[97]⟩, .int .i64 1, .int .i64 0]] w fun x w' => x = .returned (.int .i64 50) ∧ Hid (Mine S w0 g (nths 64) K w') := by
  have h2 := h.put (nth 63) (fair_nth (by omega))
  rw [put_again] at h2
  exact h2.mono fun x w' ⟨k1, k2, _⟩ => ⟨k1, k2⟩
theorem n_drop (h : Mine S w0 g (nths 64) K w) : Calls Tryd.prog 12 #[.pointer (some ⟨g, 0, none⟩), .int .i64 7] w fun x w' => x = .returned (.bool true) ∧ Hid (Mine S w0 g (SE.drop (nths 64) 7) K w') := by
  have h2 := h.drop 7
  rw [has_seven] at h2
  exact h2.mono fun x w' ⟨k1, k2, _⟩ => ⟨k1, k2⟩
theorem n_root (h : Mine S w0 g (SE.drop (nths 64) 7) K w) : Calls Tryd.prog 11 #[.pointer (some ⟨g, 0, none⟩), .agg #[.int .i64 64, .string ⟨#[]⟩, .int .i64 1, .int .i64 0]] w fun x w' => x = .returned (.int .i64 0) ∧ ∃ L : List Ent, L.length = 64 ∧ Hid (Mine S w0 g L K w') := by
  have h2 := h.put ⟨64, ⟨#[]⟩, 1, 0⟩ fair_root
  rw [put_root] at h2
  exact h2.mono fun x w' ⟨k1, k2, _⟩ => ⟨k1, _, len_root, k2⟩
end
set_option maxHeartbeats 4000000 in
theorem names_walk (S : Sets) (w : World) (hx : HasMax w) : Calls Tryd.prog 3 #[] w fun x w' => x = .returned (.bool true) ∧ Below w.heap.size w w' := by
  have HX := Lib.hid hx; clear hx
  go_enter Tryd.func3, Tryd.ntmps3
  go_wp2_with fail
  refine (Mine.new S HX.out (Below.refl _ w)).mono ?_
  rintro x w1 ⟨g, rfl, HM, _⟩
  unfold ptr
  go_wp2_with fail
  refine (awake_any S _ HM.out.max).mono ?_
  rintro x w2 ⟨rfl, hb⟩
  replace HM := Lib.hid (HM.out.below hb); clear hb
  go_wp2_with fail
  go_loopw [2] (fun i wx => ∃ k : Nat, i = .int .i64 (k : Int) ∧ k ≤ 64 ∧ Hid (Mine S w g (nths k) [] wx)) (fun i _ => 64 - (intOf i).toNat)
  case atStart => exact ⟨0, rfl, by omega, HM⟩
  case round =>
    obtain ⟨k, rfl, hk, HT⟩ := hrel
    by_cases hlt : k < 64
    · go_wp2_with fail
      refine (n_put hlt HT.out).mono ?_
      rintro x w3 ⟨rfl, HM3⟩
      go_wp2_with fail
      go_roundw
      case rel => exact ⟨k + 1, rfl, by omega, HM3⟩
      case measure => simp only [intOf]; omega
    · have he : k = 64 := by omega
      subst he
      clear hk hlt
      go_wp2_with fail
      refine (n_full HT.out).mono ?_
      rintro x w3 ⟨rfl, HM3⟩
      go_wp2_with fail
      refine (n_again HM3.out).mono ?_
      rintro x w4 ⟨rfl, HM4⟩
      go_wp2_with fail
      refine (n_drop HM4.out).mono ?_
      rintro x w5 ⟨rfl, HM5⟩
      go_wp2_with fail
      refine (n_root HM5.out).mono ?_
      rintro x w6 ⟨rfl, L, hL, HM6⟩
      have HL := Lib.hid (HM6.out.len)
      rw [hL] at HL
      go_wp2_with fail
      refine HL.out.mono ?_
      rintro x w7 ⟨rfl, HM7, _⟩
      go_wp2_with fail
      go_ret
      exact ⟨rfl, HM7.out.on⟩
end Go.Proofs.YtbgcjbekbeobnaaDoor.ahead
