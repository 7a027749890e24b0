/- The lowest number that is open: a walk over the map. -/
import Derived.Test.YtnacchldecjcaaaCaMem
namespace Go.Proofs.Ytnacchldecjcaaa
open Go.RowKit
open Go.MapKept Go.ChangeMaps
open CA (Cl St)
set_option linter.unusedVariables false
set_option linter.unusedSimpArgs false
set_option maxRecDepth 100000
def clOf : Value × Value → Cl
  | (_, .agg #[.int _ a, .int _ b, .int _ c, .string p, .int _ d, .int _ e, .int _ f, .bool g, .int _ h, .int _ i]) => ⟨a, b, c, p, d, e, f, g, h, i⟩
  | _ => CA.zero
theorem clOf_pairs (l : List Cl) : (pairsC l).map clOf = l := by
  unfold pairsC
  rw [List.map_map]
  exact (List.map_congr_left (fun e _ => rfl)).trans (List.map_id l)
theorem pairsC_perm {a b : List Cl} (h : (pairsC a).Perm (pairsC b)) : a.Perm b := by
  have := h.map clOf
  rwa [clOf_pairs, clOf_pairs] at this
theorem pairsC_snoc (a : List Cl) (e : Cl) : pairsC (a ++ [e]) = pairsC a ++ [(.int .i64 e.seq, aggC e)] := by unfold pairsC; rw [List.map_append]; rfl
/-- The least of these numbers and n. -/
def lo (n : Int) (l : List Cl) : Int := l.foldl (fun m x => min m x.seq) n
theorem lo_snoc (n : Int) (l : List Cl) (x : Cl) : lo n (l ++ [x]) = min (lo n l) x.seq := by unfold lo; rw [List.foldl_append]; rfl
theorem lo_le (n : Int) (l : List Cl) : lo n l ≤ n ∧ ∀ x ∈ l, lo n l ≤ x.seq := by
  induction l generalizing n with
  | nil => exact ⟨Int.le_refl _, by simp⟩
  | cons a r ih =>
    obtain ⟨h1, h2⟩ := ih (min n a.seq)
    have e : lo n (a :: r) = lo (min n a.seq) r := rfl
    rw [e]
    refine ⟨by omega, fun x hx => ?_⟩
    rcases List.mem_cons.1 hx with rfl | hx
    · omega
    · exact h2 x hx
theorem lo_is (n : Int) (l : List Cl) : lo n l = n ∨ ∃ x ∈ l, lo n l = x.seq := by
  induction l generalizing n with
  | nil => exact .inl rfl
  | cons a r ih =>
    have e : lo n (a :: r) = lo (min n a.seq) r := rfl
    rw [e]
    rcases ih (min n a.seq) with h | ⟨x, hx, h⟩
    · by_cases h2 : n ≤ a.seq
      · left; omega
      · right; exact ⟨a, by simp, by omega⟩
    · exact .inr ⟨x, by simp [hx], h⟩
theorem lo_low {s : St} (h : CA.Inv s) {l : List Cl} (hp : l.Perm s.on) : lo s.next l = CA.low s := by
  obtain ⟨h1, h2⟩ := lo_le s.next l
  have h3 := h.low_le
  have h4 := h.low_rng
  have hx : CA.low s = s.next ∨ ∃ x ∈ l, CA.low s = x.seq := by
    unfold CA.low
    cases ho : s.on with
    | nil => exact .inl rfl
    | cons a r => exact .inr ⟨a, hp.mem_iff.2 (by rw [ho]; simp), rfl⟩
  rcases lo_is s.next l with k | ⟨y, hy, k⟩
  · rcases hx with e | ⟨x, hx, e⟩
    · omega
    · have := h2 x hx; omega
  · have k2 := h3 y (hp.mem_iff.1 hy)
    rcases hx with e | ⟨x, hx, e⟩
    · omega
    · have := h2 x hx; omega
section
variable {w : World} {g M : Nat} {s : St}
set_option maxHeartbeats 2000000 in
theorem Low_any (h : CallsAt w g M s) : Calls Try.prog 14 #[.pointer (some ⟨g, 0, none⟩)] w fun e w' => e = .returned (.int .i64 (CA.low s)) ∧ Below w.heap.size w w' := by
  obtain ⟨w3, hrun, hst, hb3, hs3⟩ := h.map.range (P := Try.prog) (t := 52) Try.underlying52
  have HRUN := Lib.hid hrun; have HST := Lib.hid hst; have HB3 := Lib.hid hb3
  have c1 := h.c1
  have c2 := h.c2
  have HI := Lib.hid h.inv
  clear h hrun hst hb3
  go_enter Try.func14, Try.ntmps14
  go_wp2_with (at_range; refine wp_range rfl _ _ rfl _ _ rfl HRUN.out ?_; clear HRUN)
  go_frame
  go_loopw [3, 4] (fun u _ wr => ∃ ks, u = .int .i64 (lo s.next ks) ∧ Hid (Strolls wr M w.heap.size (.int .i64) (pairsC s.on) (pairsC ks)) ∧ Hid (Below w.heap.size w wr)) (fun _ _ wr => wr.rangeLeft M w.heap.size)
  case atStart => exact ⟨[], rfl, HST, HB3⟩
  case round =>
    obtain ⟨ks, rfl, HS, HB⟩ := hrel
    rcases HS.out.next (P := Try.prog) 0 with ⟨hall, hrun⟩ | ⟨x, v3, w4, hmem, hrun, hst4, hlt, hgr4, hs4, hen⟩
    · have HRUN := Lib.hid hrun; clear hrun
      have HE := Lib.hid (lo_low HI.out (pairsC_perm hall))
      clear hall
      go_wp2_with (at_next; refine wp_next rfl _ rfl _ _ rfl HRUN.out ?_)
      go_ret
      exact ⟨by rw [HE.out]; rfl, HB.out⟩
    · obtain ⟨y, hy, e1⟩ := List.mem_map.1 hmem
      injection e1 with e2 e3
      subst e2
      subst e3
      have HRUN := Lib.hid hrun
      have HST4 := Lib.hid (show Strolls w4 M w.heap.size (.int .i64) (pairsC s.on) (pairsC (ks ++ [y])) by rw [pairsC_snoc]; exact hst4)
      have HB4 := Lib.hid (HB.out.grown hgr4 HB.out.size (fun k hk => by cases hk; exact Nat.le_refl _))
      have HM := Lib.hid (lo_snoc s.next ks y)
      have HLT := Lib.hid hlt
      clear hrun hst4 hgr4 hmem hy hs4 hlt HST
      generalize hL : lo s.next ks = L at *
      go_wp2_with (at_next; refine wp_next rfl _ rfl _ _ rfl HRUN.out ?_)
      go_roundw
      case rel => exact ⟨ks ++ [y], by rw [HM.out]; congr 1; split <;> omega, HST4, HB4⟩
      case measure => exact HLT.out
set_option maxHeartbeats 1000000 in
theorem Low_nil (w : World) : Calls Try.prog 14 #[.pointer none] w fun e w' => e = .returned (.int .i64 0) ∧ w' = w := by
  go_enter Try.func14, Try.ntmps14
  go_wp2_with fail
  go_ret
  exact ⟨rfl, rfl⟩
end
end Go.Proofs.Ytnacchldecjcaaa
