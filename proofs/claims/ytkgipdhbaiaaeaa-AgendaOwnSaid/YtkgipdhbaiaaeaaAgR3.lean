/- The document's own answers of layer 13: Take, Same. -/
import Derived.Test.YtkgipdhbaiaaeaaAgR1
import Derived.BigRegion
namespace Go.Proofs.Ytkgipdhbaiaaeaa
open Go.RowKit Go.Sort
open AM (It HS g sw)
set_option linter.unusedVariables false
set_option linter.unusedSimpArgs false
set_option maxRecDepth 100000
def tkI (L : List It) (now : Int) : It := match L with | [] => itz | x :: _ => if x.due ≤ now then x else itz
def tkB (L : List It) (now : Int) : Bool := match L with | [] => false | x :: _ => decide (x.due ≤ now)
theorem tkV_eq (L : List It) (now : Int) : tkV L now = tup (tkI L now) (tkB L now) := by
  cases L with
  | nil => rfl
  | cons x r => by_cases h : x.due ≤ now <;> simp [tkV, tkI, tkB, h]
theorem It.eq_of {a b : It} (h0 : a.due = b.due) (h1 : a.kind = b.kind) (h2 : a.key = b.key) : a = b := AM.It.eq_of h0 h1 h2
theorem ne_of {L M : List It} {i : Nat} (h : g L i ≠ g M i) : decide (L = M) = false := decide_eq_false (fun e => h (by rw [e]))
section
variable {w : World} {A B : Option Addr} {n m c d : Nat} {L M : List It}
set_option maxHeartbeats 2000000 in
theorem RSame (h1 : ItsAt w A L) (h2 : ItsAt w B M) (hn : L.length = n) (hm : M.length = m) (hl : n ≤ 140737488355328) : Calls Try.prog 19 #[.slice A n c, .slice B m d] w fun e w' => e = .returned (.bool (decide (L = M))) ∧ Below w.heap.size w w' := by
  have H1 := Lib.hid h1
  have H2 := Lib.hid h2
  have HN := Lib.hid hn
  have HM := Lib.hid hm
  clear h1 h2 hn hm
  by_cases hnm : n = m
  · subst hnm
    go_enter Try.func19, Try.ntmps19
    go_wp2_with fail
    go_loopw [5] (fun iv wr => ∃ i : Nat, iv = .int .i64 (i : Int) ∧ i ≤ n ∧ Hid (L.take i = M.take i) ∧ Hid (Below w.heap.size w wr)) (fun iv _ => n - (intOf iv).toNat)
    case atStart => exact ⟨0, rfl, Nat.zero_le _, Lib.hid rfl, Lib.hid (Below.refl _ _)⟩
    case round =>
      obtain ⟨i, rfl, hi, HE, HB⟩ := hrel
      by_cases hin : i < n
      · have d1 : ((i : Int) < (n : Int)) := by omega
        have d2 : ((0 : Int) ≤ (i : Int)) := by omega
        have hw : IntKind.i64.wrap ((i : Int) + 1) = (i : Int) + 1 := IntWalk.i64_in _ (by omega)
        obtain ⟨b, o, hA, hb, i0, i1, i2⟩ := (H1.out.below HB.out).at (k := i) (by rw [HN.out]; exact hin)
        obtain ⟨b2, o2, hB, hb2, j0, j1, j2⟩ := (H2.out.below HB.out).at (k := i) (by rw [HM.out]; exact hin)
        subst hA hB
        have HT1 := Lib.hid (take_more (h := L) (k := i) (by rw [HN.out]; exact hin))
        have HT2 := Lib.hid (take_more (h := M) (k := i) (by rw [HM.out]; exact hin))
        have HBQ := Lib.hid (below_on HB.out (drewN_below wr 1))
        by_cases h0 : (g L i).due = (g M i).due
        · by_cases h1 : (g L i).kind = (g M i).kind
          · by_cases h2 : (g L i).key = (g M i).key
            · have hx : g L i = g M i := It.eq_of h0 h1 h2
              rw [← h0] at j0
              rw [← h1] at j1
              rw [← h2] at j2
              have HX := Lib.hid hx
              clear h0 h1 h2 hx
              go_wp2_with fail
              go_still_tail 8, (by kernel_rfl)
              change wpList _ _ _ _ _ wr.drew
              go_wp2_with fail
              go_roundw
              case rel => exact ⟨i + 1, rfl, by omega, Lib.hid (by rw [HT1.out, HT2.out, HE.out, HX.out]), HBQ⟩
              case measure => simp [intOf]; omega
            · have HD := Lib.hid (ne_of (L := L) (M := M) (i := i) (fun e => h2 (by rw [e])))
              rw [← h0] at j0
              rw [← h1] at j1
              clear h0 h1
              go_wp2_with fail
              go_still_tail 8, (by kernel_rfl)
              change wpList _ _ _ _ _ wr.drew
              go_wp2_with fail
              go_ret
              exact ⟨by rw [HD.out]; rfl, HBQ.out⟩
          · have HD := Lib.hid (ne_of (L := L) (M := M) (i := i) (fun e => h1 (by rw [e])))
            rw [← h0] at j0
            clear h0
            go_wp2_with fail
            go_still_tail 8, (by kernel_rfl)
            change wpList _ _ _ _ _ wr.drew
            go_wp2_with fail
            go_ret
            exact ⟨by rw [HD.out]; rfl, HBQ.out⟩
        · have HD := Lib.hid (ne_of (L := L) (M := M) (i := i) (fun e => h0 (by rw [e])))
          go_wp2_with fail
          go_still_tail 8, (by kernel_rfl)
          change wpList _ _ _ _ _ wr.drew
          go_wp2_with fail
          go_ret
          exact ⟨by rw [HD.out]; rfl, HBQ.out⟩
      · have d1 : decide ((i : Int) < (n : Int)) = false := by simp; omega
        have e1 : L = M := by
          have h := HE.out
          rwa [List.take_of_length_le (by rw [HN.out]; omega), List.take_of_length_le (by rw [HM.out]; omega)] at h
        have HD := Lib.hid (decide_eq_true e1)
        clear e1
        go_wp2_with fail
        go_ret
        exact ⟨by rw [HD.out]; rfl, HB.out⟩
  · have hd : decide (L = M) = false := decide_eq_false (fun e => hnm (by rw [← HN.out, ← HM.out, e]))
    rw [hd]
    have hne : ((n : Int) == (m : Int)) = false := by rw [beq_eq_false_iff_ne]; omega
    have hne2 : ¬ ((n : Int) = (m : Int)) := by omega
    clear hd
    go_enter Try.func19, Try.ntmps19
    go_wp2_with fail
    go_ret
    exact ⟨rfl, Below.refl _ _⟩
def RTakePost (w : World) (A : Option Addr) (n c : Nat) (L : List It) (now : Int) (e : Ending) (w' : World) : Prop :=
  ∃ v, e = .returned (.tuple #[v, agg (tkI L now), .bool (tkB L now)]) ∧ Below w.heap.size w w' ∧ ((v = .slice A n c ∧ tkL L now = L) ∨ w'.ownsRow w.heap.size 29 3 v (tkL L now).length (flat (tkL L now)))
set_option maxHeartbeats 4000000 in
theorem RTake (now : Int) (h : ItsAt w A L) (hn : L.length = n) (hm : n ≤ 32) (hg : AM.Good L) : Calls Try.prog 17 #[.slice A n c, .int .i64 now] w (RTakePost w A n c L now) := by
  have HB := Lib.hid (Bx.start w itz)
  have H1 := Lib.hid (h.below HB.out.below)
  have HN := Lib.hid hn
  have HG := Lib.hid hg
  clear h hn hg
  unfold three itz at HB H1
  go_enter Try.func17, Try.ntmps17
  go_upto_region 1 with (fail)
  generalize w.alloc (.cells #[.int .i64 0, .int .i64 0, .int .i64 0] 29) = w0 at HB H1 ⊢
  have HB0 : Hid (Bx w w0 itz) := HB
  clear HB
  obtain ⟨z0, z1, z2⟩ := three_cells HB0.out.whole
  have f0 := HB0.out.whole.frozen 0
  have f1 := HB0.out.whole.frozen 1
  have f2 := HB0.out.whole.frozen 2
  simp only [itz] at z0 z1 z2
  cases L with
  | nil =>
    have h0 : n = 0 := HN.out.symm
    subst h0
    have HB2 := Lib.hid (HB0.out.put itz)
    go_wp2_with fail
    refine bodyPost_ret (v := .tuple #[.slice A 0 c, agg itz, .bool false]) (by simp [results, Try.results17, go_sem, z0, z1, z2, agg, itz]) rfl ?_
    exact ⟨_, rfl, HB2.out.below, .inl ⟨rfl, rfl⟩⟩
  | cons x r =>
    obtain ⟨b, o, hA, hb, i0, i1, i2⟩ := H1.out.at (k := 0) (by simp)
    subst hA
    have i0' : w0.cell? ⟨b, o, none⟩ = some (.int .i64 x.due) := i0
    have i1' : w0.cell? ⟨b, o + 1, none⟩ = some (.int .i64 x.kind) := i1
    have i2' : w0.cell? ⟨b, o + 2, none⟩ = some (.int .i64 x.key) := i2
    clear i0 i1 i2
    have hn0 : 0 < n := by have := HN.out; simp at this; omega
    have hne : ((n : Int) == 0) = false := by rw [beq_eq_false_iff_ne]; omega
    have hlt : (0 : Int) < (n : Int) := by omega
    by_cases hd : x.due ≤ now
    · have hd2 : (now < x.due) = False := by simp; omega
      have HT := Lib.hid HG.out.tail
      have HE1 := Lib.hid (show tkL (x :: r) now = r by simp [tkL, hd])
      have HE2 := Lib.hid (show tkI (x :: r) now = x by simp [tkI, hd])
      have HE3 := Lib.hid (show tkB (x :: r) now = true by simp [tkB, hd])
      go_wp2_with fail
      have HBD := Lib.hid (HB0.out.on ((Below.refl _ w0).drew))
      have HCC := Lib.hid (RDrop (c := c) x.kind x.key (H1.out.below ((Below.refl _ w0).drew)) HN.out (by omega))
      rw [HT.out] at HCC
      have H1D := Lib.hid (H1.out.below ((Below.refl _ w0).drew))
      clear HB0 z0 z1 z2 f0 f1 f2
      go_region_with (go_at_call 12; refine HCC.out.mono ?_; rintro e w2 ⟨v, rfl, hg⟩; have HGG := Lib.hid hg; clear hg)
      all_goals
        have hg := HGG.out
        have HV := Lib.hid hg.1
        have HBD2 := Lib.hid (HBD.out.on hg.2)
        have H1D2 := Lib.hid (H1D.out.below hg.2)
        have HSZ := Lib.hid (show w.heap.size < w0.drew.heap.size from HBD.out.whole.lt)
        clear hg HBD H1D HCC HGG H1 i0' i1' i2' hb
        obtain ⟨z0, z1, z2⟩ := three_cells HBD2.out.whole
        have f0 := HBD2.out.whole.frozen 0
        have f1 := HBD2.out.whole.frozen 1
        have f2 := HBD2.out.whole.frozen 2
        simp only [itz] at z0 z1 z2
        obtain ⟨b3, o3, hA, hb, i0, i1, i2⟩ := H1D2.out.at (k := 0) (by simp)
        injection hA with hA
        injection hA with e1 e2
        subst e1 e2
        have i0' : w2.cell? ⟨b, o, none⟩ = some (.int .i64 x.due) := i0
        have i1' : w2.cell? ⟨b, o + 1, none⟩ = some (.int .i64 x.kind) := i1
        have i2' : w2.cell? ⟨b, o + 2, none⟩ = some (.int .i64 x.key) := i2
        clear i0 i1 i2
        go_wp2_with fail
        go_region
        have HB4 := Lib.hid (HBD2.out.put x)
        have HV4 := Lib.hid ((mod3 w2 w.heap.size 0 1 2 (.int .i64 x.due) (.int .i64 x.kind) (.int .i64 x.key)).own HV.out (fun k hk hf => by
          have h1 := (HV.out.lt k hk).1
          have h2 := HSZ.out
          simp at hf
          omega))
        have hlow : w.heap.size ≤ w0.drew.heap.size := Nat.le_of_lt HSZ.out
        have HBB := Lib.hid HB4.out.below.drew
        go_wp2_with fail
        refine bodyPost_ret (v := .tuple #[v, agg x, .bool true]) (by simp [results, Try.results17, go_sem, z0, z1, z2, agg, itz]) rfl ?_
        refine ⟨_, by rw [HE2.out, HE3.out], HBB.out, .inr ?_⟩
        rw [HE1.out]
        refine ⟨HV4.out.1, ?_⟩
        rcases HV4.out.2 with h0 | ⟨gg, cap, cur, e1, k1, hr⟩
        · exact .inl h0
        · exact .inr ⟨gg, cap, cur, e1, Nat.le_trans hlow k1, hr⟩
    · have hd2 : (now < x.due) = True := by simp; omega
      have HE1 := Lib.hid (show tkL (x :: r) now = x :: r by simp [tkL, hd])
      have HE2 := Lib.hid (show tkI (x :: r) now = itz by simp [tkI, hd])
      have HE3 := Lib.hid (show tkB (x :: r) now = false by simp [tkB, hd])
      have HB2 := Lib.hid (HB0.out.put itz)
      go_wp2_with fail
      refine bodyPost_ret (v := .tuple #[.slice (some ⟨b, o, none⟩) n c, agg itz, .bool false]) (by simp [results, Try.results17, go_sem, z0, z1, z2, agg, itz]) rfl ?_
      exact ⟨_, by rw [HE2.out, HE3.out], HB2.out.below, .inl ⟨rfl, HE1.out⟩⟩
end
end Go.Proofs.Ytkgipdhbaiaaeaa
