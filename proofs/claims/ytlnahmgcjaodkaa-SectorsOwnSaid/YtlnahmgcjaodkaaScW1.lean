/- The package's small calls: isGen, isSeq, partsOf, number, isSize, mayBe, bytes.Equal. -/
import Derived.Test.YtlnahmgcjaodkaaScMem
namespace Go.Proofs.Ytlnahmgcjaodkaa
open Go.RowKit
open By
set_option linter.unusedVariables false
set_option linter.unusedSimpArgs false
set_option maxRecDepth 100000
theorem isGen_any (n : Int) (w : World) : Calls Try.prog 22 #[.int .i64 n] w fun e w' => e = .returned (.bool (decide (1 ≤ n ∧ n ≤ 1073741824))) ∧ w = w' := by
  go_enter Try.func22, Try.ntmps22
  go_wp2
  all_goals
    go_ret
    exact ⟨ret_bool (by simp_all <;> omega), rfl⟩
theorem isSeq_any (n : Int) (w : World) : Calls Try.prog 23 #[.int .i64 n] w fun e w' => e = .returned (.bool (decide (0 ≤ n ∧ n ≤ 1073741824))) ∧ w = w' := by
  go_enter Try.func23, Try.ntmps23
  go_wp2
  all_goals
    go_ret
    exact ⟨ret_bool (by simp_all <;> omega), rfl⟩
theorem partsOf_any (d : List UInt8) (hd : d.length ≤ 188) (w : World) : Calls Try.prog 24 #[.int .i64 (d.length : Int)] w fun e w' => e = .returned (.int .i64 (SC.np d : Int)) ∧ w = w' := by
  generalize hn : d.length = n at hd
  have HN := Lib.hid hn
  clear hn
  go_enter Try.func24, Try.ntmps24
  go_wp2
  all_goals
    go_ret
    exact ⟨ret_int (by unfold SC.np; rw [HN.out]; omega), rfl⟩
theorem ofFour_of4 {l : List UInt8} (h : 4 ≤ l.length) : ofFour l = SC.of4 l := by
  match l, h with
  | a :: b :: c :: d :: r, _ =>
    unfold ofFour SC.of4
    rw [if_neg (by simp)]
    simp
    omega
theorem of4_lt (l : List UInt8) : SC.of4 l < 4294967296 := by
  unfold SC.of4
  split
  · rename_i a b c d r
    have := a.toNat_lt
    have := b.toNat_lt
    have := c.toNat_lt
    have := d.toNat_lt
    omega
  · omega
theorem number_any (A : Option Addr) (n c : Nat) (l : List UInt8) (w : World) (h : BytesAt w A l) (hn : l.length = n) (h4 : 4 ≤ n) (h3 : n ≤ c) (hc : c ≤ 9223372036854775807) :
    Calls Try.prog 27 #[.slice A n c] w fun e w' => e = .returned (.int .i64 (SC.of4 l : Int)) ∧ w = w' := by
  subst hn
  have HF := OfFour_any A c l w h h3 hc
  rw [ofFour_of4 h4] at HF
  have hlt := of4_lt l
  generalize SC.of4 l = x at HF hlt ⊢
  clear h
  have HC := Lib.hid HF
  clear HF
  go_enter Try.func27, Try.ntmps27
  go_wp2_with (go_at_call 39; refine HC.out.mono ?_; rintro e w' ⟨rfl, rfl⟩)
  go_ret
  exact ⟨rfl, rfl⟩
theorem BytesEqual_any (A B : Option Addr) (n m c d : Nat) (a b : List UInt8) (w : World) (hA : BytesAt w A a) (hB : BytesAt w B b) (hn : a.length = n) (hm : b.length = m) :
    Calls Try.prog 30 #[.slice A n c, .slice B m d] w fun e w' => e = .returned (.bool (decide (a = b))) ∧ w = w' := by
  have h1 := conv_of (c := c) hn.symm hA
  have h2 := conv_of (c := d) hm.symm hB
  clear hA hB
  go_enter Try.func30, Try.ntmps30
  go_wp2_with fail
  go_ret
  exact ⟨ret_bool (by rw [Bool.eq_iff_iff]; simp), rfl⟩
/-- What a part must be but for its bytes' number. -/
def sizeOk (p : SC.Pt) : Prop := if (p.idx : Int) < (p.parts : Int) - 1 then p.data.length = 47 else (0 < p.data.length ∨ p.parts = 1)
instance instSizeOk (p : SC.Pt) : Decidable (sizeOk p) := by unfold sizeOk; infer_instance
def okPt (p : SC.Pt) : Prop := (1 ≤ (p.gen : Int) ∧ (p.gen : Int) ≤ 1073741824) ∧ (0 ≤ (p.seq : Int) ∧ (p.seq : Int) ≤ 1073741824) ∧ (p.idx : Int) < (p.parts : Int) ∧ (p.parts : Int) ≤ 4 ∧ sizeOk p
instance instOkPt (p : SC.Pt) : Decidable (okPt p) := by unfold okPt; infer_instance
theorem okPt_good {p : SC.Pt} (hl : p.data.length ≤ 47) : okPt p ↔ SC.Good p := by
  unfold okPt sizeOk
  constructor
  · rintro ⟨h1, h2, h3, h4, h5⟩
    split at h5 <;> exact ⟨by omega, by omega, by omega, by omega, hl, by omega, by omega⟩
  · rintro ⟨h1, h2, h3, h4, _, h6, h7⟩
    refine ⟨by omega, by omega, by omega, by omega, ?_⟩
    split <;> omega
theorem Whole.part {w : World} {g : Nat} {p : SC.Pt} {v : Value} (h : Whole w g 33 (pcells p v)) : w.cell? ⟨g, 0, none⟩ = some (.int .i64 (p.gen : Int)) ∧ w.cell? ⟨g, 1, none⟩ = some (.int .i64 (p.seq : Int)) ∧ w.cell? ⟨g, 2, none⟩ = some (.int .i64 (p.idx : Int)) ∧ w.cell? ⟨g, 3, none⟩ = some (.int .i64 (p.parts : Int)) ∧ w.cell? ⟨g, 4, none⟩ = some v :=
  ⟨h.cell 0, h.cell 1, h.cell 2, h.cell 3, h.cell 4⟩
set_option maxHeartbeats 2000000 in
theorem isSize_any (p : SC.Pt) (A : Option Addr) (c : Nat) (w : World) (hp : p.parts < 256) (hl : p.data.length ≤ 256) : Calls Try.prog 40 #[pv p (.slice A p.data.length c)] w fun e w' => e = .returned (.bool (decide (sizeOk p))) ∧ Below w.heap.size w w' := by
  unfold sizeOk
  obtain ⟨g, s, i, n, d⟩ := p
  unfold pv pcells
  simp only at hp hl ⊢
  generalize d.length = k at hl ⊢
  go_enter Try.func40, Try.ntmps40
  go_wp2
  all_goals
    go_ret
    exact ⟨ret_bool (by rw [Bool.eq_iff_iff]; simp; try omega), (Below.refl _ w).alloc (Nat.le_refl _) _⟩
set_option maxHeartbeats 4000000 in
theorem mayBe_any (p : SC.Pt) (A : Option Addr) (c : Nat) (w : World) (hp : p.parts < 256) (hi : p.idx < 256) (hg : p.gen < 4294967296) (hs : p.seq < 4294967296) (hl : p.data.length ≤ 47) : Calls Try.prog 29 #[pv p (.slice A p.data.length c)] w fun e w' => e = .returned (.bool (decide (okPt p))) ∧ Below w.heap.size w w' := by
  have hz := isSize_any p A c
  unfold okPt
  obtain ⟨g, s, i, n, d⟩ := p
  unfold pv pcells at *
  simp only at hp hi hg hs hl ⊢ hz
  have HG := Lib.hid (isGen_any (g : Int))
  have HS := Lib.hid (isSeq_any (s : Int))
  have HZ := Lib.hid (fun w => hz w hp (by omega))
  clear hz
  generalize hzz : decide (sizeOk _) = zz at HZ
  have HZZ := Lib.hid hzz
  clear hzz
  generalize d.length = k at *
  go_enter Try.func29, Try.ntmps29
  go_wp2_with (first
    | (go_at_call 22; refine (HG.out _).mono ?_; rintro e w' ⟨rfl, rfl⟩)
    | (go_at_call 23; refine (HS.out _).mono ?_; rintro e w' ⟨rfl, rfl⟩)
    | (go_at_call 40; refine (HZ.out _).mono ?_; rintro e w' ⟨rfl, HB⟩))
  all_goals
    go_ret
    refine ⟨ret_bool ?_, ?_⟩
    · first
        | (rw [← HZZ.out, Bool.eq_iff_iff]; simp only [decide_eq_true_eq]; exact ⟨fun h => ⟨by omega, by omega, by omega, by omega, h⟩, fun h => h.2.2.2.2⟩)
        | (rw [Bool.eq_iff_iff]; simp; omega)
        | (simp_all; done)
        | (simp_all; exact HZZ.out.symm)
    · first
        | exact (Below.refl _ w).alloc (Nat.le_refl _) _
        | exact below_on ((Below.refl _ w).alloc (Nat.le_refl _) _) HB
end Go.Proofs.Ytlnahmgcjaodkaa
