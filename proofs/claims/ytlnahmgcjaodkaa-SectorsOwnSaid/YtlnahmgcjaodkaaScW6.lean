/- The package's part of a record among sectors: told, or given up by a panic. -/
import Derived.Test.YtlnahmgcjaodkaaScW4
namespace Go.Proofs.Ytlnahmgcjaodkaa
open Go.RowKit
open By
set_option linter.unusedVariables false
set_option linter.unusedSimpArgs false
set_option maxRecDepth 100000
/-- What a scan panics with. -/
def misV : Value := .iface 9 (.string ⟨#[97, 32, 115, 101, 99, 116, 111, 114, 32, 116, 104, 97, 116, 32, 100, 111, 101, 115, 110, 39, 116, 32, 102, 105, 116]⟩)
/-- Sector i is part i of this record. -/
def Fits (ss : List (List UInt8)) (g s : Int) (i : Nat) (p : SC.Pt) : Prop := ∃ x, ss[i]? = some x ∧ SC.Is x p ∧ (p.gen : Int) = g ∧ (p.seq : Int) = s ∧ p.idx = i
def PartPost (w : World) (ss : List (List UInt8)) (g s : Int) (i : Nat) (e : Ending) (w' : World) : Prop :=
  Hid (Below w.heap.size w w') ∧ ((∃ p v, Hid (Fits ss g s i p) ∧ e = .returned (pv p v) ∧ Hid (w'.ownsRow w.heap.size 5 1 v p.data.length (u8s p.data))) ∨ (Hid (∀ p, ¬ Fits ss g s i p) ∧ e = .panicked [{ v := misV, recovered := false }]))
theorem results_cell {fn : Func} {q : Tmp} (h : fn.results = #[.cell q 33]) {tmps : Array Value} {w : World} {g : Nat} {p : SC.Pt} {v : Value} (hw : Whole w g 33 (pcells p v)) (hv : v.oneCell' = true) (hq : tmps.getD q undef = .pointer (some ⟨g, 0, none⟩)) :
    (results fn tmps).run Try.prog w = .ok (pv p v) w := by
  have e : (asAddr (tmps.getD q undef)).run Try.prog w = .ok ⟨g, 0, none⟩ w := by rw [hq]; rfl
  unfold results
  rw [h]
  simp [Sem.run_bind, Result.andThen, load_part hw hv] at e ⊢
  rw [e]
  exact load_part hw hv
set_option maxHeartbeats 2000000 in
theorem part_out (A : Option Addr) (n c : Nat) (ss : List (List UInt8)) (g s : Int) (i : Nat) (w : World) (hn : ss.length = n) (hi : n ≤ i) (hi4 : i < 1000) (hnc : n ≤ 9223372036854775807) :
    Calls Try.prog 41 #[.slice A n c, .int .i64 g, .int .i64 s, .int .i64 (i : Int)] w (PartPost w ss g s i) := by
  have HN := Lib.hid hn
  have hI : (n : Int) ≤ (i : Int) := by omega
  clear hn
  go_enter Try.func41, Try.ntmps41
  go_wp2_with fail
  exact ⟨rfl, Lib.hid ((Below.refl _ w).alloc (Nat.le_refl _) _), .inr ⟨Lib.hid (fun p ⟨x, hx, _⟩ => by have := (List.getElem?_eq_some_iff.1 hx).1; have := HN.out; omega), rfl⟩⟩
set_option maxHeartbeats 4000000 in
theorem part_in (A : Option Addr) (n c : Nat) (ss : List (List UInt8)) (g s : Int) (i : Nat) (w : World) (hA : RowsAt w A ss) (hn : ss.length = n) (hi : i < n) (hi4 : i < 1000) (hnc : n ≤ c ∧ c ≤ 9223372036854775807) :
    Calls Try.prog 41 #[.slice A n c, .int .i64 g, .int .i64 s, .int .i64 (i : Int)] w (PartPost w ss g s i) := by
  obtain ⟨b, o, rfl, hbl, hca⟩ := hA (by omega)
  obtain ⟨x, hx⟩ : ∃ x, ss[i]? = some x := ⟨_, List.getElem?_eq_getElem (by omega)⟩
  obtain ⟨A1, c1, a0, hB, hl, hc1⟩ := hca i x hx
  have HX := Lib.hid hx
  have hI : ¬ (n : Int) ≤ (i : Int) := by omega
  have HB0 := Lib.hid ((Below.refl _ w).alloc (Nat.le_refl _) (.cells (pcells ⟨0, 0, 0, 0, []⟩ (.slice none 0 0)) 33))
  have HR0 := Lib.hid (Whole.new w 33 (pcells ⟨0, 0, 0, 0, []⟩ (.slice none 0 0)))
  have HS0 := Lib.hid (show (w.alloc (.cells (pcells ⟨0, 0, 0, 0, []⟩ (.slice none 0 0)) 33)).heap.size = w.heap.size + 1 by simp)
  have a1 : (w.alloc (.cells (pcells ⟨0, 0, 0, 0, []⟩ (.slice none 0 0)) 33)).cell? ⟨b, o + i, none⟩ = some (.slice A1 x.length c1) := (HB0.out.cell (p := ⟨b, o + i, none⟩) hbl).trans a0
  have HLK := Lib.hid (Look_any A1 x.length c1 x _ (hB.below HB0.out) rfl hl hc1)
  unfold pcells at HB0 HR0 HS0 a1 HLK
  simp only [Int.natCast_zero] at HB0 HR0 HS0 a1 HLK
  clear hca hx a0 hB hl hc1 hA hn
  go_enter Try.func41, Try.ntmps41
  go_wp2_with fail
  generalize w.alloc _ = w1 at HB0 HR0 HS0 a1 HLK ⊢
  go_at_call 15
  with_reducible refine HLK.out.mono ?_
  rintro e w5 ⟨HB5, h⟩
  have HR5 := Lib.hid ((Mod.of_below HB5.out []).whole HR0.out (by simp))
  have HBB := Lib.hid (below_on2 HB0.out (.inl (by have := HS0.out; omega)) HB5.out)
  clear a1 HLK
  rcases h with ⟨p, v, HI, rfl, HO⟩ | ⟨HNo, rfl⟩
  · obtain ⟨A6, c6, rfl, _, _⟩ := own_shape HO.out
    have HO5 := Lib.hid (own_base (b := w.heap.size) HO.out (by have := HS0.out; omega))
    have HP : ∀ q, SC.Is x q → p = q := fun q hq => HI.out.uniq hq
    have HP' := Lib.hid HP
    clear HP HO
    obtain ⟨pg, ps, pi, pm, pd⟩ := p
    unfold pv pcells
    by_cases h1 : (pg : Int) = g
    · by_cases h2 : (ps : Int) = s
      · by_cases h3 : pi = i
        · subst h1 h2 h3
          have HL := Lib.hid (show LookSt w ⟨pg, ps, pi, pm, pd⟩ w5.heap.size (.slice A6 pd.length c6) (w5.alloc (.cells (pcells ⟨pg, ps, pi, pm, pd⟩ (.slice A6 pd.length c6)) 33)) from
            ⟨Whole.new _ _ _, HR5.out.alloc _, ((Mod.refl [] w5).alloc _).own HO5.out (by simp), by have := HR5.out.lt; omega, HBB.out.alloc (by have := HR5.out.lt; omega) _⟩)
          have HPUT := Lib.hid (HL.out.put (q := ⟨pg, ps, pi, pm, pd⟩) (u := .slice A6 pd.length c6))
          obtain ⟨⟨r0, r1, r2, r3, r4⟩, f0, f1, f2, f3, f4⟩ := HL.out.resCells
          have HF := Lib.hid (show Fits ss (pg : Int) (ps : Int) pi ⟨pg, ps, pi, pm, pd⟩ from ⟨x, HX.out, HI.out, rfl, rfl, rfl⟩)
          unfold pcells at r0 r1 r2 r3 r4 f0 f1 f2 f3 f4
          simp only at r0 r1 r2 r3 r4 f0 f1 f2 f3 f4
          go_wp2_with fail
          refine bodyPost_ret (v := pv ⟨pg, ps, pi, pm, pd⟩ (.slice A6 pd.length c6)) (results_cell rfl HPUT.out.1 rfl rfl) rfl ?_
          exact ⟨Lib.hid HPUT.out.2.2, .inl ⟨_, _, HF, rfl, Lib.hid HPUT.out.2.1⟩⟩
        · have e3 : ((pi : Int) != (i : Int)) = true := by simp; omega
          have HNF := Lib.hid (show ∀ q, ¬ Fits ss g s i q from fun q ⟨y, hy, hq, k1, k2, k3⟩ => by
            rw [HX.out] at hy
            cases hy
            have := HP'.out q hq
            subst this
            exact h3 k3)
          have HPB := Lib.hid (HBB.out.alloc (by have := HR5.out.lt; omega) (.cells #[.int .i64 (pg : Int), .int .i64 (ps : Int), .int .i64 (pi : Int), .int .i64 (pm : Int), .slice A6 pd.length c6] 33))
          subst h1 h2
          go_wp2_with fail
          exact ⟨rfl, HPB, .inr ⟨HNF, rfl⟩⟩
      · have e2 : ((ps : Int) != s) = true := by simpa using h2
        have HNF := Lib.hid (show ∀ q, ¬ Fits ss g s i q from fun q ⟨y, hy, hq, k1, k2, k3⟩ => by
          rw [HX.out] at hy
          cases hy
          have := HP'.out q hq
          subst this
          exact h2 k2)
        have HPB := Lib.hid (HBB.out.alloc (by have := HR5.out.lt; omega) (.cells #[.int .i64 (pg : Int), .int .i64 (ps : Int), .int .i64 (pi : Int), .int .i64 (pm : Int), .slice A6 pd.length c6] 33))
        subst h1
        go_wp2_with fail
        exact ⟨rfl, HPB, .inr ⟨HNF, rfl⟩⟩
    · have e1 : ((pg : Int) != g) = true := by simpa using h1
      have HNF := Lib.hid (show ∀ q, ¬ Fits ss g s i q from fun q ⟨y, hy, hq, k1, k2, k3⟩ => by
        rw [HX.out] at hy
        cases hy
        have := HP'.out q hq
        subst this
        exact h1 k1)
      have HPB := Lib.hid (HBB.out.alloc (by have := HR5.out.lt; omega) (.cells #[.int .i64 (pg : Int), .int .i64 (ps : Int), .int .i64 (pi : Int), .int .i64 (pm : Int), .slice A6 pd.length c6] 33))
      clear HP'
      go_wp2_with fail
      exact ⟨rfl, HPB, .inr ⟨HNF, rfl⟩⟩
  · have HNF := Lib.hid (show ∀ q, ¬ Fits ss g s i q from fun q ⟨y, hy, hq, _⟩ => by
      rw [HX.out] at hy
      cases hy
      exact HNo.out q hq)
    have HPB := Lib.hid (HBB.out.alloc (by have := HR5.out.lt; omega) (.cells #[.int .i64 0, .int .i64 0, .int .i64 0, .int .i64 0, .slice none 0 0] 33))
    unfold none5
    go_wp2_with fail
    exact ⟨rfl, HPB, .inr ⟨HNF, rfl⟩⟩
theorem part_any (A : Option Addr) (n c : Nat) (ss : List (List UInt8)) (g s : Int) (i : Nat) (w : World) (hA : RowsAt w A ss) (hn : ss.length = n) (hi4 : i < 1000) (hnc : n ≤ c ∧ c ≤ 9223372036854775807) :
    Calls Try.prog 41 #[.slice A n c, .int .i64 g, .int .i64 s, .int .i64 (i : Int)] w (PartPost w ss g s i) := by
  by_cases h : i < n
  · exact part_in A n c ss g s i w hA hn h hi4 hnc
  · exact part_out A n c ss g s i w hn (by omega) hi4 (by omega)
end Go.Proofs.Ytlnahmgcjaodkaa
