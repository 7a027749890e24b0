/- The document's calls of layer 7: a packet is doubled. -/
import Derived.Test.YtnbfdgccaacdiaaBagW11
namespace Go.Proofs.Ytnbfdgccaacdiaa
open Go.RowKit
open By (BytesAt u8s own_shape)
set_option linter.unusedVariables false
set_option linter.unusedSimpArgs false
set_option maxRecDepth 100000
section
variable {S S' : Nat → Prop} {w : World} {B C : Option Addr} {ps : List Pk}
/-- What stands when a bag is boxed, and a bag for the answer is laid. -/
structure Two (w w0 : World) (u z : Array Value) : Prop where
  below : Below w.heap.size w w0
  size : w0.heap.size = w.heap.size + 2
  one : Whole w0 w.heap.size 28 u
  two : Whole w0 (w.heap.size + 1) 28 z
theorem Two.new (w : World) (u z : Array Value) : Two w ((w.alloc (.cells u 28)).alloc (.cells z 28)) u z :=
  ⟨((Below.refl _ w).alloc (Nat.le_refl _) _).alloc (by simp) _, by simp, (Whole.new w _ u).alloc _,
    by have h := Whole.new (w.alloc (.cells u 28)) 28 z; simpa using h⟩
set_option maxHeartbeats 4000000 in
theorem RefDouble_gone (n c : Nat) (s q : Int) {k : Int} (hk : k < 0 ∨ (n : Int) ≤ k) (w : World) :
    Calls Try.prog 13 #[.agg (bag3 B n c s q), .int .i64 k] w fun e w' => e = .returned (.tuple #[.agg (bag3 B n c s q), .int .i64 72]) ∧ Below w.heap.size w w' := by
  have HT := Lib.hid (Two.new w (bag3 B n c s q) bagZ)
  unfold bagZ at HT
  go_enter Try.func13, Try.ntmps13
  go_upto_region 1 with (fail)
  generalize (w.alloc (.cells (bag3 B n c s q) 28)).alloc _ = w0 at HT ⊢
  have b0 : w0.cell? ⟨w.heap.size, 0, none⟩ = some (.slice B n c) := HT.out.one.cell 0
  have b1 : w0.cell? ⟨w.heap.size, 1, none⟩ = some (.int .i64 s) := HT.out.one.cell 1
  have b2 : w0.cell? ⟨w.heap.size, 2, none⟩ = some (.int .i64 q) := HT.out.one.cell 2
  go_wp2_with fail
  clear b0 b1 b2
  refine (RefLook_no n c s q hk w0).mono ?_
  rintro e w1 ⟨rfl, hb⟩
  unfold zero3
  have hA := hb.trans ((Below.refl _ w1).alloc hb.size (.cells #[Value.int .i64 0, Value.int .i64 0, Value.slice none 0 0] 31))
  have HX2 := Lib.hid (below_on HT.out.below hA)
  have HO2 := (Mod.of_below hA []).whole HT.out.one (by simp)
  have HZ2 := (Mod.of_below hA []).whole HT.out.two (by simp)
  go_upto_region 2 with (fail)
  generalize w1.alloc (.cells #[Value.int .i64 0, Value.int .i64 0, Value.slice none 0 0] 31) = w2 at HX2 HO2 HZ2 ⊢
  have b0 : w2.cell? ⟨w.heap.size, 0, none⟩ = some (.slice B n c) := HO2.cell 0
  have b1 : w2.cell? ⟨w.heap.size, 1, none⟩ = some (.int .i64 s) := HO2.cell 1
  have b2 : w2.cell? ⟨w.heap.size, 2, none⟩ = some (.int .i64 q) := HO2.cell 2
  have f0 := HO2.frozen 0
  have z0 : w2.cell? ⟨w.heap.size + 1, 0, none⟩ = some (.slice none 0 0) := HZ2.cell 0
  have z1 : w2.cell? ⟨w.heap.size + 1, 1, none⟩ = some (.int .i64 0) := HZ2.cell 1
  have z2 : w2.cell? ⟨w.heap.size + 1, 2, none⟩ = some (.int .i64 0) := HZ2.cell 2
  have g0 := HZ2.frozen 0
  have g1 := HZ2.frozen 1
  have g2 := HZ2.frozen 2
  clear HO2 HZ2 hA hb
  go_wp2_with fail
  refine bodyPost_ret (v := .tuple #[.agg (bag3 B n c s q), .int .i64 72]) (by simp [results, Try.results13, go_sem, z0, z1, z2, bag3]) rfl ?_
  exact ⟨rfl, ((HX2.out.setCell (p := ⟨w.heap.size + 1, 0, none⟩) (by simp) _).setCell (p := ⟨w.heap.size + 1, 1, none⟩) (by simp) _).setCell (p := ⟨w.heap.size + 1, 2, none⟩) (by simp) _⟩
set_option maxHeartbeats 4000000 in
theorem RefDouble_full (h : PksAt S w B ps) (c : Nat) (hc : ps.length ≤ c) (s q : Int) {k : Nat} {p : Pk} (hk : ps[k]? = some p) (h48 : ps.length = 48) (hS : ∀ x, w.heap.size ≤ x → S x) :
    Calls Try.prog 13 #[.agg (bag3 B ps.length c s q), .int .i64 (k : Int)] w fun e w' => e = .returned (.tuple #[.agg (bag3 B ps.length c s q), .int .i64 51]) ∧ Below w.heap.size w w' := by
  have HT := Lib.hid (Two.new w (bag3 B ps.length c s q) bagZ)
  have H := Lib.hid ((h.mono (S' := fun b => S b ∧ (b < w.heap.size ∨ w.heap.size + 2 ≤ b)) (fun x hx hs => ⟨hs, .inl hx⟩)).below HT.out.below)
  have HK := Lib.hid hk
  have HSS := Lib.hid hS
  clear h hk hS
  have H48 := Lib.hid h48
  clear h48
  unfold bagZ at HT H
  go_enter Try.func13, Try.ntmps13
  go_upto_region 1 with (fail)
  generalize (w.alloc (.cells (bag3 B ps.length c s q) 28)).alloc _ = w0 at HT H ⊢
  have b0 : w0.cell? ⟨w.heap.size, 0, none⟩ = some (.slice B ps.length c) := HT.out.one.cell 0
  have b1 : w0.cell? ⟨w.heap.size, 1, none⟩ = some (.int .i64 s) := HT.out.one.cell 1
  have b2 : w0.cell? ⟨w.heap.size, 2, none⟩ = some (.int .i64 q) := HT.out.one.cell 2
  go_wp2_with fail
  clear b0 b1 b2
  refine (RefLook_yes H.out c s q HK.out).mono ?_
  rintro e w1 ⟨A1, c1, rfl, hd, hb⟩
  have hA := hb.trans ((Below.refl _ w1).alloc hb.size (.cells #[.int .i64 p.frm, .int .i64 p.dst, .slice A1 p.d.length c1] 31))
  have HX2 := Lib.hid (below_on HT.out.below hA)
  have HO2 := (Mod.of_below hA []).whole HT.out.one (by simp)
  have HZ2 := (Mod.of_below hA []).whole HT.out.two (by simp)
  have H2 := Lib.hid (H.out.below hA)
  have HD2 := Lib.hid (hd.out.below ((Below.refl _ w1).alloc (Nat.le_refl _) (.cells #[.int .i64 p.frm, .int .i64 p.dst, .slice A1 p.d.length c1] 31)))
  have HQ2 := Lib.hid (Whole.new w1 31 #[.int .i64 p.frm, .int .i64 p.dst, .slice A1 p.d.length c1])
  have HSZ := Lib.hid (show w.heap.size + 2 ≤ _ from (by have h1 := HT.out.size; have h2 := hA.size; omega : w.heap.size + 2 ≤ (w1.alloc (.cells #[.int .i64 p.frm, .int .i64 p.dst, .slice A1 p.d.length c1] 31)).heap.size))
  have HW1 := Lib.hid (show w.heap.size + 2 ≤ w1.heap.size by have h1 := HT.out.size; have h2 := hb.size; omega)
  unfold three
  go_upto_region 2 with (fail)
  generalize w1.alloc (.cells #[.int .i64 p.frm, .int .i64 p.dst, .slice A1 p.d.length c1] 31) = w2 at HX2 HO2 HZ2 H2 HD2 HQ2 HSZ ⊢
  have p0 : w2.cell? ⟨w1.heap.size, 0, none⟩ = some (.int .i64 p.frm) := HQ2.out.cell 0
  have p1 : w2.cell? ⟨w1.heap.size, 1, none⟩ = some (.int .i64 p.dst) := HQ2.out.cell 1
  have p2 : w2.cell? ⟨w1.heap.size, 2, none⟩ = some (.slice A1 p.d.length c1) := HQ2.out.cell 2
  have b0 : w2.cell? ⟨w.heap.size, 0, none⟩ = some (.slice B ps.length c) := HO2.cell 0
  have b1 : w2.cell? ⟨w.heap.size, 1, none⟩ = some (.int .i64 s) := HO2.cell 1
  have b2 : w2.cell? ⟨w.heap.size, 2, none⟩ = some (.int .i64 q) := HO2.cell 2
  have f0 := HO2.frozen 0
  have z0 : w2.cell? ⟨w.heap.size + 1, 0, none⟩ = some (.slice none 0 0) := HZ2.cell 0
  have z1 : w2.cell? ⟨w.heap.size + 1, 1, none⟩ = some (.int .i64 0) := HZ2.cell 1
  have z2 : w2.cell? ⟨w.heap.size + 1, 2, none⟩ = some (.int .i64 0) := HZ2.cell 2
  have g0 := HZ2.frozen 0
  have g1 := HZ2.frozen 1
  have g2 := HZ2.frozen 2
  have hd3 : ((ps.length : Int) == 48) = true := by rw [H48.out]; rfl
  clear HO2 HZ2 hA hb hd
  go_wp2_with fail
  refine bodyPost_ret (v := .tuple #[.agg (bag3 B ps.length c s q), .int .i64 51]) (by simp [results, Try.results13, go_sem, z0, z1, z2, bag3]) rfl ?_
  exact ⟨rfl, ((HX2.out.setCell (p := ⟨w.heap.size + 1, 0, none⟩) (by simp) _).setCell (p := ⟨w.heap.size + 1, 1, none⟩) (by simp) _).setCell (p := ⟨w.heap.size + 1, 2, none⟩) (by simp) _⟩
set_option maxHeartbeats 4000000 in
theorem RefDouble_ok (h : PksAt S w B ps) (c : Nat) (hc : ps.length ≤ c) (s q : Int) {k : Nat} {p : Pk} (hk : ps[k]? = some p) (h48 : ps.length < 48) (hS : ∀ x, w.heap.size ≤ x → S x) :
    Calls Try.prog 13 #[.agg (bag3 B ps.length c s q), .int .i64 (k : Int)] w fun e w' => ∃ B' c', e = .returned (.tuple #[.agg (bag3 B' (ps.length + 1) c' s q), .int .i64 0]) ∧ Hid (ps.length + 1 ≤ c' ∧ c' ≤ 9223372036854775807) ∧ Hid (PksAt S w' B' (ps ++ [p])) ∧ Below w.heap.size w w' := by
  have HT := Lib.hid (Two.new w (bag3 B ps.length c s q) bagZ)
  have H := Lib.hid ((h.mono (S' := fun b => S b ∧ (b < w.heap.size ∨ w.heap.size + 2 ≤ b)) (fun x hx hs => ⟨hs, .inl hx⟩)).below HT.out.below)
  have HK := Lib.hid hk
  have HSS := Lib.hid hS
  clear h hk hS
  unfold bagZ at HT H
  go_enter Try.func13, Try.ntmps13
  go_upto_region 1 with (fail)
  generalize (w.alloc (.cells (bag3 B ps.length c s q) 28)).alloc _ = w0 at HT H ⊢
  have b0 : w0.cell? ⟨w.heap.size, 0, none⟩ = some (.slice B ps.length c) := HT.out.one.cell 0
  have b1 : w0.cell? ⟨w.heap.size, 1, none⟩ = some (.int .i64 s) := HT.out.one.cell 1
  have b2 : w0.cell? ⟨w.heap.size, 2, none⟩ = some (.int .i64 q) := HT.out.one.cell 2
  go_wp2_with fail
  clear b0 b1 b2
  refine (RefLook_yes H.out c s q HK.out).mono ?_
  rintro e w1 ⟨A1, c1, rfl, hd, hb⟩
  have hA := hb.trans ((Below.refl _ w1).alloc hb.size (.cells #[.int .i64 p.frm, .int .i64 p.dst, .slice A1 p.d.length c1] 31))
  have HX2 := Lib.hid (below_on HT.out.below hA)
  have HO2 := (Mod.of_below hA []).whole HT.out.one (by simp)
  have HZ2 := (Mod.of_below hA []).whole HT.out.two (by simp)
  have H2 := Lib.hid (H.out.below hA)
  have HD2 := Lib.hid (hd.out.below ((Below.refl _ w1).alloc (Nat.le_refl _) (.cells #[.int .i64 p.frm, .int .i64 p.dst, .slice A1 p.d.length c1] 31)))
  have HQ2 := Lib.hid (Whole.new w1 31 #[.int .i64 p.frm, .int .i64 p.dst, .slice A1 p.d.length c1])
  have HSZ := Lib.hid (show w.heap.size + 2 ≤ _ from (by have h1 := HT.out.size; have h2 := hA.size; omega : w.heap.size + 2 ≤ (w1.alloc (.cells #[.int .i64 p.frm, .int .i64 p.dst, .slice A1 p.d.length c1] 31)).heap.size))
  have HW1 := Lib.hid (show w.heap.size + 2 ≤ w1.heap.size by have h1 := HT.out.size; have h2 := hb.size; omega)
  unfold three
  go_upto_region 2 with (fail)
  generalize w1.alloc (.cells #[.int .i64 p.frm, .int .i64 p.dst, .slice A1 p.d.length c1] 31) = w2 at HX2 HO2 HZ2 H2 HD2 HQ2 HSZ ⊢
  have p0 : w2.cell? ⟨w1.heap.size, 0, none⟩ = some (.int .i64 p.frm) := HQ2.out.cell 0
  have p1 : w2.cell? ⟨w1.heap.size, 1, none⟩ = some (.int .i64 p.dst) := HQ2.out.cell 1
  have p2 : w2.cell? ⟨w1.heap.size, 2, none⟩ = some (.slice A1 p.d.length c1) := HQ2.out.cell 2
  have b0 : w2.cell? ⟨w.heap.size, 0, none⟩ = some (.slice B ps.length c) := HO2.cell 0
  have b1 : w2.cell? ⟨w.heap.size, 1, none⟩ = some (.int .i64 s) := HO2.cell 1
  have b2 : w2.cell? ⟨w.heap.size, 2, none⟩ = some (.int .i64 q) := HO2.cell 2
  have f0 := HO2.frozen 0
  have z0 : w2.cell? ⟨w.heap.size + 1, 0, none⟩ = some (.slice none 0 0) := HZ2.cell 0
  have z1 : w2.cell? ⟨w.heap.size + 1, 1, none⟩ = some (.int .i64 0) := HZ2.cell 1
  have z2 : w2.cell? ⟨w.heap.size + 1, 2, none⟩ = some (.int .i64 0) := HZ2.cell 2
  have g0 := HZ2.frozen 0
  have g1 := HZ2.frozen 1
  have g2 := HZ2.frozen 2
  have hd3 : ((ps.length : Int) == 48) = false := by simp; omega
  have HN := Lib.hid (And.intro hc h48)
  have HO2h := Lib.hid HO2
  have HZ2h := Lib.hid HZ2
  clear HO2 HZ2 hA hb hd h48
  go_wp2_with fail
  clear p0 p1 p2 b0 b1 b2 f0 z0 z1 z2 g0 g1 g2 hd3
  refine (RefWith_any H2.out c HN.out.1 (by have := HN.out.2; omega) p A1 c1 HD2.out (fun x hx => ⟨HSS.out x (Nat.le_trans HX2.out.size hx), .inr (by have := HSZ.out; omega)⟩)).mono ?_
  rintro e w3 ⟨B3, c3, rfl, hc3, hp3, hb3⟩
  have HO3 := (Mod.of_below hb3 []).whole HO2h.out (by simp)
  have HZ3 := (Mod.of_below hb3 []).whole HZ2h.out (by simp)
  have HX3 := Lib.hid (below_on HX2.out hb3)
  have b0 : w3.cell? ⟨w.heap.size, 0, none⟩ = some (.slice B ps.length c) := HO3.cell 0
  have b1 : w3.cell? ⟨w.heap.size, 1, none⟩ = some (.int .i64 s) := HO3.cell 1
  have b2 : w3.cell? ⟨w.heap.size, 2, none⟩ = some (.int .i64 q) := HO3.cell 2
  have f0 := HO3.frozen 0
  have z0 : w3.cell? ⟨w.heap.size + 1, 0, none⟩ = some (.slice none 0 0) := HZ3.cell 0
  have z1 : w3.cell? ⟨w.heap.size + 1, 1, none⟩ = some (.int .i64 0) := HZ3.cell 1
  have z2 : w3.cell? ⟨w.heap.size + 1, 2, none⟩ = some (.int .i64 0) := HZ3.cell 2
  have g0 := HZ3.frozen 0
  have g1 := HZ3.frozen 1
  have g2 := HZ3.frozen 2
  clear HO3 HZ3 hb3
  go_wp2_with fail
  refine bodyPost_ret (v := .tuple #[.agg (bag3 B3 (ps.length + 1) c3 s q), .int .i64 0]) (by simp [results, Try.results13, go_sem, z0, z1, z2, bag3]) rfl ?_
  refine ⟨B3, c3, rfl, hc3, Lib.hid ?_, ?_⟩
  · refine ((hp3.out.mod ((Mod.refl [w.heap.size] w3).store (p := ⟨w.heap.size, 0, none⟩) (.inl (by simp)) (.slice B3 (ps.length + 1) c3)) ?_).mod (mod3 _ (w.heap.size + 1) 0 1 2 _ _ _) ?_).mono (fun b _ hb => hb.1)
    · intro x hx hs
      have h2 := hs.2
      rw [List.mem_singleton.1 hx] at h2
      omega
    · intro x hx hs
      have h2 := hs.2
      rw [List.mem_singleton.1 hx] at h2
      omega
  · exact (((HX3.out.setCell (p := ⟨w.heap.size, 0, none⟩) (Nat.le_refl _) _).setCell (p := ⟨w.heap.size + 1, 0, none⟩) (by simp) _).setCell (p := ⟨w.heap.size + 1, 1, none⟩) (by simp) _).setCell (p := ⟨w.heap.size + 1, 2, none⟩) (by simp) _
end
end Go.Proofs.Ytnbfdgccaacdiaa
