/- The document's calls of layer 7: a packet is sent, doubled, taken. -/
import Derived.Test.YtnbfdgccaacdiaaBagW7
namespace Go.Proofs.Ytnbfdgccaacdiaa
open Go.RowKit
open By (BytesAt u8s own_shape)
set_option linter.unusedVariables false
set_option linter.unusedSimpArgs false
set_option maxRecDepth 100000
section
variable {S S' : Nat → Prop} {w : World} {B C : Option Addr} {ps : List Pk}
def bagZ : Array Value := #[.slice none 0 0, .int .i64 0, .int .i64 0]
/-- What stands when a bag is boxed, a packet is boxed, and a bag for the answer is laid. -/
structure Three (w w0 : World) (u v z : Array Value) : Prop where
  below : Below w.heap.size w w0
  size : w0.heap.size = w.heap.size + 3
  one : Whole w0 w.heap.size 28 u
  two : Whole w0 (w.heap.size + 1) 31 v
  tre : Whole w0 (w.heap.size + 1 + 1) 28 z
theorem Three.new (w : World) (u v z : Array Value) : Three w (((w.alloc (.cells u 28)).alloc (.cells v 31)).alloc (.cells z 28)) u v z :=
  ⟨(((Below.refl _ w).alloc (Nat.le_refl _) _).alloc (by simp) _).alloc (by simp; omega) _, by simp, ((Whole.new w _ u).alloc _).alloc _,
    by have h := (Whole.new (w.alloc (.cells u 28)) 31 v).alloc (.cells z 28); simpa using h,
    by have h := Whole.new ((w.alloc (.cells u 28)).alloc (.cells v 31)) 28 z; simpa using h⟩
set_option maxHeartbeats 2000000 in
theorem RefSend_space (n c : Nat) (s q : Int) (p : Pk) (A : Option Addr) (d : Nat) (hl : 200 < p.d.length) (hw : IntKind.i64.wrap (q + 1) = q + 1) (w : World) :
    Calls Try.prog 17 #[.agg (bag3 B n c s q), .agg (three p A d)] w fun e w' => e = .returned (.tuple #[.agg (bag3 B n c s (q + 1)), .int .i64 41]) ∧ Below w.heap.size w w' := by
  have HT := Lib.hid (Three.new w (bag3 B n c s q) (three p A d) bagZ)
  have hd : decide ((200 : Int) < (p.d.length : Int)) = true := by simp; omega
  have hdb : decide (200 < p.d.length) = true := by simp; omega
  clear hl
  unfold bagZ at HT
  go_enter Try.func17, Try.ntmps17
  go_upto_region 1 with (fail)
  generalize ((w.alloc (.cells (bag3 B n c s q) 28)).alloc (.cells (three p A d) 31)).alloc _ = w0 at HT ⊢
  have p0 : w0.cell? ⟨w.heap.size + 1, 0, none⟩ = some (.int .i64 p.frm) := HT.out.two.cell 0
  have p1 : w0.cell? ⟨w.heap.size + 1, 1, none⟩ = some (.int .i64 p.dst) := HT.out.two.cell 1
  have p2 : w0.cell? ⟨w.heap.size + 1, 2, none⟩ = some (.slice A p.d.length d) := HT.out.two.cell 2
  have b0 : w0.cell? ⟨w.heap.size, 0, none⟩ = some (.slice B n c) := HT.out.one.cell 0
  have b1 : w0.cell? ⟨w.heap.size, 1, none⟩ = some (.int .i64 s) := HT.out.one.cell 1
  have b2 : w0.cell? ⟨w.heap.size, 2, none⟩ = some (.int .i64 q) := HT.out.one.cell 2
  have f0 := HT.out.one.frozen 0
  have f1 := HT.out.one.frozen 1
  have f2 := HT.out.one.frozen 2
  have z0 : w0.cell? ⟨w.heap.size + 1 + 1, 0, none⟩ = some (.slice none 0 0) := HT.out.tre.cell 0
  have z1 : w0.cell? ⟨w.heap.size + 1 + 1, 1, none⟩ = some (.int .i64 0) := HT.out.tre.cell 1
  have z2 : w0.cell? ⟨w.heap.size + 1 + 1, 2, none⟩ = some (.int .i64 0) := HT.out.tre.cell 2
  have g0 := HT.out.tre.frozen 0
  have g1 := HT.out.tre.frozen 1
  have g2 := HT.out.tre.frozen 2
  go_wp2_with fail
  refine bodyPost_ret (v := .tuple #[.agg (bag3 B n c s (q + 1)), .int .i64 41]) (by simp [results, Try.results17, go_sem, z0, z1, z2, bag3]) rfl ?_
  exact ⟨rfl, (((HT.out.below.setCell (p := ⟨w.heap.size, 2, none⟩) (Nat.le_refl _) _).setCell (p := ⟨w.heap.size + 1 + 1, 0, none⟩) (by show w.heap.size ≤ w.heap.size + 1 + 1; omega) _).setCell (p := ⟨w.heap.size + 1 + 1, 1, none⟩) (by show w.heap.size ≤ w.heap.size + 1 + 1; omega) _).setCell (p := ⟨w.heap.size + 1 + 1, 2, none⟩) (by show w.heap.size ≤ w.heap.size + 1 + 1; omega) _⟩
set_option maxHeartbeats 2000000 in
theorem RefSend_full (n c : Nat) (s q : Int) (p : Pk) (A : Option Addr) (d : Nat) (hl : p.d.length ≤ 200) (h48 : n = 48) (hw : IntKind.i64.wrap (q + 1) = q + 1) (w : World) :
    Calls Try.prog 17 #[.agg (bag3 B n c s q), .agg (three p A d)] w fun e w' => e = .returned (.tuple #[.agg (bag3 B n c s (q + 1)), .int .i64 51]) ∧ Below w.heap.size w w' := by
  have HT := Lib.hid (Three.new w (bag3 B n c s q) (three p A d) bagZ)
  have hd : decide ((200 : Int) < (p.d.length : Int)) = false := by simp; omega
  have hdb : decide (200 < p.d.length) = false := by simp; omega
  have hd3 : ((n : Int) == 48) = true := by rw [h48]; rfl
  clear hl h48
  unfold bagZ at HT
  go_enter Try.func17, Try.ntmps17
  go_upto_region 1 with (fail)
  generalize ((w.alloc (.cells (bag3 B n c s q) 28)).alloc (.cells (three p A d) 31)).alloc _ = w0 at HT ⊢
  have p0 : w0.cell? ⟨w.heap.size + 1, 0, none⟩ = some (.int .i64 p.frm) := HT.out.two.cell 0
  have p1 : w0.cell? ⟨w.heap.size + 1, 1, none⟩ = some (.int .i64 p.dst) := HT.out.two.cell 1
  have p2 : w0.cell? ⟨w.heap.size + 1, 2, none⟩ = some (.slice A p.d.length d) := HT.out.two.cell 2
  have b0 : w0.cell? ⟨w.heap.size, 0, none⟩ = some (.slice B n c) := HT.out.one.cell 0
  have b1 : w0.cell? ⟨w.heap.size, 1, none⟩ = some (.int .i64 s) := HT.out.one.cell 1
  have b2 : w0.cell? ⟨w.heap.size, 2, none⟩ = some (.int .i64 q) := HT.out.one.cell 2
  have f0 := HT.out.one.frozen 0
  have f1 := HT.out.one.frozen 1
  have f2 := HT.out.one.frozen 2
  have z0 : w0.cell? ⟨w.heap.size + 1 + 1, 0, none⟩ = some (.slice none 0 0) := HT.out.tre.cell 0
  have z1 : w0.cell? ⟨w.heap.size + 1 + 1, 1, none⟩ = some (.int .i64 0) := HT.out.tre.cell 1
  have z2 : w0.cell? ⟨w.heap.size + 1 + 1, 2, none⟩ = some (.int .i64 0) := HT.out.tre.cell 2
  have g0 := HT.out.tre.frozen 0
  have g1 := HT.out.tre.frozen 1
  have g2 := HT.out.tre.frozen 2
  go_wp2_with fail
  refine bodyPost_ret (v := .tuple #[.agg (bag3 B n c s (q + 1)), .int .i64 51]) (by simp [results, Try.results17, go_sem, z0, z1, z2, bag3]) rfl ?_
  exact ⟨rfl, (((HT.out.below.setCell (p := ⟨w.heap.size, 2, none⟩) (Nat.le_refl _) _).setCell (p := ⟨w.heap.size + 1 + 1, 0, none⟩) (by show w.heap.size ≤ w.heap.size + 1 + 1; omega) _).setCell (p := ⟨w.heap.size + 1 + 1, 1, none⟩) (by show w.heap.size ≤ w.heap.size + 1 + 1; omega) _).setCell (p := ⟨w.heap.size + 1 + 1, 2, none⟩) (by show w.heap.size ≤ w.heap.size + 1 + 1; omega) _⟩
set_option maxHeartbeats 4000000 in
theorem RefSend_ok (h : PksAt S w B ps) (c : Nat) (hc : ps.length ≤ c) (s q : Int) (p : Pk) (A : Option Addr) (d : Nat) (hl : p.d.length ≤ 200) (h48 : ps.length < 48) (hD : Data S w A p.d) (hS : ∀ x, w.heap.size ≤ x → S x) (hw : IntKind.i64.wrap (s + 1) = s + 1) :
    Calls Try.prog 17 #[.agg (bag3 B ps.length c s q), .agg (three p A d)] w fun e w' => ∃ B' c', e = .returned (.tuple #[.agg (bag3 B' (ps.length + 1) c' (s + 1) q), .int .i64 0]) ∧ Hid (ps.length + 1 ≤ c' ∧ c' ≤ 9223372036854775807) ∧ Hid (PksAt S w' B' (ps ++ [p])) ∧ Below w.heap.size w w' := by
  have HT := Lib.hid (Three.new w (bag3 B ps.length c s q) (three p A d) bagZ)
  have H := Lib.hid ((h.mono (S' := fun b => S b ∧ (b < w.heap.size ∨ w.heap.size + 3 ≤ b)) (fun x hx hs => ⟨hs, .inl hx⟩)).below HT.out.below)
  have HD := Lib.hid ((hD.mono (S' := fun b => S b ∧ (b < w.heap.size ∨ w.heap.size + 3 ≤ b)) (fun x hx hs => ⟨hs, .inl hx⟩)).below HT.out.below)
  have hd : decide ((200 : Int) < (p.d.length : Int)) = false := by simp; omega
  have hdb : decide (200 < p.d.length) = false := by simp; omega
  have hd3 : ((ps.length : Int) == 48) = false := by simp; omega
  have HSS := Lib.hid hS
  have HN := Lib.hid (And.intro hc h48)
  clear hl h hD hS
  unfold bagZ at HT H HD
  go_enter Try.func17, Try.ntmps17
  go_upto_region 1 with (fail)
  generalize ((w.alloc (.cells (bag3 B ps.length c s q) 28)).alloc (.cells (three p A d) 31)).alloc _ = w0 at HT H HD ⊢
  have p0 : w0.cell? ⟨w.heap.size + 1, 0, none⟩ = some (.int .i64 p.frm) := HT.out.two.cell 0
  have p1 : w0.cell? ⟨w.heap.size + 1, 1, none⟩ = some (.int .i64 p.dst) := HT.out.two.cell 1
  have p2 : w0.cell? ⟨w.heap.size + 1, 2, none⟩ = some (.slice A p.d.length d) := HT.out.two.cell 2
  have b0 : w0.cell? ⟨w.heap.size, 0, none⟩ = some (.slice B ps.length c) := HT.out.one.cell 0
  have b1 : w0.cell? ⟨w.heap.size, 1, none⟩ = some (.int .i64 s) := HT.out.one.cell 1
  have b2 : w0.cell? ⟨w.heap.size, 2, none⟩ = some (.int .i64 q) := HT.out.one.cell 2
  have f0 := HT.out.one.frozen 0
  have f1 := HT.out.one.frozen 1
  have f2 := HT.out.one.frozen 2
  have z0 : w0.cell? ⟨w.heap.size + 1 + 1, 0, none⟩ = some (.slice none 0 0) := HT.out.tre.cell 0
  have z1 : w0.cell? ⟨w.heap.size + 1 + 1, 1, none⟩ = some (.int .i64 0) := HT.out.tre.cell 1
  have z2 : w0.cell? ⟨w.heap.size + 1 + 1, 2, none⟩ = some (.int .i64 0) := HT.out.tre.cell 2
  have g0 := HT.out.tre.frozen 0
  have g1 := HT.out.tre.frozen 1
  have g2 := HT.out.tre.frozen 2
  go_wp2_with fail
  have HM1 := Lib.hid ((Mod.refl [w.heap.size] w0).store (p := ⟨w.heap.size, 1, none⟩) (.inl (by simp)) (.int .i64 (s + 1)))
  have HO1 := Lib.hid (HT.out.one.store 1 (.int .i64 (s + 1)))
  have HS1 := Lib.hid (show (w0.setCell ⟨w.heap.size, 1, none⟩ (.int .i64 (s + 1))).heap.size = w.heap.size + 3 by rw [World.size_setCell]; exact HT.out.size)
  have HZ1 := Lib.hid (HM1.out.whole HT.out.tre (by simp; omega))
  have HB1 := Lib.hid (HT.out.below.setCell (p := ⟨w.heap.size, 1, none⟩) (Nat.le_refl _) (.int .i64 (s + 1)))
  have H1 := Lib.hid (H.out.mod HM1.out (by intro x hx; rw [List.mem_singleton.1 hx]; exact fun hh => by have := hh.2; omega))
  have HD1 := Lib.hid (HD.out.mod HM1.out (by intro x hx; rw [List.mem_singleton.1 hx]; exact fun hh => by have := hh.2; omega))
  clear p0 p1 p2 b0 b1 b2 f0 f1 f2 z0 z1 z2 g0 g1 g2 hd hdb hd3
  generalize w0.setCell ⟨w.heap.size, 1, none⟩ (.int .i64 (s + 1)) = w1 at HM1 HO1 HS1 HZ1 HB1 H1 HD1 ⊢
  clear HT H HD
  refine (RefWith_any H1.out c HN.out.1 (by have := HN.out.2; omega) p A d HD1.out (fun x hx => ⟨HSS.out x (Nat.le_trans HB1.out.size hx), .inr (by have := HS1.out; omega)⟩)).mono ?_
  rintro e w2 ⟨B2, c2, rfl, hc2, hp2, hb2⟩
  have HM2 := Mod.of_below hb2 []
  have HO2 := HM2.whole HO1.out (by simp)
  have HZ2 := HM2.whole HZ1.out (by simp)
  have HB2 := Lib.hid (below_on HB1.out hb2)
  have b0 : w2.cell? ⟨w.heap.size, 0, none⟩ = some (.slice B ps.length c) := HO2.cell 0
  have b1 : w2.cell? ⟨w.heap.size, 1, none⟩ = some (.int .i64 (s + 1)) := HO2.cell 1
  have b2 : w2.cell? ⟨w.heap.size, 2, none⟩ = some (.int .i64 q) := HO2.cell 2
  have f0 := HO2.frozen 0
  have z0 : w2.cell? ⟨w.heap.size + 1 + 1, 0, none⟩ = some (.slice none 0 0) := HZ2.cell 0
  have z1 : w2.cell? ⟨w.heap.size + 1 + 1, 1, none⟩ = some (.int .i64 0) := HZ2.cell 1
  have z2 : w2.cell? ⟨w.heap.size + 1 + 1, 2, none⟩ = some (.int .i64 0) := HZ2.cell 2
  have g0 := HZ2.frozen 0
  have g1 := HZ2.frozen 1
  have g2 := HZ2.frozen 2
  clear HM2 HO2 HZ2 hb2
  go_wp2_with fail
  refine bodyPost_ret (v := .tuple #[.agg (bag3 B2 (ps.length + 1) c2 (s + 1) q), .int .i64 0]) (by simp [results, Try.results17, go_sem, z0, z1, z2, bag3]) rfl ?_
  refine ⟨B2, c2, rfl, hc2, Lib.hid ?_, ?_⟩
  · refine ((hp2.out.mod ((Mod.refl [w.heap.size, w.heap.size + 1 + 1] w2).store (p := ⟨w.heap.size, 0, none⟩) (.inl (by simp)) (.slice B2 (ps.length + 1) c2)) ?_).mod (mod3 _ (w.heap.size + 1 + 1) 0 1 2 _ _ _) ?_).mono (fun b _ hb => hb.1)
    · intro x hx hs
      have h2 := hs.2
      have h3 : x = w.heap.size ∨ x = w.heap.size + 1 + 1 := by simpa using hx
      omega
    · intro x hx hs
      have h2 := hs.2
      rw [List.mem_singleton.1 hx] at h2
      omega
  · exact (((HB2.out.setCell (p := ⟨w.heap.size, 0, none⟩) (Nat.le_refl _) _).setCell (p := ⟨w.heap.size + 1 + 1, 0, none⟩) (by show w.heap.size ≤ w.heap.size + 1 + 1; omega) _).setCell (p := ⟨w.heap.size + 1 + 1, 1, none⟩) (by show w.heap.size ≤ w.heap.size + 1 + 1; omega) _).setCell (p := ⟨w.heap.size + 1 + 1, 2, none⟩) (by show w.heap.size ≤ w.heap.size + 1 + 1; omega) _
end
end Go.Proofs.Ytnbfdgccaacdiaa
