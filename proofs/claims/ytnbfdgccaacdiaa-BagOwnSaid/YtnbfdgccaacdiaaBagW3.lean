/- The bag's calls: a packet comes out. -/
import Derived.Test.YtnbfdgccaacdiaaBagW2
namespace Go.Proofs.Ytnbfdgccaacdiaa
open Go.RowKit
open By (BytesAt u8s own_shape)
set_option linter.unusedVariables false
set_option linter.unusedSimpArgs false
set_option maxRecDepth 100000
section
variable {S : Nat → Prop} {w w' : World} {g : Nat} {ps : List Pk} {s q : Int}
set_option maxHeartbeats 2000000 in
theorem Take_yes (h : BagAt S w g ps s q) {k : Nat} {p : Pk} (hk : ps[k]? = some p) (hl : p.d.length ≤ 140737488355328) :
    Calls Try.prog 8 #[.pointer (some ⟨g, 0, none⟩), .int .i64 (k : Int)] w fun e w' => ∃ A' c', e = .returned (.tuple #[.agg (three p A' c'), .bool true]) ∧ Hid (Data (fun x => w.heap.size < x) w' A' p.d) ∧ Hid (BagAt S w' g (ps.eraseIdx k) s q) ∧ Hid (Mod [g] w w') := by
  have hlt : k < ps.length := (List.getElem?_eq_some_iff.1 hk).1
  have HX := Lib.hid ((Below.refl _ w).alloc (Nat.le_refl _) (.cells zero3 31))
  have HZ := Lib.hid (Whole.new w 31 zero3)
  have HSelf := Lib.hid h.self
  have H := Lib.hid ((h.mono (S' := fun x => S x ∧ x < w.heap.size) (fun x hx hs => ⟨hs, hx⟩) (fun hh => h.self hh.1)).below HX.out)
  have HG := Lib.hid h.lt
  have HK := Lib.hid hk
  have HL := Lib.hid (And.intro hlt hl)
  clear h hk hlt hl
  unfold zero3 at HX HZ H
  go_enter Try.func8, Try.ntmps8
  go_wp2_with fail
  generalize w.alloc (.cells #[Value.int .i64 0, Value.int .i64 0, Value.slice none 0 0] 31) = w0 at HX HZ H ⊢
  refine (Look_yes H.out HK.out HL.out.2).mono ?_
  rintro e w1 ⟨A1, c1, rfl, hd, hb⟩
  have HD := Lib.hid (hd.out.mono (fun x _ hx => Nat.lt_of_le_of_lt (HX.out.size) hx) : Data (fun x => w.heap.size < x) w1 A1 p.d)
  have HB1 := Lib.hid (H.out.below hb.out)
  have HX1 := Lib.hid (below_on HX.out hb.out)
  have HZ1 := Lib.hid ((Mod.of_below hb.out []).whole HZ.out (by simp))
  clear hd hb HX HZ H
  unfold three
  have HNW := Lib.hid (Whole.new w1 31 #[.int .i64 p.frm, .int .i64 p.dst, .slice A1 p.d.length c1])
  have HXN := Lib.hid ((Below.refl _ w1).alloc (Nat.le_refl _) (.cells #[.int .i64 p.frm, .int .i64 p.dst, .slice A1 p.d.length c1] 31))
  have HBN := Lib.hid (HB1.out.below HXN.out)
  have HDN := Lib.hid (HD.out.below HXN.out)
  have HX2 := Lib.hid (below_on HX1.out HXN.out)
  have HZ2 := Lib.hid ((Mod.of_below HXN.out []).whole HZ1.out (by simp))
  have HG1 := Lib.hid (show g < w1.heap.size from HB1.out.lt)
  clear HB1 HD HX1 HZ1 HXN
  go_wp2_with fail
  generalize w1.alloc (.cells #[.int .i64 p.frm, .int .i64 p.dst, .slice A1 p.d.length c1] 31) = w2 at HNW HBN HDN HX2 HZ2 ⊢
  refine (Drop_yes HBN.out HL.out.1).mono ?_
  rintro e w3 ⟨rfl, hb3, hm3⟩
  have HM3 := Lib.hid hm3.out
  have HB3 := Lib.hid hb3.out
  have K := HM3.out.whole HNW.out (by have := HG1.out; simp; omega)
  have HZ3 := Lib.hid (HM3.out.whole HZ2.out (by have := HG.out; simp; omega))
  have HD3 := Lib.hid (HDN.out.mod HM3.out (by have := HG.out; simp; omega))
  have n0 : w3.cell? ⟨w1.heap.size, 0, none⟩ = some (.int .i64 p.frm) := K.cell 0
  have n1 : w3.cell? ⟨w1.heap.size, 1, none⟩ = some (.int .i64 p.dst) := K.cell 1
  have n2 : w3.cell? ⟨w1.heap.size, 2, none⟩ = some (.slice A1 p.d.length c1) := K.cell 2
  have z0 : w3.cell? ⟨w.heap.size, 0, none⟩ = some (.int .i64 0) := HZ3.out.cell 0
  have z1 : w3.cell? ⟨w.heap.size, 1, none⟩ = some (.int .i64 0) := HZ3.out.cell 1
  have z2 : w3.cell? ⟨w.heap.size, 2, none⟩ = some (.slice none 0 0) := HZ3.out.cell 2
  have f0 := HZ3.out.frozen 0
  have f1 := HZ3.out.frozen 1
  have f2 := HZ3.out.frozen 2
  clear K hm3 hb3
  go_wp2_with fail
  refine bodyPost_ret (v := .tuple #[.agg (three p A1 c1), .bool true]) (by simp [results, Try.results8, go_sem, z0, z1, z2, three]) rfl ?_
  have hm := mod3 w3 w.heap.size 0 1 2 (.int .i64 p.frm) (.int .i64 p.dst) (.slice A1 p.d.length c1)
  refine ⟨A1, c1, rfl, Lib.hid (HD3.out.mod hm (by simp)), Lib.hid ?_, Lib.hid ?_⟩
  · exact (HB3.out.mod (by have := HG.out; simp; omega) hm (by intro x hx; rw [List.mem_singleton.1 hx]; exact fun hh => Nat.lt_irrefl _ hh.2)).mono (fun x _ hx => hx.1) HSelf.out
  · exact ((Mod.of_below HX2.out [g]).trans HM3.out (by simp)).trans hm (by simp)
set_option maxHeartbeats 2000000 in
theorem Take_no (h : BagAt S w g ps s q) {k : Int} (hk : k < 0 ∨ (ps.length : Int) ≤ k) :
    Calls Try.prog 8 #[.pointer (some ⟨g, 0, none⟩), .int .i64 k] w fun e w' => e = .returned (.tuple #[.agg zero3, .bool false]) ∧ Below w.heap.size w w' := by
  have HX := Lib.hid ((Below.refl _ w).alloc (Nat.le_refl _) (.cells zero3 31))
  have HZ := Lib.hid (Whole.new w 31 zero3)
  have H := Lib.hid (h.below HX.out)
  have HK := Lib.hid hk
  clear h hk
  unfold zero3 at HX HZ H
  go_enter Try.func8, Try.ntmps8
  go_wp2_with fail
  generalize w.alloc (.cells #[Value.int .i64 0, Value.int .i64 0, Value.slice none 0 0] 31) = w0 at HX HZ H ⊢
  refine (Look_no H.out HK.out).mono ?_
  rintro e w1 ⟨rfl, hb⟩
  have HB1 := Lib.hid (H.out.below hb)
  have HX1 := Lib.hid (below_on HX.out hb)
  have HZ1 := Lib.hid ((Mod.of_below hb []).whole HZ.out (by simp))
  clear hb HX HZ H
  unfold zero3
  have HXN := Lib.hid ((Below.refl _ w1).alloc (Nat.le_refl _) (.cells #[Value.int .i64 0, Value.int .i64 0, Value.slice none 0 0] 31))
  have HNW := Lib.hid (Whole.new w1 31 #[Value.int .i64 0, Value.int .i64 0, Value.slice none 0 0])
  have HBN := Lib.hid (HB1.out.below HXN.out)
  have HX2 := Lib.hid (below_on HX1.out HXN.out)
  have HZ2 := Lib.hid ((Mod.of_below HXN.out []).whole HZ1.out (by simp))
  clear HB1 HX1 HZ1 HXN
  go_wp2_with fail
  generalize w1.alloc (.cells #[Value.int .i64 0, Value.int .i64 0, Value.slice none 0 0] 31) = w2 at HNW HBN HX2 HZ2 ⊢
  refine (Drop_no HBN.out HK.out).mono ?_
  rintro e w3 ⟨rfl, rfl⟩
  have n0 : w2.cell? ⟨w1.heap.size, 0, none⟩ = some (.int .i64 0) := HNW.out.cell 0
  have n1 : w2.cell? ⟨w1.heap.size, 1, none⟩ = some (.int .i64 0) := HNW.out.cell 1
  have n2 : w2.cell? ⟨w1.heap.size, 2, none⟩ = some (.slice none 0 0) := HNW.out.cell 2
  have z0 : w2.cell? ⟨w.heap.size, 0, none⟩ = some (.int .i64 0) := HZ2.out.cell 0
  have z1 : w2.cell? ⟨w.heap.size, 1, none⟩ = some (.int .i64 0) := HZ2.out.cell 1
  have z2 : w2.cell? ⟨w.heap.size, 2, none⟩ = some (.slice none 0 0) := HZ2.out.cell 2
  have f0 := HZ2.out.frozen 0
  have f1 := HZ2.out.frozen 1
  have f2 := HZ2.out.frozen 2
  go_wp2_with fail
  refine bodyPost_ret (v := .tuple #[.agg zero3, .bool false]) (by simp [results, Try.results8, go_sem, z0, z1, z2, zero3]) rfl ?_
  exact ⟨rfl, ((HX2.out.setCell (Nat.le_refl _) _).setCell (Nat.le_refl _) _).setCell (Nat.le_refl _) _⟩
end
set_option maxHeartbeats 2000000 in
theorem Take_nil (w : World) (k : Int) :
    Calls Try.prog 8 #[.pointer none, .int .i64 k] w fun e w' => e = .returned (.tuple #[.agg zero3, .bool false]) ∧ Below w.heap.size w w' := by
  have HX := Lib.hid ((Below.refl _ w).alloc (Nat.le_refl _) (.cells zero3 31))
  have HZ := Lib.hid (Whole.new w 31 zero3)
  unfold zero3 at HX HZ
  go_enter Try.func8, Try.ntmps8
  go_wp2_with fail
  generalize w.alloc (.cells #[Value.int .i64 0, Value.int .i64 0, Value.slice none 0 0] 31) = w0 at HX HZ ⊢
  refine (Look_nil w0 k).mono ?_
  rintro e w1 ⟨rfl, hb⟩
  have HX1 := Lib.hid (below_on HX.out hb)
  have HZ1 := Lib.hid ((Mod.of_below hb []).whole HZ.out (by simp))
  clear hb HX HZ
  unfold zero3
  have HXN := Lib.hid ((Below.refl _ w1).alloc (Nat.le_refl _) (.cells #[Value.int .i64 0, Value.int .i64 0, Value.slice none 0 0] 31))
  have HNW := Lib.hid (Whole.new w1 31 #[Value.int .i64 0, Value.int .i64 0, Value.slice none 0 0])
  have HX2 := Lib.hid (below_on HX1.out HXN.out)
  have HZ2 := Lib.hid ((Mod.of_below HXN.out []).whole HZ1.out (by simp))
  clear HX1 HZ1 HXN
  go_wp2_with fail
  generalize w1.alloc (.cells #[Value.int .i64 0, Value.int .i64 0, Value.slice none 0 0] 31) = w2 at HNW HX2 HZ2 ⊢
  refine (Drop_nil w2 k).mono ?_
  rintro e w3 ⟨rfl, rfl⟩
  have n0 : w2.cell? ⟨w1.heap.size, 0, none⟩ = some (.int .i64 0) := HNW.out.cell 0
  have n1 : w2.cell? ⟨w1.heap.size, 1, none⟩ = some (.int .i64 0) := HNW.out.cell 1
  have n2 : w2.cell? ⟨w1.heap.size, 2, none⟩ = some (.slice none 0 0) := HNW.out.cell 2
  have z0 : w2.cell? ⟨w.heap.size, 0, none⟩ = some (.int .i64 0) := HZ2.out.cell 0
  have z1 : w2.cell? ⟨w.heap.size, 1, none⟩ = some (.int .i64 0) := HZ2.out.cell 1
  have z2 : w2.cell? ⟨w.heap.size, 2, none⟩ = some (.slice none 0 0) := HZ2.out.cell 2
  have f0 := HZ2.out.frozen 0
  have f1 := HZ2.out.frozen 1
  have f2 := HZ2.out.frozen 2
  go_wp2_with fail
  refine bodyPost_ret (v := .tuple #[.agg zero3, .bool false]) (by simp [results, Try.results8, go_sem, z0, z1, z2, zero3]) rfl ?_
  exact ⟨rfl, ((HX2.out.setCell (Nat.le_refl _) _).setCell (Nat.le_refl _) _).setCell (Nat.le_refl _) _⟩
end Go.Proofs.Ytnbfdgccaacdiaa
