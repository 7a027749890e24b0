/- Look and Take of the bag, whose answers' bytes are the call's own; Double, of the bag and of the document's, whatever stands at the place. -/
import Derived.Test.YtnbfdgccaacdiaaBagPl
namespace Go.Proofs.Ytnbfdgccaacdiaa.Own
open Go.RowKit
open By (BytesAt u8s own_shape)
set_option linter.unusedVariables false
set_option linter.unusedSimpArgs false
set_option maxRecDepth 100000
theorem low_ne {w : World} {b n : Nat} {v : Value} {xs : List Value} (h : w.ownsRow (b + 1) 5 1 v n xs) : ∀ k, v.ownBlock = some k → k ∉ [b] := fun k hk hx => by
  have := (h.lt k hk).1
  have e := List.mem_singleton.1 hx
  omega
section
variable {S : Nat → Prop} {w w' : World} {g : Nat} {ps : List Pk} {s q : Int}
set_option maxHeartbeats 1000000 in
theorem Look_own (h : BagAt S w g ps s q) {k : Nat} {p : Pk} (hk : ps[k]? = some p) (hl : p.d.length ≤ 140737488355328) :
    Calls Try.prog 7 #[.pointer (some ⟨g, 0, none⟩), .int .i64 (k : Int)] w fun e w' => ∃ A' c', e = .returned (.tuple #[.agg (three p A' c'), .bool true]) ∧ Hid (w'.ownsRow (w.heap.size + 1) 5 1 (.slice A' p.d.length c') p.d.length (u8s p.d)) ∧ Hid (Below w.heap.size w w') := by
  have hlt : k < ps.length := (List.getElem?_eq_some_iff.1 hk).1
  have h48 := h.le
  have H := Lib.hid h
  have HK := Lib.hid hk
  have HX := Lib.hid ((Below.refl _ w).alloc (Nat.le_refl _) (.cells zero3 31))
  have HZ := Lib.hid (Whole.new w 31 zero3)
  clear h hk
  unfold zero3 at HX HZ
  go_enter Try.func7, Try.ntmps7
  go_wp2_with fail
  generalize w.alloc (.cells #[Value.int .i64 0, Value.int .i64 0, Value.slice none 0 0] 31) = w0 at HX HZ ⊢
  have H0 := Lib.hid (H.out.below HX.out)
  refine (has_yes H0.out hlt).mono ?_
  rintro e w1 ⟨rfl, rfl⟩
  obtain ⟨A, c, a0, a1, a2, hd⟩ := H0.out.pk HK.out
  have HD := Lib.hid hd
  clear hd
  go_wp2_with fail
  clear a0 a1 a2
  refine (owned_any p A c w0 HD.out.bytes hl).mono ?_
  rintro e w1 ⟨A1, c1, rfl, hd1, hb1⟩
  have HD1 := Lib.hid (own_low hd1.out (show w.heap.size + 1 ≤ w0.heap.size from HZ.out.lt))
  have HX1 := Lib.hid (below_on HX.out hb1)
  have K1 := (Mod.of_below hb1 []).whole HZ.out (by simp)
  have z0 : w1.cell? ⟨w.heap.size, 0, none⟩ = some (.int .i64 0) := K1.cell 0
  have z1 : w1.cell? ⟨w.heap.size, 1, none⟩ = some (.int .i64 0) := K1.cell 1
  have z2 : w1.cell? ⟨w.heap.size, 2, none⟩ = some (.slice none 0 0) := K1.cell 2
  have f0 := K1.frozen 0
  have f1 := K1.frozen 1
  have f2 := K1.frozen 2
  clear hd1 hb1 K1
  unfold three
  go_wp2_with fail
  refine bodyPost_ret (v := .tuple #[.agg (three p A1 c1), .bool true]) (by simp [results, Try.results7, go_sem, z0, z1, z2, three]) rfl ?_
  exact ⟨A1, c1, rfl, Lib.hid ((mod3 w1 w.heap.size 0 1 2 _ _ _).own HD1.out (low_ne HD1.out)), Lib.hid (((HX1.out.setCell (Nat.le_refl _) _).setCell (Nat.le_refl _) _).setCell (Nat.le_refl _) _)⟩
set_option maxHeartbeats 2000000 in
theorem Take_own (h : BagAt S w g ps s q) {k : Nat} {p : Pk} (hk : ps[k]? = some p) (hl : p.d.length ≤ 140737488355328) :
    Calls Try.prog 8 #[.pointer (some ⟨g, 0, none⟩), .int .i64 (k : Int)] w fun e w' => ∃ A' c', e = .returned (.tuple #[.agg (three p A' c'), .bool true]) ∧ Hid (w'.ownsRow (w.heap.size + 1) 5 1 (.slice A' p.d.length c') p.d.length (u8s p.d)) ∧ Hid (BagAt S w' g (ps.eraseIdx k) s q) ∧ Hid (Mod [g] w w') := by
  have hlt : k < ps.length := (List.getElem?_eq_some_iff.1 hk).1
  have HX := Lib.hid ((Below.refl _ w).alloc (Nat.le_refl _) (.cells zero3 31))
  have HZ := Lib.hid (Whole.new w 31 zero3)
  have HSelf := Lib.hid h.self
  have H := Lib.hid ((h.mono (S' := fun x => S x ∧ x < w.heap.size) (fun x hx hs => ⟨hs, hx⟩) (fun hh => h.self hh.1)).below HX.out)
  have HG := Lib.hid h.lt
  have HK := Lib.hid hk
  have HL := Lib.hid (And.intro hlt hl)
  clear h hk hlt hl
  unfold zero3 at HX HZ H
  go_enter Try.func8, Try.ntmps8
  go_wp2_with fail
  generalize w.alloc (.cells #[Value.int .i64 0, Value.int .i64 0, Value.slice none 0 0] 31) = w0 at HX HZ H ⊢
  refine (Look_own H.out HK.out HL.out.2).mono ?_
  rintro e w1 ⟨A1, c1, rfl, hd, hb⟩
  have HD := Lib.hid (own_low hd.out (show w.heap.size + 1 ≤ w0.heap.size + 1 from by have := HX.out.size; omega))
  have HB1 := Lib.hid (H.out.below hb.out)
  have HX1 := Lib.hid (below_on HX.out hb.out)
  have HZ1 := Lib.hid ((Mod.of_below hb.out []).whole HZ.out (by simp))
  clear hd hb HX HZ H
  unfold three
  have HNW := Lib.hid (Whole.new w1 31 #[.int .i64 p.frm, .int .i64 p.dst, .slice A1 p.d.length c1])
  have HXN := Lib.hid ((Below.refl _ w1).alloc (Nat.le_refl _) (.cells #[.int .i64 p.frm, .int .i64 p.dst, .slice A1 p.d.length c1] 31))
  have HBN := Lib.hid (HB1.out.below HXN.out)
  have HDN := Lib.hid ((Mod.of_below HXN.out []).own HD.out (by simp))
  have HX2 := Lib.hid (below_on HX1.out HXN.out)
  have HZ2 := Lib.hid ((Mod.of_below HXN.out []).whole HZ1.out (by simp))
  have HG1 := Lib.hid (show g < w1.heap.size from HB1.out.lt)
  clear HB1 HD HX1 HZ1 HXN
  go_wp2_with fail
  generalize w1.alloc (.cells #[.int .i64 p.frm, .int .i64 p.dst, .slice A1 p.d.length c1] 31) = w2 at HNW HBN HDN HX2 HZ2 ⊢
  refine (Drop_yes HBN.out HL.out.1).mono ?_
  rintro e w3 ⟨rfl, hb3, hm3⟩
  have HM3 := Lib.hid hm3.out
  have HB3 := Lib.hid hb3.out
  have K := HM3.out.whole HNW.out (by have := HG1.out; simp; omega)
  have HZ3 := Lib.hid (HM3.out.whole HZ2.out (by have := HG.out; simp; omega))
  have HD3 := Lib.hid (HM3.out.own HDN.out (fun k hk hx => by have h1 := (HDN.out.lt k hk).1; have h2 := HG.out; have e := List.mem_singleton.1 hx; omega))
  have n0 : w3.cell? ⟨w1.heap.size, 0, none⟩ = some (.int .i64 p.frm) := K.cell 0
  have n1 : w3.cell? ⟨w1.heap.size, 1, none⟩ = some (.int .i64 p.dst) := K.cell 1
  have n2 : w3.cell? ⟨w1.heap.size, 2, none⟩ = some (.slice A1 p.d.length c1) := K.cell 2
  have z0 : w3.cell? ⟨w.heap.size, 0, none⟩ = some (.int .i64 0) := HZ3.out.cell 0
  have z1 : w3.cell? ⟨w.heap.size, 1, none⟩ = some (.int .i64 0) := HZ3.out.cell 1
  have z2 : w3.cell? ⟨w.heap.size, 2, none⟩ = some (.slice none 0 0) := HZ3.out.cell 2
  have f0 := HZ3.out.frozen 0
  have f1 := HZ3.out.frozen 1
  have f2 := HZ3.out.frozen 2
  clear K hm3 hb3
  go_wp2_with fail
  refine bodyPost_ret (v := .tuple #[.agg (three p A1 c1), .bool true]) (by simp [results, Try.results8, go_sem, z0, z1, z2, three]) rfl ?_
  have hm := mod3 w3 w.heap.size 0 1 2 (.int .i64 p.frm) (.int .i64 p.dst) (.slice A1 p.d.length c1)
  refine ⟨A1, c1, rfl, Lib.hid (hm.own HD3.out (low_ne HD3.out)), Lib.hid ?_, Lib.hid ?_⟩
  · exact (HB3.out.mod (by have := HG.out; simp; omega) hm (by intro x hx; rw [List.mem_singleton.1 hx]; exact fun hh => Nat.lt_irrefl _ hh.2)).mono (fun x _ hx => hx.1) HSelf.out
  · exact ((Mod.of_below HX2.out [g]).trans HM3.out (by simp)).trans hm (by simp)
end
/-- A bag in which the packet at k stands twice, if there is one and there is room. -/
def dbl (b : Bg) (k : Int) : Bg := if h : 0 ≤ k ∧ k.toNat < b.ps.length ∧ b.ps.length ≠ 48 then ⟨b.ps ++ [b.ps[k.toNat]], b.s, b.q⟩ else b
theorem dbl_no {b : Bg} {k : Int} (h : k < 0 ∨ (b.ps.length : Int) ≤ k ∨ b.ps.length = 48) : dbl b k = b := by
  unfold dbl
  rw [dif_neg]
  rintro ⟨h1, h2, h3⟩
  rcases h with h | h | h
  · omega
  · omega
  · exact h3 h
theorem dbl_yes {b : Bg} {k : Nat} {p : Pk} (hk : b.ps[k]? = some p) (h48 : b.ps.length ≠ 48) : dbl b (k : Int) = ⟨b.ps ++ [p], b.s, b.q⟩ := by
  obtain ⟨h1, h2⟩ := List.getElem?_eq_some_iff.1 hk
  unfold dbl
  rw [dif_pos ⟨by omega, by simpa using h1, h48⟩]
  simp only [Int.toNat_natCast, h2]
theorem dbl_sound {b : Bg} {n : Nat} (h : Sound b n) (k : Int) : Sound (dbl b k) n := by
  by_cases hk : k < 0 ∨ (b.ps.length : Int) ≤ k ∨ b.ps.length = 48
  · rw [dbl_no hk]; exact h
  · obtain ⟨i, rfl⟩ : ∃ i : Nat, k = (i : Int) := ⟨k.toNat, by omega⟩
    have hi : i < b.ps.length := by omega
    have h48 : b.ps.length < 48 := by have := h.le; omega
    rw [dbl_yes (List.getElem?_eq_getElem hi) (by omega)]
    exact h.twice (List.getElem?_eq_getElem hi) h48
section
variable {S : Nat → Prop} {w : World} {g : Nat} {b : Bg} {n : Nat} {B : Option Addr}
theorem Double_any (h : BagAt S w g b.ps b.s b.q) (hs : Sound b n) (k : Int) (hS : ∀ x, w.heap.size ≤ x → S x) :
    Calls Try.prog 14 #[.pointer (some ⟨g, 0, none⟩), .int .i64 k] w fun e w' => ∃ er, e = .returned (.int .i64 er) ∧ Hid (BagAt S w' g (dbl b k).ps (dbl b k).s (dbl b k).q) ∧ Hid (Mod [g] w w') := by
  by_cases hk : k < 0 ∨ (b.ps.length : Int) ≤ k
  · rw [dbl_no (by omega)]
    exact (Double_gone h hk).mono fun e w' k => ⟨_, k.1, Lib.hid (by rw [← k.2]; exact h), Lib.hid (by rw [← k.2]; exact Mod.refl _ _)⟩
  · obtain ⟨i, rfl⟩ : ∃ i : Nat, k = (i : Int) := ⟨k.toNat, by omega⟩
    have hi : i < b.ps.length := by omega
    by_cases h48 : b.ps.length = 48
    · rw [dbl_no (.inr (.inr h48))]
      exact (Double_full h (List.getElem?_eq_getElem hi) h48).mono fun e w' k => ⟨_, k.1, Lib.hid (h.below k.2), Lib.hid (Mod.of_below k.2 _)⟩
    · rw [dbl_yes (List.getElem?_eq_getElem hi) h48]
      exact (Double_ok h (List.getElem?_eq_getElem hi) (by have := hs.le; omega) (by have := hs.short _ (List.getElem_mem hi); omega) hS).mono fun e w' k => ⟨_, k.1, k.2.1, k.2.2⟩
theorem RefDouble_any (h : PksAt S w B b.ps) (hs : Sound b n) (c : Nat) (hc : b.ps.length ≤ c ∧ c ≤ 9223372036854775807) (k : Int) (hS : ∀ x, w.heap.size ≤ x → S x) :
    Calls Try.prog 13 #[.agg #[.slice B b.ps.length c, .int .i64 b.s, .int .i64 b.q], .int .i64 k] w fun e w' => ∃ B' c' er, e = .returned (.tuple #[.agg #[.slice B' (dbl b k).ps.length c', .int .i64 (dbl b k).s, .int .i64 (dbl b k).q], .int .i64 er]) ∧ Hid ((dbl b k).ps.length ≤ c' ∧ c' ≤ 9223372036854775807) ∧ Hid (PksAt S w' B' (dbl b k).ps) ∧ Below w.heap.size w w' := by
  by_cases hk : k < 0 ∨ (b.ps.length : Int) ≤ k
  · rw [dbl_no (by omega)]
    exact (RefDouble_gone b.ps.length c b.s b.q hk w).mono fun e w' k => ⟨B, c, _, k.1, Lib.hid hc, Lib.hid (h.below k.2), k.2⟩
  · obtain ⟨i, rfl⟩ : ∃ i : Nat, k = (i : Int) := ⟨k.toNat, by omega⟩
    have hi : i < b.ps.length := by omega
    by_cases h48 : b.ps.length = 48
    · rw [dbl_no (.inr (.inr h48))]
      exact (RefDouble_full h c hc.1 b.s b.q (List.getElem?_eq_getElem hi) h48 hS).mono fun e w' k => ⟨B, c, _, k.1, Lib.hid hc, Lib.hid (h.below k.2), k.2⟩
    · rw [dbl_yes (List.getElem?_eq_getElem hi) h48]
      refine (RefDouble_ok h c hc.1 b.s b.q (List.getElem?_eq_getElem hi) (by have := hs.le; omega) hS).mono ?_
      rintro e w' ⟨B5, c5, rfl, hc5, hp5, hb⟩
      exact ⟨B5, c5, _, by rw [show b.ps.length + 1 = (b.ps ++ [b.ps[i]]).length by simp]; rfl, Lib.hid (by rw [List.length_append]; exact hc5.out), hp5, hb⟩
end
end Go.Proofs.Ytnbfdgccaacdiaa.Own
