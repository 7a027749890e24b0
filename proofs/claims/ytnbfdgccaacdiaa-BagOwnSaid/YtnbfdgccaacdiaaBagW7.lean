/- The document's calls of layer 7: a packet is looked at; packets are compared. -/
import Derived.Test.YtnbfdgccaacdiaaBagW6
namespace Go.Proofs.Ytnbfdgccaacdiaa
open Go.RowKit
open By (BytesAt u8s own_shape)
set_option linter.unusedVariables false
set_option linter.unusedSimpArgs false
set_option maxRecDepth 100000
section
variable {S S' : Nat → Prop} {w : World} {B C : Option Addr} {ps : List Pk}
set_option maxHeartbeats 2000000 in
theorem RefLook_yes (h : PksAt S w B ps) (c : Nat) (s q : Int) {k : Nat} {p : Pk} (hk : ps[k]? = some p) :
    Calls Try.prog 9 #[.agg (bag3 B ps.length c s q), .int .i64 (k : Int)] w fun e w' => ∃ A c', e = .returned (.tuple #[.agg (three p A c'), .bool true]) ∧ Hid (Data S w' A p.d) ∧ Below w.heap.size w w' := by
  have hlt := (List.getElem?_eq_some_iff.1 hk).1
  have HX := Lib.hid (((Below.refl _ w).alloc (Nat.le_refl _) (.cells (bag3 B ps.length c s q) 28)).alloc (by simp) (.cells zero3 31))
  have HB := Lib.hid ((Whole.new w 28 (bag3 B ps.length c s q)).alloc (.cells zero3 31))
  have HZ := Lib.hid (show Whole ((w.alloc (.cells (bag3 B ps.length c s q) 28)).alloc (.cells zero3 31)) (w.heap.size + 1) 31 zero3 by
    have h := Whole.new (w.alloc (.cells (bag3 B ps.length c s q) 28)) 31 zero3
    simpa using h)
  have H := Lib.hid ((h.mono (S' := fun b => S b ∧ b < w.heap.size) (fun x hx hs => ⟨hs, hx⟩)).below HX.out)
  have HK := Lib.hid hk
  have hd1 : decide ((k : Int) < 0) = false := by simp
  have hd2 : decide ((ps.length : Int) ≤ (k : Int)) = false := by simp; omega
  have hd2b : decide (ps.length ≤ k) = false := by simp; omega
  clear h hk
  unfold zero3 at HX HB HZ H
  go_enter Try.func9, Try.ntmps9
  go_upto_region 1 with (fail)
  generalize (w.alloc (.cells (bag3 B ps.length c s q) 28)).alloc _ = w0 at HX HB HZ H ⊢
  have b0 : w0.cell? ⟨w.heap.size, 0, none⟩ = some (.slice B ps.length c) := HB.out.cell 0
  obtain ⟨b, o, A1, c1, e1, a0, a1, a2, hd⟩ := H.out.get HK.out
  subst e1
  have HD := Lib.hid hd
  clear hd
  have z0 : w0.cell? ⟨w.heap.size + 1, 0, none⟩ = some (.int .i64 0) := HZ.out.cell 0
  have z1 : w0.cell? ⟨w.heap.size + 1, 1, none⟩ = some (.int .i64 0) := HZ.out.cell 1
  have z2 : w0.cell? ⟨w.heap.size + 1, 2, none⟩ = some (.slice none 0 0) := HZ.out.cell 2
  have f0 := HZ.out.frozen 0
  have f1 := HZ.out.frozen 1
  have f2 := HZ.out.frozen 2
  go_wp2_with fail
  refine bodyPost_ret (v := .tuple #[.agg (three p A1 c1), .bool true]) (by simp [results, Try.results9, go_sem, z0, z1, z2, three]) rfl ?_
  exact ⟨A1, c1, rfl, Lib.hid ((HD.out.mod (mod3 w0 (w.heap.size + 1) 0 1 2 _ _ _) (by intro x hx; rw [List.mem_singleton.1 hx]; exact fun hh => by have := hh.2; omega)).mono (fun b _ hb => hb.1)),
    ((HX.out.setCell (p := ⟨w.heap.size + 1, 0, none⟩) (by simp) _).setCell (p := ⟨w.heap.size + 1, 1, none⟩) (by simp) _).setCell (p := ⟨w.heap.size + 1, 2, none⟩) (by simp) _⟩
set_option maxHeartbeats 2000000 in
theorem RefLook_no (n c : Nat) (s q : Int) {k : Int} (hk : k < 0 ∨ (n : Int) ≤ k) (w : World) :
    Calls Try.prog 9 #[.agg (bag3 B n c s q), .int .i64 k] w fun e w' => e = .returned (.tuple #[.agg zero3, .bool false]) ∧ Below w.heap.size w w' := by
  have HX := Lib.hid (((Below.refl _ w).alloc (Nat.le_refl _) (.cells (bag3 B n c s q) 28)).alloc (by simp) (.cells zero3 31))
  have HB := Lib.hid ((Whole.new w 28 (bag3 B n c s q)).alloc (.cells zero3 31))
  have HZ := Lib.hid (show Whole ((w.alloc (.cells (bag3 B n c s q) 28)).alloc (.cells zero3 31)) (w.heap.size + 1) 31 zero3 by
    have h := Whole.new (w.alloc (.cells (bag3 B n c s q) 28)) 31 zero3
    simpa using h)
  have HK := Lib.hid hk
  clear hk
  unfold zero3 at HX HB HZ
  go_enter Try.func9, Try.ntmps9
  go_upto_region 1 with (fail)
  generalize (w.alloc (.cells (bag3 B n c s q) 28)).alloc _ = w0 at HX HB HZ ⊢
  have b0 : w0.cell? ⟨w.heap.size, 0, none⟩ = some (.slice B n c) := HB.out.cell 0
  have z0 : w0.cell? ⟨w.heap.size + 1, 0, none⟩ = some (.int .i64 0) := HZ.out.cell 0
  have z1 : w0.cell? ⟨w.heap.size + 1, 1, none⟩ = some (.int .i64 0) := HZ.out.cell 1
  have z2 : w0.cell? ⟨w.heap.size + 1, 2, none⟩ = some (.slice none 0 0) := HZ.out.cell 2
  have f0 := HZ.out.frozen 0
  have f1 := HZ.out.frozen 1
  have f2 := HZ.out.frozen 2
  have HF := Lib.hid (((HX.out.setCell (p := ⟨w.heap.size + 1, 0, none⟩) (by simp) (.int .i64 0)).setCell (p := ⟨w.heap.size + 1, 1, none⟩) (by simp) (.int .i64 0)).setCell (p := ⟨w.heap.size + 1, 2, none⟩) (by simp) (.slice none 0 0))
  by_cases h0 : k < 0
  · have hd1 : decide (k < 0) = true := by simp; omega
    go_wp2_with fail
    refine bodyPost_ret (v := .tuple #[.agg zero3, .bool false]) (by simp [results, Try.results9, go_sem, z0, z1, z2, zero3]) rfl ?_
    exact ⟨rfl, HF.out⟩
  · have hd1 : decide (k < 0) = false := by simp; omega
    have hd2 : decide ((n : Int) ≤ k) = true := by have := HK.out; simp; omega
    clear h0
    go_wp2_with fail
    refine bodyPost_ret (v := .tuple #[.agg zero3, .bool false]) (by simp [results, Try.results9, go_sem, z0, z1, z2, zero3]) rfl ?_
    exact ⟨rfl, HF.out⟩
set_option maxHeartbeats 2000000 in
theorem RefSame_self (p : Pk) (A A' : Option Addr) (c c' : Nat) (w : World) (hA : BytesAt w A p.d) (hB : BytesAt w A' p.d) :
    Calls Try.prog 11 #[.agg (three p A c), .agg (three p A' c')] w fun e w' => e = .returned (.bool true) ∧ Below w.heap.size w w' := by
  have HX := Lib.hid (((Below.refl _ w).alloc (Nat.le_refl _) (.cells (three p A c) 31)).alloc (by simp) (.cells (three p A' c') 31))
  have HP := Lib.hid ((Whole.new w 31 (three p A c)).alloc (.cells (three p A' c') 31))
  have HR := Lib.hid (show Whole ((w.alloc (.cells (three p A c) 31)).alloc (.cells (three p A' c') 31)) (w.heap.size + 1) 31 (three p A' c') by
    have h := Whole.new (w.alloc (.cells (three p A c) 31)) 31 (three p A' c')
    simpa using h)
  have hcv1 := By.str_of (c := c) (hA.below HX.out)
  have hcv2 := By.str_of (c := c') (hB.below HX.out)
  clear hA hB
  go_enter Try.func11, Try.ntmps11
  go_upto_region 1 with (fail)
  generalize (w.alloc (.cells (three p A c) 31)).alloc (.cells (three p A' c') 31) = w0 at HX HP HR hcv1 hcv2 ⊢
  have p0 : w0.cell? ⟨w.heap.size, 0, none⟩ = some (.int .i64 p.frm) := HP.out.cell 0
  have p1 : w0.cell? ⟨w.heap.size, 1, none⟩ = some (.int .i64 p.dst) := HP.out.cell 1
  have p2 : w0.cell? ⟨w.heap.size, 2, none⟩ = some (.slice A p.d.length c) := HP.out.cell 2
  have r0 : w0.cell? ⟨w.heap.size + 1, 0, none⟩ = some (.int .i64 p.frm) := HR.out.cell 0
  have r1 : w0.cell? ⟨w.heap.size + 1, 1, none⟩ = some (.int .i64 p.dst) := HR.out.cell 1
  have r2 : w0.cell? ⟨w.heap.size + 1, 2, none⟩ = some (.slice A' p.d.length c') := HR.out.cell 2
  go_wp2_with fail
  go_ret
  exact ⟨rfl, HX.out⟩
theorem h1lt {S : Nat → Prop} {w : World} {ps : List Pk} {b o k : Nat} {p : Pk} (h : PksAt S w (some ⟨b, o, none⟩) ps) (hk : ps[k]? = some p) : b < w.heap.size := by
  have hlt := (List.getElem?_eq_some_iff.1 hk).1
  obtain ⟨b', o', e, h1, _⟩ := h (by omega)
  injection e with e
  injection e with e1 e2
  rw [e1]
  exact h1
set_option maxHeartbeats 4000000 in
theorem RefSameAll_self (h1 : PksAt S w B ps) (h2 : PksAt S' w C ps) (c d : Nat) (hl : ps.length ≤ 9223372036854775807) :
    Calls Try.prog 15 #[.slice B ps.length c, .slice C ps.length d] w fun e w' => e = .returned (.bool true) ∧ Below w.heap.size w w' := by
  have H1 := Lib.hid h1
  have H2 := Lib.hid h2
  clear h1 h2
  go_enter Try.func15, Try.ntmps15
  go_wp2_with fail
  go_loopw [5] (fun i wx => ∃ k : Nat, i = .int .i64 (k : Int) ∧ k ≤ ps.length ∧ Below w.heap.size w wx) (fun i _ => ps.length - (intOf i).toNat)
  case atStart => exact ⟨0, rfl, by omega, Below.refl _ _⟩
  case round =>
    obtain ⟨k, rfl, hk, hB⟩ := hrel
    have HB := Lib.hid hB
    clear hB
    by_cases hlt : k < ps.length
    · have HPK := Lib.hid (List.getElem?_eq_getElem hlt)
      generalize ps[k] = p at HPK
      obtain ⟨b, o, A1, c1, e1, a0, a1, a2, hd1⟩ := (H1.out.below HB.out.drew).get HPK.out
      subst e1
      obtain ⟨b', o', A2, c2, e2, a0', a1', a2', hd2⟩ := (H2.out.below HB.out.drew).get HPK.out
      subst e2
      have HS := And.intro a0 (And.intro a1 (And.intro a2 (And.intro a0' (And.intro a1' a2'))))
      have HC := Lib.hid (RefSame_self p A1 A2 c1 c2 wr.drew hd1.bytes hd2.bytes)
      have HG := Lib.hid (And.intro (h1lt (H1.out.below HB.out.drew) HPK.out) (h1lt (H2.out.below HB.out.drew) HPK.out))
      clear hd1 hd2
      go_wp2_with fail
      go_region_held3 (fun w' : World => w'.cell? ⟨b, o + k * 3, none⟩ = some (.int .i64 p.frm) ∧ w'.cell? ⟨b, o + k * 3 + 1, none⟩ = some (.int .i64 p.dst) ∧ w'.cell? ⟨b, o + k * 3 + 2, none⟩ = some (.slice A1 p.d.length c1) ∧ w'.cell? ⟨b', o' + k * 3, none⟩ = some (.int .i64 p.frm) ∧ w'.cell? ⟨b', o' + k * 3 + 1, none⟩ = some (.int .i64 p.dst) ∧ w'.cell? ⟨b', o' + k * 3 + 2, none⟩ = some (.slice A2 p.d.length c2))
        (first
          | exact HS
          | (go_keep; done))
        ((go_at_call 11; refine HC.out.mono ?_; rintro x w5 ⟨rfl, hb⟩
          have hm := Mod.of_below hb []
          replace HS := And.intro ((hm.cell (p := ⟨b, _, none⟩) HG.out.1 (by simp)).trans HS.1) (And.intro ((hm.cell (p := ⟨b, _, none⟩) HG.out.1 (by simp)).trans HS.2.1) (And.intro ((hm.cell (p := ⟨b, _, none⟩) HG.out.1 (by simp)).trans HS.2.2.1) (And.intro ((hm.cell (p := ⟨b', _, none⟩) HG.out.2 (by simp)).trans HS.2.2.2.1) (And.intro ((hm.cell (p := ⟨b', _, none⟩) HG.out.2 (by simp)).trans HS.2.2.2.2.1) ((hm.cell (p := ⟨b', _, none⟩) HG.out.2 (by simp)).trans HS.2.2.2.2.2)))))
          have HB5 := Lib.hid (below_on (Below.drew HB.out) hb)
          clear hb hm))
      all_goals
        go_wp2_with fail
        go_roundw
        case rel => exact ⟨k + 1, rfl, hlt, HB5.out⟩
        case measure => simp only [intOf]; omega
    · obtain rfl : k = ps.length := by omega
      go_wp2_with fail
      go_ret
      exact ⟨rfl, HB.out⟩
end
end Go.Proofs.Ytnbfdgccaacdiaa
