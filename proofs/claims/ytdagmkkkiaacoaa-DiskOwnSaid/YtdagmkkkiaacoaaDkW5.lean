/- The document's Write on a disk. -/
import Derived.Test.YtdagmkkkiaacoaaDkW4
namespace Go.Proofs.Ytdagmkkkiaacoaa
open Go.RowKit
open By (BytesAt u8s own_shape)
set_option linter.unusedVariables false
set_option linter.unusedSimpArgs false
set_option maxRecDepth 100000
section
variable {base : Nat} {w : World} {r : Nat} {v : Value} {d : Dk}
theorem BytesAt.out {A : Option Addr} {x : List UInt8} {F : List Nat} {w w' : World} (h : BytesAt w A x) (hm : Mod F w w') (hA : ∀ ad, A = some ad → ad.block ∉ F) : BytesAt w' A x := h.mod hm hA
/-- Sector k is set to a new list of bytes. -/
theorem RefAt.setRow {g n c : Nat} (h : RefAt base w r (.slice (some ⟨g, 0, none⟩) n c) d) {k : Nat} (hk : k < d.ss.length) (hn : d.ss.length = n) {x : List UInt8} {b : Nat} (hb : base ≤ b) (hw : Whole w b 5 (u8s x).toArray) :
    RefAt base (w.setCell ⟨g, k, none⟩ (.slice (some ⟨b, 0, none⟩) 64 64)) r (.slice (some ⟨g, 0, none⟩) n c) ⟨d.ss.set k x, d.wr, d.off, d.am⟩ := by
  subst hn
  obtain ⟨hs, h1, h2⟩ := h.row
  have hgr : r ≠ g := fun e => own_ne h1 h.box (by decide) (by rw [e]; rfl)
  have hst := (h1.stored k (.slice (some ⟨b, 0, none⟩) 64 64)).1
  have hlen := h1.1
  have far : ∀ {b' : Nat} {y : List UInt8}, Whole w b' 5 (u8s y).toArray → Whole (w.setCell ⟨g, k, none⟩ (.slice (some ⟨b, 0, none⟩) 64 64)) b' 5 (u8s y).toArray := fun hb' => hb'.far (q := ⟨g, k, none⟩) (fun e => own_ne h1 hb' (by decide) (by rw [show _ = g from e]; rfl)) _
  refine ⟨h.box.far (q := ⟨g, k, none⟩) hgr _, h.ge, hs.set k (.slice (some ⟨b, 0, none⟩) 64 64), ?_, fun i y hy => ?_⟩
  · show World.ownsRow _ base 35 1 _ (d.ss.set k x).length _
    rw [List.length_set]
    exact hst
  · have hy : (d.ss.set k x)[i]? = some y := hy
    by_cases e : k = i
    · subst e
      rw [List.getElem?_set_self hk] at hy
      cases hy
      exact ⟨b, by rw [List.getElem?_set_self (by omega)], hb, far hw⟩
    · rw [List.getElem?_set_ne e] at hy
      obtain ⟨b', k1, k2, k3⟩ := h2 i y hy
      exact ⟨b', by rw [List.getElem?_set_ne e]; exact k1, k2, far k3⟩
set_option maxHeartbeats 1000000 in
theorem RefWrite_off (h : RefAt base w r v d) (i : Int) (A : Option Addr) (n c : Nat) (ho : d.off = true) :
    Calls Try.prog 23 #[.pointer (some ⟨r, 0, none⟩), .int .i64 i, .slice A n c] w fun e w' => e = .returned (.int .i64 40) ∧ w = w' := by
  have c3 := h.cells.2.2.2
  rw [ho] at c3
  clear h ho
  go_enter Try.func23, Try.ntmps23
  go_wp2_with fail
  go_ret
  exact ⟨rfl, rfl⟩
set_option maxHeartbeats 1000000 in
theorem RefWrite_no {B : Option Addr} {m : Nat} (h : RefAt base w r (.slice B d.ss.length m) d) (i : Int) (A : Option Addr) (n c : Nat) (ho : d.off = false) (hi : i < 0 ∨ (d.ss.length : Int) ≤ i ∨ n ≠ 64) :
    Calls Try.prog 23 #[.pointer (some ⟨r, 0, none⟩), .int .i64 i, .slice A n c] w fun e w' => e = .returned (.int .i64 2) ∧ w = w' := by
  obtain ⟨c0, c1, c2, c3⟩ := h.cells
  rw [ho] at c3
  clear h ho
  by_cases h0 : i < 0
  · clear hi
    go_enter Try.func23, Try.ntmps23
    go_wp2_with fail
    go_ret
    exact ⟨rfl, rfl⟩
  by_cases h1 : (d.ss.length : Int) ≤ i
  · clear hi
    go_enter Try.func23, Try.ntmps23
    go_wp2_with fail
    go_ret
    exact ⟨rfl, rfl⟩
  · have hn : ((n : Int) == 64) = false := by
      have : n ≠ 64 := hi.elim (fun h => absurd h h0) (fun h => h.elim (fun h => absurd h h1) id)
      simp; omega
    clear hi
    go_enter Try.func23, Try.ntmps23
    go_wp2_with fail
    go_ret
    exact ⟨rfl, rfl⟩
set_option maxHeartbeats 1000000 in
theorem RefWrite_cut {B : Option Addr} {m : Nat} (h : RefAt base w r (.slice B d.ss.length m) d) (k : Nat) (A : Option Addr) (c : Nat) (ho : d.off = false) (hk : k < d.ss.length) (hle : d.ss.length ≤ 512) (ha : d.am = 0) :
    Calls Try.prog 23 #[.pointer (some ⟨r, 0, none⟩), .int .i64 (k : Int), .slice A 64 c] w fun e w' => e = .returned (.int .i64 40) ∧ Hid (RefAt base w' r (.slice B d.ss.length m) ⟨d.ss, d.wr, true, -1⟩) ∧ Hid (Mod [r] w w') := by
  obtain ⟨c0, c1, c2, c3⟩ := h.cells
  have f2 := h.box.frozen 2
  have f3 := h.box.frozen 3
  rw [ho] at c3
  rw [ha] at c2
  have hm := ((Mod.refl [r] w).store (p := ⟨r, 3, none⟩) (.inl (by simp)) (.bool true)).store (p := ⟨r, 2, none⟩) (.inl (by simp)) (.int .i64 (-1))
  have HM := Lib.hid hm
  have HR := Lib.hid (h.boxed (wr := d.wr) (am := -1) (off := true) ((h.box.store 3 (.bool true)).store 2 (.int .i64 (-1))) hm)
  clear h ho ha hm
  go_enter Try.func23, Try.ntmps23
  go_wp2_with fail
  go_ret
  exact ⟨rfl, HR, HM⟩
set_option maxHeartbeats 4000000 in
theorem RefWrite_ok {g m : Nat} (h : RefAt base w r (.slice (some ⟨g, 0, none⟩) d.ss.length m) d) (k : Nat) (A : Option Addr) (c : Nat) (hc : 64 ≤ c) (x : List UInt8) (hx : x.length = 64) (hB : BytesAt w A x) (hA : ∀ ad, A = some ad → ad.block ≠ r) (ho : d.off = false) (hk : k < d.ss.length) (hle : d.ss.length ≤ 512) (ha : d.am ≠ 0)
    (ham : -1 ≤ d.am ∧ d.am ≤ 9223372036854775807) (hbase : base ≤ w.heap.size) (d' : Dk) (hd' : d' = ⟨d.ss.set k x, IntKind.i64.wrap (d.wr + 1), d.off, if 0 < d.am then d.am - 1 else d.am⟩) :
    Calls Try.prog 23 #[.pointer (some ⟨r, 0, none⟩), .int .i64 (k : Int), .slice A 64 c] w fun e w' => e = .returned (.int .i64 0) ∧ Hid (RefAt base w' r (.slice (some ⟨g, 0, none⟩) d.ss.length m) d') ∧ Hid (Mod [r, g] w w') := by
  have HE := Lib.hid hd'
  clear hd'
  have HBA := Lib.hid hB
  have HA := Lib.hid hA
  have HX := Lib.hid hx
  have HH := Lib.hid h
  have hz : (d.am == 0) = false := by simpa using ha
  have HBS := Lib.hid hbase
  obtain ⟨c0, c1, c2, c3⟩ := h.cells
  have f2 := h.box.frozen 2
  rw [ho] at c3
  clear h hB hA hx hbase
  by_cases h0 : 0 < d.am
  · have HM1 := Lib.hid ((Mod.refl [r] w).store (p := ⟨r, 2, none⟩) (.inl (by simp)) (.int .i64 (d.am - 1)))
    have HR1 := Lib.hid (HH.out.boxed (wr := d.wr) (am := d.am - 1) (off := d.off) (HH.out.box.store 2 (.int .i64 (d.am - 1))) HM1.out)
    have HW := Lib.hid (show IntKind.i64.wrap (d.am - 1) = d.am - 1 by rw [IntKind.wrap_i64]; omega)
    have hw1 := HW.out
    go_enter Try.func23, Try.ntmps23
    go_wp2_with fail
    generalize w.setCell ⟨r, 2, none⟩ (.int .i64 (d.am - 1)) = W1 at HM1 HR1 ⊢
    have HB1 := Lib.hid (BytesAt.out HBA.out HM1.out (fun ad e hx => HA.out ad e (List.mem_singleton.1 hx)))
    have HC := Lib.hid (copied_any A x c W1.drew (show BytesAt W1.drew A x from HB1.out) (by have := HX.out; omega))
    rw [HX.out] at HC
    obtain ⟨hs, h1, h2⟩ := HR1.out.row
    have hgr : r ≠ g := fun e => own_ne h1 HR1.out.box (by decide) (by rw [e]; rfl)
    obtain ⟨b, k1, _, _⟩ := h2 k d.ss[k] (List.getElem?_eq_getElem hk)
    have hzc := h1.cells (g := g) rfl k _ k1
    rw [Addr.add_lit, Nat.zero_add] at hzc
    have HZ := Lib.hid hzc
    have HO := Lib.hid h1
    have q0 : W1.cell? ⟨r, 0, none⟩ = some (.slice (some ⟨g, 0, none⟩) d.ss.length m) := HR1.out.cells.1
    clear h1 h2 k1 hzc
    go_region_with (go_at_call 31; refine HC.out.mono ?_; rintro e w5 ⟨rfl, HW5, HB5⟩
                    have HR5 := Lib.hid (HR1.out.below ((Below.refl _ W1).drew.trans HB5.out))
                    have p0 : w5.cell? ⟨r, 0, none⟩ = some (.slice (some ⟨g, 0, none⟩) d.ss.length m) := HR5.out.cells.1
                    have p1 : w5.cell? ⟨g, k, none⟩ = some (.slice (some ⟨b, 0, none⟩) 64 64) := (HB5.out.cell (p := ⟨g, k, none⟩) (HO.out.lt g rfl).2).trans HZ.out
                    have p2 : w5.frozen? ⟨g, k, none⟩ = false := ((Mod.of_below HB5.out []).own (show W1.drew.ownsRow _ _ _ _ _ _ from HO.out.drew) (by simp)).frozenAt k)
    all_goals
      have HR6 := Lib.hid (HR5.out.setRow (k := k) hk rfl (b := W1.heap.size) (Nat.le_trans HBS.out HM1.out.size) HW5.out)
      have HM6 := Lib.hid (((HM1.out.mono (G := [r, g]) (fun x hx => .inl (by rw [List.mem_singleton.1 hx]; simp))).drew.trans (Mod.of_below HB5.out []) (by simp)).store (p := ⟨g, k, none⟩) (.inl (by simp)) (.slice (some ⟨W1.heap.size, 0, none⟩) 64 64))
      clear p0 p1 p2
      generalize w5.setCell ⟨g, k, none⟩ (.slice (some ⟨W1.heap.size, 0, none⟩) 64 64) = V5 at HR6 HM6 ⊢
      have q1 := HR6.out.cells.2.1
      have g1 := HR6.out.box.frozen 1
      go_wp2_with fail
      go_ret
      rw [show wrap64 (d.wr + 1) = IntKind.i64.wrap (d.wr + 1) by rw [IntKind.wrap_i64, wrap64]]
      have he := HE.out
      rw [if_pos h0] at he
      subst he
      exact ⟨rfl, Lib.hid (HR6.out.boxed (HR6.out.box.store 1 _) ((Mod.refl [r] _).store (.inl (by simp)) _)), Lib.hid (HM6.out.store (p := ⟨r, 1, none⟩) (.inl (by simp)) _)⟩
  · have HM1 := Lib.hid (Mod.refl [r] w)
    have HR1 := Lib.hid (show RefAt base w r (.slice (some ⟨g, 0, none⟩) d.ss.length m) ⟨d.ss, d.wr, d.off, d.am⟩ from HH.out)
    go_enter Try.func23, Try.ntmps23
    go_wp2_with fail
    have HB1 := Lib.hid (BytesAt.out HBA.out HM1.out (fun ad e hx => HA.out ad e (List.mem_singleton.1 hx)))
    have HC := Lib.hid (copied_any A x c w.drew (show BytesAt w.drew A x from HB1.out) (by have := HX.out; omega))
    rw [HX.out] at HC
    obtain ⟨hs, h1, h2⟩ := HR1.out.row
    have hgr : r ≠ g := fun e => own_ne h1 HR1.out.box (by decide) (by rw [e]; rfl)
    obtain ⟨b, k1, _, _⟩ := h2 k d.ss[k] (List.getElem?_eq_getElem hk)
    have hzc := h1.cells (g := g) rfl k _ k1
    rw [Addr.add_lit, Nat.zero_add] at hzc
    have HZ := Lib.hid hzc
    have HO := Lib.hid h1
    have q0 : w.cell? ⟨r, 0, none⟩ = some (.slice (some ⟨g, 0, none⟩) d.ss.length m) := HR1.out.cells.1
    clear h1 h2 k1 hzc
    go_region_with (go_at_call 31; refine HC.out.mono ?_; rintro e w5 ⟨rfl, HW5, HB5⟩
                    have HR5 := Lib.hid (HR1.out.below ((Below.refl _ w).drew.trans HB5.out))
                    have p0 : w5.cell? ⟨r, 0, none⟩ = some (.slice (some ⟨g, 0, none⟩) d.ss.length m) := HR5.out.cells.1
                    have p1 : w5.cell? ⟨g, k, none⟩ = some (.slice (some ⟨b, 0, none⟩) 64 64) := (HB5.out.cell (p := ⟨g, k, none⟩) (HO.out.lt g rfl).2).trans HZ.out
                    have p2 : w5.frozen? ⟨g, k, none⟩ = false := ((Mod.of_below HB5.out []).own (show w.drew.ownsRow _ _ _ _ _ _ from HO.out.drew) (by simp)).frozenAt k)
    all_goals
      have HR6 := Lib.hid (HR5.out.setRow (k := k) hk rfl (b := w.heap.size) (Nat.le_trans HBS.out HM1.out.size) HW5.out)
      have HM6 := Lib.hid (((HM1.out.mono (G := [r, g]) (fun x hx => .inl (by rw [List.mem_singleton.1 hx]; simp))).drew.trans (Mod.of_below HB5.out []) (by simp)).store (p := ⟨g, k, none⟩) (.inl (by simp)) (.slice (some ⟨w.heap.size, 0, none⟩) 64 64))
      clear p0 p1 p2
      generalize w5.setCell ⟨g, k, none⟩ (.slice (some ⟨w.heap.size, 0, none⟩) 64 64) = V5 at HR6 HM6 ⊢
      have q1 := HR6.out.cells.2.1
      have g1 := HR6.out.box.frozen 1
      go_wp2_with fail
      go_ret
      rw [show wrap64 (d.wr + 1) = IntKind.i64.wrap (d.wr + 1) by rw [IntKind.wrap_i64, wrap64]]
      have he := HE.out
      rw [if_neg (by omega)] at he
      subst he
      exact ⟨rfl, Lib.hid (HR6.out.boxed (HR6.out.box.store 1 _) ((Mod.refl [r] _).store (.inl (by simp)) _)), Lib.hid (HM6.out.store (p := ⟨r, 1, none⟩) (.inl (by simp)) _)⟩
theorem RefWrite_any (h : RefAt base w r v d) (hs : DK.Sound d) (i : Int) (A : Option Addr) (x : List UInt8) (c : Nat) (hc : x.length ≤ c) (hB : BytesAt w A x) (hA : ∀ ad, A = some ad → ad.block ≠ r) (hbase : base ≤ w.heap.size) :
    Calls Try.prog 23 #[.pointer (some ⟨r, 0, none⟩), .int .i64 i, .slice A x.length c] w fun e w' => e = .returned (.int .i64 (DK.werr d i x.length)) ∧ Hid (RefAt base w' r v (DK.written d i x)) ∧ Hid (Mod (refF r v) w w') := by
  have hle := hs.le
  cases ho : d.off with
  | true =>
    rw [DK.werr_off ho, DK.written_off ho]
    exact (RefWrite_off h i A _ c ho).mono fun e w' ⟨h1, h2⟩ => by subst h2; exact ⟨h1, Lib.hid h, Lib.hid (Mod.refl _ _)⟩
  | false =>
    obtain ⟨B, m, rfl, _⟩ := h.rows hs
    by_cases hi3 : i < 0 ∨ (d.ss.length : Int) ≤ i ∨ x.length ≠ 64
    · rw [DK.werr_no ho hi3, DK.written_no ho hi3]
      exact (RefWrite_no h i A _ c ho hi3).mono fun e w' ⟨h1, h2⟩ => by subst h2; exact ⟨h1, Lib.hid h, Lib.hid (Mod.refl _ _)⟩
    · have hx : x.length = 64 := Classical.byContradiction fun hh => hi3 (.inr (.inr hh))
      obtain ⟨k, rfl⟩ : ∃ k : Nat, i = (k : Int) := ⟨i.toNat, by omega⟩
      have hk : k < d.ss.length := by omega
      by_cases ha : d.am = 0
      · rw [DK.werr_cut ho hi3 ha, DK.written_cut ho hi3 ha, hx]
        exact (RefWrite_cut h k A c ho hk hle ha).mono fun e w' ⟨h1, h2, h3⟩ => ⟨h1, h2, Lib.hid (h3.out.mono (fun x hx => .inl (by rw [List.mem_singleton.1 hx]; simp [refF])))⟩
      · rw [DK.werr_ok ho hi3 ha]
        obtain ⟨hh, h1, _⟩ := h.row
        obtain ⟨g, cap, hv, _, _⟩ := h1.form (by have := h1.1; omega)
        have hBg : B = some ⟨g, 0, none⟩ := by injection hv
        subst hBg
        rw [hx]
        exact RefWrite_ok h k A c (by omega) x hx hB hA ho hk hle ha hs.am hbase _ (by rw [DK.written_ok ho hi3 ha, Int.toNat_natCast])
end
end Go.Proofs.Ytdagmkkkiaacoaa
