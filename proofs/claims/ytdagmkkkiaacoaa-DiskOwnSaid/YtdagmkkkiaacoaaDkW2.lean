/- The package's calls on a disk: Read, Write. -/
import Derived.Test.YtdagmkkkiaacoaaDkW1
namespace Go.Proofs.Ytdagmkkkiaacoaa
open Go.RowKit
open By (BytesAt u8 u8s own_shape)
set_option linter.unusedVariables false
set_option linter.unusedSimpArgs false
set_option maxRecDepth 100000
theorem ite_of {c : Prop} [Decidable c] {A B : Prop} (hc : c) (h : A) : if c then A else B := by rw [if_pos hc]; exact h
theorem info_sector {x : List UInt8} (hx : x.length = 64) : (Try.prog.info? 56).map (·.size) = some (u8s x).length := by
  rw [By.u8s_len, hx]; kernel_rfl
section
variable {w : World} {g : Nat} {d : Dk}
theorem Read_nil (i : Int) (w : World) : Calls Try.prog 13 #[.pointer none, .int .i64 i] w fun e w' => e = .returned (.tuple #[.slice none 0 0, .int .i64 1]) ∧ w = w' := by
  go_enter Try.func13, Try.ntmps13
  go_wp2_with (refine (refuses_nil i _).mono ?_; rintro e w' ⟨rfl, rfl⟩)
  go_ret2
  exact ⟨rfl, rfl⟩
set_option maxHeartbeats 1000000 in
theorem Read_no (h : DkAt w g d) (i : Int) (hi : DK.rerr d i ≠ 0) : Calls Try.prog 13 #[.pointer (some ⟨g, 0, none⟩), .int .i64 i] w fun e w' => e = .returned (.tuple #[.slice none 0 0, .int .i64 (DK.rerr d i)]) ∧ w = w' := by
  have HC := Lib.hid (refuses_any h i)
  clear h
  generalize DK.rerr d i = z at *
  go_enter Try.func13, Try.ntmps13
  go_wp2_with (refine HC.out.mono ?_; rintro e w' ⟨rfl, rfl⟩)
  go_ret2
  exact ⟨rfl, rfl⟩
set_option maxHeartbeats 1000000 in
theorem Read_ok (h : DkAt w g d) (k : Nat) (x : List UInt8) (hk : d.ss[k]? = some x) (ho : d.off = false) : Calls Try.prog 13 #[.pointer (some ⟨g, 0, none⟩), .int .i64 (k : Int)] w fun e w' => e = .returned (.tuple #[.slice (some ⟨w.heap.size, 0, none⟩) 64 64, .int .i64 0]) ∧ w' = w.alloc (.cells (u8s x).toArray 56) := by
  have hlt : k < d.ss.length := (List.getElem?_eq_some_iff.1 hk).1
  have hle := h.ok.le
  have HC := Lib.hid (refuses_any h (k : Int))
  rw [(DK.got_ok ho hk).2] at HC
  have HR := Lib.hid (h.row hk)
  have HI := Lib.hid (info_sector (h.ok.len k x hk))
  have HB := Lib.hid (bytes_any x (h.ok.len k x hk) w)
  have c0 := h.nums.1
  clear h hk ho
  go_enter Try.func13, Try.ntmps13
  go_wp2_with (first
    | (refine HC.out.mono ?_; rintro e w' ⟨rfl, rfl⟩)
    | (refine wpList_load_mid rfl 56 (.tmp 17) rfl g (k * 64) rfl (u8s x) _ HR.out Try.underlying56 rfl HI.out ?_)
    | (refine HB.out.mono ?_; rintro e w' ⟨rfl, rfl⟩))
  go_ret2
  exact ⟨rfl, rfl⟩
theorem Write_nil (i : Int) (A : Option Addr) (n c : Nat) (w : World) : Calls Try.prog 21 #[.pointer none, .int .i64 i, .slice A n c] w fun e w' => e = .returned (.int .i64 1) ∧ w = w' := by
  go_enter Try.func21, Try.ntmps21
  go_wp2_with (refine (refuses_nil i _).mono ?_; rintro e w' ⟨rfl, rfl⟩)
  go_ret
  exact ⟨rfl, rfl⟩
set_option maxHeartbeats 1000000 in
theorem Write_rerr (h : DkAt w g d) (i : Int) (A : Option Addr) (n c : Nat) (hi : DK.rerr d i ≠ 0) : Calls Try.prog 21 #[.pointer (some ⟨g, 0, none⟩), .int .i64 i, .slice A n c] w fun e w' => e = .returned (.int .i64 (DK.rerr d i)) ∧ w = w' := by
  have HC := Lib.hid (refuses_any h i)
  clear h
  generalize DK.rerr d i = z at *
  go_enter Try.func21, Try.ntmps21
  go_wp2_with (refine HC.out.mono ?_; rintro e w' ⟨rfl, rfl⟩)
  go_ret
  exact ⟨rfl, rfl⟩
set_option maxHeartbeats 1000000 in
theorem Write_len (h : DkAt w g d) (i : Int) (A : Option Addr) (n c : Nat) (hi : DK.rerr d i = 0) (hn : n ≠ 64) : Calls Try.prog 21 #[.pointer (some ⟨g, 0, none⟩), .int .i64 i, .slice A n c] w fun e w' => e = .returned (.int .i64 2) ∧ w = w' := by
  have HC := Lib.hid (refuses_any h i)
  rw [hi] at HC
  have HN := Lib.hid (isNo_any A n c w)
  rw [decide_eq_false hn] at HN
  clear h hi hn
  go_enter Try.func21, Try.ntmps21
  go_wp2_with (first
    | (refine HC.out.mono ?_; rintro e w' ⟨rfl, rfl⟩)
    | (refine HN.out.mono ?_; rintro e w' ⟨rfl, rfl⟩))
  go_ret
  exact ⟨rfl, rfl⟩
set_option maxHeartbeats 1000000 in
theorem Write_cut (h : DkAt w g d) (i : Int) (A : Option Addr) (c : Nat) (hi : DK.rerr d i = 0) (ha : d.am = 0) : Calls Try.prog 21 #[.pointer (some ⟨g, 0, none⟩), .int .i64 i, .slice A 64 c] w fun e w' => e = .returned (.int .i64 40) ∧ Hid (DkAt w' g ⟨d.ss, d.wr, true, -1⟩) ∧ Hid (Mod [g] w w') := by
  have HC := Lib.hid (refuses_any h i)
  rw [hi] at HC
  have HN := Lib.hid (isNo_any A 64 c w)
  obtain ⟨c0, c1, c2, c3, c4⟩ := h.nums
  have f2 := h.fr 32770
  have f3 := h.fr 32771
  have hR := (h.setOff true).set2 false (-1) (by decide) (by omega)
  have HM := Lib.hid ((((Mod.refl [g] w).store (p := ⟨g, 32770, none⟩) (.inl (by simp)) (.bool true)).store (p := ⟨g, 32771, none⟩) (.inl (by simp)) (.bool false)))
  rw [ha] at c3 c4
  have HR := Lib.hid (show DkAt ((w.setCell ⟨g, 32770, none⟩ (.bool true)).setCell ⟨g, 32771, none⟩ (.bool false)) g ⟨d.ss, d.wr, true, -1⟩ by
    obtain ⟨cs, h1, h2, h3, h4, h5, h6, h7, h8⟩ := h.ex
    refine ⟨⟨_, (h1.store 32770 _).store 32771 _, by simp [h2], ?_, ?_, ?_, ?_, ?_, fun i x hx j c hc => ?_⟩, hR.ok⟩
    · rw [Array.getElem?_setIfInBounds_ne (by decide), Array.getElem?_setIfInBounds_ne (by decide)]; exact h3
    · rw [Array.getElem?_setIfInBounds_ne (by decide), Array.getElem?_setIfInBounds_ne (by decide)]; exact h4
    · rw [Array.getElem?_setIfInBounds_ne (by decide), Array.getElem?_setIfInBounds_self_of_lt (by rw [h2]; decide)]
    · rw [Array.getElem?_setIfInBounds_self_of_lt (by rw [Array.size_setIfInBounds, h2]; decide)]; rfl
    · rw [Array.getElem?_setIfInBounds_ne (by decide), Array.getElem?_setIfInBounds_ne (by decide), h7, ha]; rfl
    · have hx : d.ss[i]? = some x := hx
      have hi := (List.getElem?_eq_some_iff.1 hx).1
      have hj := (List.getElem?_eq_some_iff.1 hc).1
      have hl := h.ok.len i x hx
      have := h.ok.le
      have n1 : 32770 ≠ i * 64 + j := by omega
      have n2 : 32771 ≠ i * 64 + j := by omega
      rw [Array.getElem?_setIfInBounds_ne n2, Array.getElem?_setIfInBounds_ne n1]
      exact h8 i x hx j c hc)
  have c3 : w.cell? ⟨g, 32771, none⟩ = some (.bool true) := c3
  have c4 : w.cell? ⟨g, 32772, none⟩ = some (.int .i64 0) := c4
  clear h hi ha hR
  go_enter Try.func21, Try.ntmps21
  go_wp2_with (first
    | (refine HC.out.mono ?_; rintro e w' ⟨rfl, rfl⟩)
    | (refine HN.out.mono ?_; rintro e w' ⟨rfl, rfl⟩))
  go_ret
  exact ⟨rfl, HR, HM⟩
/-- The cells of sector k are set to x. -/
theorem DkAt.setRow (h : DkAt w g d) {k : Nat} (hk : k < d.ss.length) {x : List UInt8} (hx : x.length = 64) : DkAt (w.setCells g (k * 64) (u8s x)) g ⟨d.ss.set k x, d.wr, d.off, d.am⟩ ∧ Mod [g] w (w.setCells g (k * 64) (u8s x)) := by
  obtain ⟨cs, h1, h2, h3, h4, h5, h6, h7, h8⟩ := h.ex
  have hle := h.ok.le
  have go : ∀ (vs : List Value) (o : Nat) (w : World) (cs : Array Value), Whole w g 59 cs → o + vs.length ≤ cs.size → ∃ cs' : Array Value, Whole (w.setCells g o vs) g 59 cs' ∧ cs'.size = cs.size ∧ (∀ j, j < o ∨ o + vs.length ≤ j → cs'[j]? = cs[j]?) ∧ (∀ j v, vs[j]? = some v → cs'[o + j]? = some v) ∧ Mod [g] w (w.setCells g o vs) := by
    intro vs
    induction vs with
    | nil => intro o w cs hw _; exact ⟨cs, hw, rfl, fun _ _ => rfl, fun j v hv => by simp at hv, Mod.refl _ _⟩
    | cons v r ih =>
      intro o w cs hw hl
      have hl' : o + (r.length + 1) ≤ cs.size := by simpa using hl
      obtain ⟨cs', k1, k2, k3, k4, k5⟩ := ih (o + 1) (w.setCell ⟨g, o, none⟩ v) _ (hw.store o v) (by rw [Array.size_setIfInBounds]; omega)
      refine ⟨cs', k1, by rw [k2, Array.size_setIfInBounds], fun j hj => ?_, fun j u hu => ?_, ((Mod.refl [g] w).store (p := ⟨g, o, none⟩) (.inl (by simp)) v).trans k5 (by simp)⟩
      · have hj' : j < o ∨ o + (r.length + 1) ≤ j := by simpa using hj
        rw [k3 j (by omega), Array.getElem?_setIfInBounds_ne (by omega)]
      · cases j with
        | zero =>
          have e : v = u := by simpa using hu
          subst e
          rw [Nat.add_zero, k3 o (by omega), Array.getElem?_setIfInBounds_self_of_lt (by omega)]
        | succ j =>
          rw [show o + (j + 1) = o + 1 + j by omega]
          exact k4 j u (by simpa using hu)
  obtain ⟨cs', k1, k2, k3, k4, k5⟩ := go (u8s x) (k * 64) w cs h1 (by rw [By.u8s_len]; omega)
  rw [By.u8s_len, hx] at k3
  refine ⟨⟨⟨cs', k1, k2.trans h2, ?_, ?_, ?_, ?_, ?_, fun i y hy j c hc => ?_⟩, ⟨by simpa using h.ok.lo, by simpa using h.ok.le, fun i y hy => ?_, h.ok.am, h.ok.wr⟩⟩, k5⟩
  · rw [k3 _ (by omega), h3]; simp
  · rw [k3 _ (by omega)]; exact h4
  · rw [k3 _ (by omega)]; exact h5
  · rw [k3 _ (by omega)]; exact h6
  · rw [k3 _ (by omega)]; exact h7
  · have hy : (d.ss.set k x)[i]? = some y := hy
    by_cases e : k = i
    · subst e
      rw [List.getElem?_set_self hk] at hy
      cases hy
      exact k4 j (u8 c) (by unfold u8s; rw [List.getElem?_map, hc]; rfl)
    · rw [List.getElem?_set_ne e] at hy
      have hi := (List.getElem?_eq_some_iff.1 hy).1
      have hj := (List.getElem?_eq_some_iff.1 hc).1
      have hl := h.ok.len i y hy
      rw [k3 _ (by omega)]
      exact h8 i y hy j c hc
  · have hy : (d.ss.set k x)[i]? = some y := hy
    by_cases e : k = i
    · subst e
      rw [List.getElem?_set_self hk] at hy
      cases hy
      exact hx
    · rw [List.getElem?_set_ne e] at hy
      exact h.ok.len i y hy
theorem DkAt.setWr (h : DkAt w g d) (z : Int) (hz : -9223372036854775808 ≤ z ∧ z ≤ 9223372036854775807) : DkAt (w.setCell ⟨g, 32769, none⟩ (.int .i64 z)) g ⟨d.ss, z, d.off, d.am⟩ := by
  obtain ⟨cs, h1, h2, h3, h4, h5, h6, h7, h8⟩ := h.ex
  refine ⟨⟨_, h1.store 32769 _, by simp [h2], ?_, ?_, ?_, ?_, ?_, fun i x hx j c hc => ?_⟩, ⟨h.ok.lo, h.ok.le, h.ok.len, h.ok.am, hz⟩⟩
  · rw [Array.getElem?_setIfInBounds_ne (by decide)]; exact h3
  · rw [Array.getElem?_setIfInBounds_self_of_lt (by rw [h2]; decide)]
  · rw [Array.getElem?_setIfInBounds_ne (by decide)]; exact h5
  · rw [Array.getElem?_setIfInBounds_ne (by decide)]; exact h6
  · rw [Array.getElem?_setIfInBounds_ne (by decide)]; exact h7
  · have hx : d.ss[i]? = some x := hx
    have hi := (List.getElem?_eq_some_iff.1 hx).1
    have hj := (List.getElem?_eq_some_iff.1 hc).1
    have hl := h.ok.len i x hx
    have := h.ok.le
    have n1 : 32769 ≠ i * 64 + j := by omega
    rw [Array.getElem?_setIfInBounds_ne n1]
    exact h8 i x hx j c hc
theorem DkAt.setLeft (h : DkAt w g d) (ha : 0 < d.am) : DkAt (w.setCell ⟨g, 32772, none⟩ (.int .i64 (d.am - 1))) g ⟨d.ss, d.wr, d.off, d.am - 1⟩ := by
  obtain ⟨cs, h1, h2, h3, h4, h5, h6, h7, h8⟩ := h.ex
  refine ⟨⟨_, h1.store 32772 _, by simp [h2], ?_, ?_, ?_, ?_, ?_, fun i x hx j c hc => ?_⟩, ⟨h.ok.lo, h.ok.le, h.ok.len, by have := h.ok.am; show -1 ≤ d.am - 1 ∧ d.am - 1 ≤ 9223372036854775807; omega, h.ok.wr⟩⟩
  · rw [Array.getElem?_setIfInBounds_ne (by decide)]; exact h3
  · rw [Array.getElem?_setIfInBounds_ne (by decide)]; exact h4
  · rw [Array.getElem?_setIfInBounds_ne (by decide)]; exact h5
  · rw [Array.getElem?_setIfInBounds_ne (by decide), h6]
    show some (Value.bool (decide (0 ≤ d.am))) = some (Value.bool (decide (0 ≤ d.am - 1)))
    rw [decide_eq_true (by omega : 0 ≤ d.am), decide_eq_true (by omega : 0 ≤ d.am - 1)]
  · rw [Array.getElem?_setIfInBounds_self_of_lt (by rw [h2]; decide)]
    show some (Value.int .i64 (d.am - 1)) = some (Value.int .i64 (max (d.am - 1) 0))
    rw [show max (d.am - 1) 0 = d.am - 1 by omega]
  · have hx : d.ss[i]? = some x := hx
    have hi := (List.getElem?_eq_some_iff.1 hx).1
    have hj := (List.getElem?_eq_some_iff.1 hc).1
    have hl := h.ok.len i x hx
    have := h.ok.le
    have n1 : 32772 ≠ i * 64 + j := by omega
    rw [Array.getElem?_setIfInBounds_ne n1]
    exact h8 i x hx j c hc
set_option maxHeartbeats 2000000 in
theorem Write_ok (h : DkAt w g d) (k : Nat) (b : Nat) (o c : Nat) (x : List UInt8) (hk : k < d.ss.length) (ho : d.off = false) (hx : x.length = 64) (hb : w.rangeAt b o (u8s x)) (ha : d.am ≠ 0) (hbg : b ≠ g) (d' : Dk) (hd' : d' = ⟨d.ss.set k x, IntKind.i64.wrap (d.wr + 1), d.off, if 0 < d.am then d.am - 1 else d.am⟩) :
    Calls Try.prog 21 #[.pointer (some ⟨g, 0, none⟩), .int .i64 (k : Int), .slice (some ⟨b, o, none⟩) 64 c] w fun e w' => e = .returned (.int .i64 0) ∧ Hid (DkAt w' g d') ∧ Hid (Mod [g] w w') := by
  have HE := Lib.hid hd'
  clear hd'
  have hle := h.ok.le
  have HC := Lib.hid (refuses_any h (k : Int))
  rw [DK.rerr_ok ho (by omega)] at HC
  have HN := Lib.hid (isNo_any (some ⟨b, o, none⟩) 64 c w)
  have hu := Try.underlying56
  have hk5 : (k : Int) < 512 := by omega
  have HB := Lib.hid (show w.drew.rangeAt b o (u8s x) from hb)
  have HU := Lib.hid hu
  have HI := Lib.hid (info_sector hx)
  have hl : (u8s x).length = 64 := (By.u8s_len _).trans hx
  have H1 := Lib.hid (all_oneCell_toArray (By.one_u8 (l := x)))
  have HT0 := Lib.hid (show w.drew.there g (k * 64) 64 from h.there (by omega))
  have H10 := Lib.hid (By.one_u8 (l := x))
  have HT := Lib.hid (show w.drew.there g (k * 64) (u8s x).toArray.size by rw [List.size_toArray, hl]; exact h.there (by omega))
  have hsp : ∀ w', (Instr.arrayAt 56 (.slice (some ⟨b, o, none⟩) 64 c)).run Try.prog w' = .ok (.pointer (some ⟨b, o, none⟩)) w' := fun w' => by
    unfold Instr.arrayAt
    rw [Sem.run_bind, run_underlying hu w']
    rfl
  have ham := h.ok.am
  obtain ⟨c0, c1, c2, c3, c4⟩ := h.nums
  have e3 : decide (0 ≤ d.am) = true → 0 < d.am := fun hh => by have := of_decide_eq_true hh; omega
  have HD := Lib.hid (show DkAt (w.drew.setCells g (k * 64) (u8s x)) g ⟨d.ss.set k x, d.wr, d.off, d.am⟩ ∧ Mod [g] w (w.drew.setCells g (k * 64) (u8s x)) by
    have h' : DkAt w.drew g d := ⟨h.ex, h.ok⟩
    have := h'.setRow hk hx
    exact ⟨this.1, ((Mod.refl [g] w).drew).trans this.2 (fun x hx => .inl hx)⟩)
  have hz : ((d.am == 0) = false) := by simpa using ha
  have hmx : ((max d.am 0 == 0) && decide (0 ≤ d.am)) = false := by
    by_cases h0 : 0 ≤ d.am
    · have : max d.am 0 = d.am := by omega
      rw [this, hz]; rfl
    · rw [decide_eq_false h0, Bool.and_false]
  have HK1 := Lib.hid (World.rangeAt_setCells_apart (show w.drew.rangeAt b o (u8s x) from hb) g (k * 64) (u8s x) (.inl hbg))
  have HK2 := Lib.hid (World.there_setCells HT0.out g (k * 64) (u8s x))
  clear h hb hu
  have hwr := DK.wrap_wf (d.wr + 1)
  by_cases h0 : 0 < d.am
  · have hge : decide (0 ≤ d.am) = true := decide_eq_true (by omega)
    have hm : max d.am 0 = d.am := by omega
    rw [hge] at c3
    rw [hm] at c4
    go_enter Try.func21, Try.ntmps21
    go_wp2_with (first
      | (refine HC.out.mono ?_; rintro e w' ⟨rfl, rfl⟩)
      | (refine HN.out.mono ?_; rintro e w' ⟨rfl, rfl⟩))
    have hb := HB.out
    have hth := HT0.out
    have h1 := H10.out
    have hi := HI.out
    have hu := HU.out
    go_region_held3 (fun w' : World => w'.rangeAt b o (u8s x) ∧ w'.there g (k * 64) 64) (first | with_reducible exact And.intro hb hth | with_reducible exact And.intro HK1.out HK2.out) (fail)
    generalize w.drew.setCells g (k * 64) (u8s x) = W1 at HD ⊢
    clear hb hth h1 hi hu HB HU HI H1 HT HT0 H10 HK1 HK2
    obtain ⟨_, v1, _, v3, v4⟩ := HD.out.1.nums
    have g1 := HD.out.1.fr 32769
    have g4 := HD.out.1.fr 32772
    rw [show decide (0 ≤ ({ ss := d.ss.set k x, wr := d.wr, off := d.off, am := d.am } : Dk).am) = true from hge] at v3
    rw [show max ({ ss := d.ss.set k x, wr := d.wr, off := d.off, am := d.am } : Dk).am 0 = d.am from hm] at v4
    have HW := Lib.hid (show IntKind.i64.wrap (d.am - 1) = d.am - 1 by rw [IntKind.wrap_i64]; omega)
    go_wp2_with fail
    go_ret
    rw [show wrap64 (d.wr + 1) = IntKind.i64.wrap (d.wr + 1) by rw [IntKind.wrap_i64, wrap64]]
    have he := HE.out
    rw [if_pos h0] at he
    subst he
    exact ⟨rfl, Lib.hid ((HD.out.1.setWr _ hwr).setLeft h0), Lib.hid ((HD.out.2.store (.inl (by simp)) _).store (.inl (by simp)) _)⟩
  · have hge : decide (0 ≤ d.am) = false := decide_eq_false (by omega)
    rw [hge] at c3
    go_enter Try.func21, Try.ntmps21
    go_wp2_with (first
      | (refine HC.out.mono ?_; rintro e w' ⟨rfl, rfl⟩)
      | (refine HN.out.mono ?_; rintro e w' ⟨rfl, rfl⟩))
    have hb := HB.out
    have hth := HT0.out
    have h1 := H10.out
    have hi := HI.out
    have hu := HU.out
    go_region_held3 (fun w' : World => w'.rangeAt b o (u8s x) ∧ w'.there g (k * 64) 64) (first | with_reducible exact And.intro hb hth | with_reducible exact And.intro HK1.out HK2.out) (fail)
    generalize w.drew.setCells g (k * 64) (u8s x) = W1 at HD ⊢
    clear hb hth h1 hi hu HB HU HI H1 HT HT0 H10 HK1 HK2
    obtain ⟨_, v1, _, v3, v4⟩ := HD.out.1.nums
    have g1 := HD.out.1.fr 32769
    have g4 := HD.out.1.fr 32772
    rw [show decide (0 ≤ ({ ss := d.ss.set k x, wr := d.wr, off := d.off, am := d.am } : Dk).am) = false from hge] at v3
    go_wp2_with fail
    go_ret
    rw [show wrap64 (d.wr + 1) = IntKind.i64.wrap (d.wr + 1) by rw [IntKind.wrap_i64, wrap64]]
    have he := HE.out
    rw [if_neg (by omega)] at he
    subst he
    exact ⟨rfl, Lib.hid (HD.out.1.setWr _ hwr), Lib.hid (HD.out.2.store (.inl (by simp)) _)⟩
end
end Go.Proofs.Ytdagmkkkiaacoaa
