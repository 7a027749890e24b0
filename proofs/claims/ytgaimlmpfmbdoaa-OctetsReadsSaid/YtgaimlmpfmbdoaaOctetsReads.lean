/- A reader of any bytes answers what the document says to any calls; for all bytes and every list of calls. -/
import Derived.Test.YtgaimlmpfmbdoaaOctetsW14
import Derived.Test.YtgaimlmpfmbdoaaLawBare
import Derived.JoinedCond
import Derived.OpenShut
namespace Go.Proofs.Ytgaimlmpfmbdoaa.lawOctetsReads
open Go Go.RowKit Go.ChangeShapes Go.WideShapes Go.ChangeAt
set_option linter.unusedVariables false
set_option linter.unusedSimpArgs false
theorem bytes_far {w w' : World} {A : Option Addr} {l l' : List UInt8} {r b e : Nat} (h : BytesAt w A l) (hr : RAt w r b l' e) (hm : Mod [r] w w') : BytesAt w' A l := by
  obtain ⟨A0, c0, k1, _⟩ := hr
  exact h.kept k1 (by intro k h; cases h) hm
theorem whole_far {w w' : World} {g : Nat} {t : TypeId} {cs : Array Value} {l' : List UInt8} {r b e : Nat} (h : Whole w g t cs) (hr : RAt w r b l' e) (hm : Mod [r] w w') (ht : t ≠ 64) : Whole w' g t cs := by
  obtain ⟨A0, c0, k1, _⟩ := hr
  have hne : g ≠ r := Whole.ne h k1 ht
  exact hm.whole h (by simpa using hne)
theorem whole_below {w w' : World} {g : Nat} {t : TypeId} {cs : Array Value} (h : Whole w g t cs) (hb : Below w.heap.size w w') : Whole w' g t cs := (Mod.of_below hb []).whole h (by simp)
theorem reader_block {w w' : World} {r b mb : Nat} {l : List UInt8} {e : Nat} {v : Value} {n : Int} (h : RAt w r b l e) (hM : Whole w mb 43 #[v, .int .i64 n]) (hv : ∀ k, v ≠ .int .u8 k) (hm : Mod [mb] w w') : RAt w' r b l e := by
  obtain ⟨A, c, k1, k2, k3⟩ := h
  have hne : r ≠ mb := Whole.ne k1 hM (by decide)
  exact ⟨A, c, hm.whole k1 (by simpa using hne), k2.kept hM hv hm, k3⟩
theorem Left_quiet {w : World} {r b : Nat} {l : List UInt8} {e n : Nat} (h : RAt w r b l e) : Calls Try.prog 20 #[.pointer (some ⟨r, 0, none⟩)] (w.drewN n) fun x w'' => x = .returned (.int .i64 (l.length : Int)) ∧ ∃ m, w'' = w.drewN m :=
  Calls.quiet_of_same ((Left_any r b l e (w.drewN n) h).mono fun _ _ h => ⟨h.1, h.2.symm⟩)
theorem Err_quiet {w : World} {r b : Nat} {l : List UInt8} {e n : Nat} (h : RAt w r b l e) : Calls Try.prog 16 #[.pointer (some ⟨r, 0, none⟩)] (w.drewN n) fun x w'' => x = .returned (.int .i64 (e : Int)) ∧ ∃ m, w'' = w.drewN m :=
  Calls.quiet_of_same ((Err_any r b l e (w.drewN n) h).mono fun _ _ h => ⟨h.1, h.2.symm⟩)
/-- What the document's reader answers, all in the world behind it. -/
def Read2 (w : World) (v : Value) (m : List UInt8) (e : Nat) (x : Ending) (w' : World) : Prop :=
  ∃ A c, x = .returned (.tuple #[v, .agg #[.slice A m.length c, .int .i64 (e : Int)]]) ∧ Hid (BytesAt w' A m) ∧ m.length ≤ c ∧ c ≤ 9223372036854775807 ∧ Hid (Below w.heap.size w w')
theorem ReadText_in {w : World} {A : Option Addr} {c e e' : Nat} {l m t : List UInt8} {most : Int} (hmost : -9223372036854775808 ≤ most ∧ most ≤ 9223372036854775807) (h : BytesAt w A l) (h3 : l.length ≤ c) (h4 : c ≤ 9223372036854775807) (hk : OM.rtext l e most = (t, m, e')) :
    Calls Try.prog 22 #[.agg #[.slice A l.length c, .int .i64 (e : Int)], .int .i64 most] w (Read2 w (.string ⟨t.toArray⟩) m e') := by
  refine (ReadText_any A c l e most w hmost h h3 h4).mono ?_
  rintro x w' ⟨A', c', hx, h1, h2, h3, h4⟩
  rw [hk] at hx h1 h2
  exact ⟨A', c', hx, Lib.hid (h1.below h4), h2, h3, Lib.hid h4⟩
theorem ReadNum_in {w : World} {A : Option Addr} {c e e' n : Nat} {l m : List UInt8} (h : BytesAt w A l) (h3 : l.length ≤ c) (h4 : c ≤ 9223372036854775807) (hk : OM.rnum l e = (n, m, e')) :
    Calls Try.prog 23 #[.agg #[.slice A l.length c, .int .i64 (e : Int)]] w (Read2 w (.int .i64 (n : Int)) m e') := by
  refine (ReadNum_any A c l e w h h3 h4).mono ?_
  rintro x w' ⟨A', c', hx, h1, h2, h3, h4⟩
  rw [hk] at hx h1 h2
  exact ⟨A', c', hx, Lib.hid (h1.below h4), h2, h3, Lib.hid h4⟩
theorem reads_next {w : World} {mb r : Nat} {A : Option Addr} {l : List UInt8} {v : Value} {n : Int} (h : BytesAt w A l) (hr : Whole w mb 43 #[v, .int .i64 n]) (hv : ∀ k, v ≠ .int .u8 k) {w' : World} (hm : Mod [mb] w w') : BytesAt w' A l := h.kept hr hv hm
/-- What holds at every round's head. -/
def Held (w0 : World) (l : List UInt8) (r b mb : Nat) (lk : List UInt8) (e : Nat) (A : Option Addr) (c : Nat) (wx : World) : Prop :=
  RAt wx r b lk e ∧ Whole wx mb 43 #[.slice A lk.length c, .int .i64 (e : Int)] ∧ BytesAt wx A lk ∧ lk.length ≤ c ∧ c ≤ 9223372036854775807 ∧ lk.length ≤ l.length ∧ Below w0.heap.size w0 wx ∧ w0.heap.size ≤ r ∧ w0.heap.size ≤ mb
theorem rnum_len (l : List UInt8) (e : Nat) : (OM.rnum l e).2.1.length ≤ l.length := by
  unfold OM.rnum
  split
  · exact Nat.le_refl _
  · split
    · exact Nat.le_refl _
    · rw [List.length_drop]; omega
theorem rtext_len (l : List UInt8) (e : Nat) (m : Int) : (OM.rtext l e m).2.1.length ≤ l.length := by
  unfold OM.rtext
  split
  · exact Nat.le_refl _
  · split
    · exact Nat.le_refl _
    · split
      · exact Nat.le_refl _
      · split
        · exact Nat.le_refl _
        · rw [List.length_drop]; omega
set_option maxRecDepth 100000 in
set_option maxHeartbeats 8000000 in
theorem walk (A : Option Addr) (c : Nat) (l : List UInt8) (B : Option Addr) (d : Nat) (xs : List Thing) (w : World) (hB : BytesAt w A l) (hc : l.length ≤ c) (hm : c ≤ 140737488351232)
    (hT : ThingsAt w.heap.size w B xs) (hd : xs.length ≤ d) (hdm : d ≤ 9223372036854775807) (hF : ∀ x ∈ xs, Fair x) :
    Calls Try.prog 5 #[.slice A l.length c, .slice B xs.length d] w (LK.True_ w) := by
  have HY := Lib.hid hB; clear hB
  have HT := Lib.hid hT; clear hT
  have HF := Lib.hid hF; clear hF
  go_enter Try.func5, Try.ntmps5
  go_wp2_with fail
  refine (awake_any _).mono ?_
  rintro e w1 ⟨rfl, hb⟩
  have HB1 := Lib.hid hb
  have HY1 := Lib.hid (HY.out.below hb)
  clear hb
  go_wp2_with (at_builtin; refine app_all rfl (.tmp 17) (.tmp 18) rfl A c _ l rfl HY1.out _ rfl rfl rfl (by omega) ?_; intro A2 n2 c2 w2 hm2; obtain ⟨HN2, HX2, -, HF2, -, -⟩ := hm2)
  refine (NewReader_in HN2.out HX2.out (by omega)).mono ?_
  rintro e w3 ⟨r, b, rfl, hr, hb, hr1, -, -, -⟩
  have HR3 := Lib.hid hr
  have HB3 := Lib.hid (HB1.out.trans ((HF2.out.mono HB1.out.size).trans (hb.mono (Nat.le_trans HB1.out.size HF2.out.size))))
  have HY3 := Lib.hid ((HY1.out.below HF2.out).below hb)
  have hNr : w.heap.size ≤ r := Nat.le_trans (Nat.le_trans HB1.out.size HF2.out.size) hr1
  clear hr hb hr1
  go_wp2_with fail
  have HA4 := Lib.hid ((Below.refl _ w3).alloc (Nat.le_refl _) (Obj.cells #[.slice A l.length c, .int .i64 0] 43))
  have HR4 := Lib.hid (HR3.out.below HA4.out)
  refine (Left_any r b _ _ _ HR4.out).mono ?_
  rintro e w4 ⟨rfl, rfl⟩
  go_wp2_with fail
  refine (Err_any r b _ _ _ HR4.out).mono ?_
  rintro e w4 ⟨rfl, rfl⟩
  go_wp2_with fail
  have HH : Hid (Held w l r b w3.heap.size l 0 A c (w3.alloc (Obj.cells #[.slice A l.length c, .int .i64 0] 43))) :=
    Lib.hid ⟨HR4.out, Whole.new _ _ _, HY3.out.below HA4.out, hc, by omega, Nat.le_refl _, HB3.out.trans (HA4.out.mono HB3.out.size), hNr, HB3.out.size⟩
  generalize w3.heap.size = mb at HH ⊢
  have hmb : mb < (w3.alloc (Obj.cells #[.slice A l.length c, .int .i64 0] 43)).heap.size := HH.out.2.1.lt
  generalize w3.alloc (Obj.cells #[.slice A l.length c, .int .i64 0] 43) = w5 at HH hmb ⊢
  clear HY3 HB3 HR3
  go_loopw [39] (fun i wx => ∃ (k : Nat) (lk : List UInt8) (e : Nat) (A' : Option Addr) (c' : Nat), i = .int .i64 (k : Int) ∧ k ≤ xs.length ∧ Held w l r b mb lk e A' c' wx) (fun i _ => xs.length - (intOf i).toNat)
  case atStart => exact ⟨0, l, 0, A, c, rfl, by omega, HH.out⟩
  case round =>
    obtain ⟨k, lk, e, A', c', rfl, hk, hH⟩ := hrel
    have HQ := Lib.hid hH; clear hH
    by_cases hlt : k < xs.length
    · obtain ⟨hR, hM, hA', hc', hc9, hle, hBw, hr0, hm0⟩ := HQ.out
      obtain ⟨tb, to_, hT0, htb, htc⟩ := HT.out.below hBw (by omega)
      subst hT0
      obtain ⟨t0, t1, t2⟩ := htc k xs[k] (List.getElem?_eq_getElem hlt)
      obtain ⟨hf1, hf2⟩ := HF.out xs[k] (List.getElem_mem hlt)
      clear htc
      generalize xs[k] = x at t0 t1 t2 hf1 hf2
      obtain ⟨t, n, s⟩ := x
      simp only at t0 t1 t2 hf1 hf2
      have m0 : wr.cell? ⟨mb, 0, none⟩ = some (.slice A' lk.length c') := hM.cell 0
      have m1 : wr.cell? ⟨mb, 1, none⟩ = some (.int .i64 (e : Int)) := hM.cell 1
      have hsz : w.heap.size ≤ wr.heap.size := hBw.size
      have lmb := hM.lt
      have HR := Lib.hid hR; have HM := Lib.hid hM; have HA := Lib.hid hA'; have HW := Lib.hid hBw
      clear hR hM hA' hBw
      have HX := Lib.hid ((Below.refl _ wr).alloc (Nat.le_refl _) (Obj.cells #[.bool t, .int .i64 n, .string s] 38))
      cases t with
      | true =>
        obtain ⟨q, lq, eq, hq⟩ : ∃ q lq eq, OM.rtext lk e n = (q, lq, eq) := ⟨_, _, _, rfl⟩
        have hql := rtext_len lk e n
        rw [hq] at hql
        have HQ2 := Lib.hid hq; clear hq
        go_wp2_with fail
        refine (RText_in hf1 (HR.out.below HX.out) HQ2.out).mono ?_
        rintro x6 w6 ⟨rfl, h1, h2⟩
        have HR6 := Lib.hid h1
        have HM6 := Lib.hid (whole_far (whole_below HM.out HX.out) (HR.out.below HX.out) h2 (by decide))
        have HA6 := Lib.hid (bytes_far (HA.out.below HX.out) (HR.out.below HX.out) h2)
        have HT6 := Lib.hid (whole_far (Whole.new wr 38 #[.bool true, .int .i64 n, .string s]) (HR.out.below HX.out) h2 (by decide))
        have HW6 := Lib.hid ((HW.out.trans (HX.out.mono hsz)).trans (below_reader h2 (Nat.le_trans hsz HX.out.size) hr0))
        clear h1 h2
        have p0 : w6.cell? ⟨mb, 0, none⟩ = some (.slice A' lk.length c') := HM6.out.cell 0
        have p1 : w6.cell? ⟨mb, 1, none⟩ = some (.int .i64 (e : Int)) := HM6.out.cell 1
        have p2 : w6.cell? ⟨wr.heap.size, 1, none⟩ = some (.int .i64 n) := HT6.out.cell 1
        clear m0 m1 t0 t1 t2
        go_wp2_with fail
        refine (ReadText_in hf1 HA6.out hc' hc9 HQ2.out).mono ?_
        rintro x7 w7 ⟨A7, c7, rfl, HB7, hl7, hc7, HW7⟩
        have HR7 := Lib.hid (HR6.out.below HW7.out)
        have HM7 := Lib.hid (whole_below HM6.out HW7.out)
        have HN7 := Lib.hid (HW6.out.trans (HW7.out.mono HW6.out.size))
        have q0 : w7.cell? ⟨mb, 0, none⟩ = some (.slice A' lk.length c') := HM7.out.cell 0
        have q1 : w7.cell? ⟨mb, 1, none⟩ = some (.int .i64 (e : Int)) := HM7.out.cell 1
        have g0 : w7.frozen? ⟨mb, 0, none⟩ = false := HM7.out.frozen 0
        have g1 : w7.frozen? ⟨mb, 1, none⟩ = false := HM7.out.frozen 1
        have l7 := HM7.out.lt
        clear p0 p1 p2
        go_wp2_with fail
        have HS8 : Hid (Mod [mb] w7 (((w7.setCell ⟨mb, 0, none⟩ (.slice A7 lq.length c7)).setCell ⟨mb, 1, none⟩ (.int .i64 (eq : Int))).alloc (.cells #[.slice A7 lq.length c7, .int .i64 (eq : Int)] 43))) :=
          Lib.hid ((((Mod.refl [mb] w7).store (p := ⟨mb, 0, none⟩) (.inl (by simp)) _).store (p := ⟨mb, 1, none⟩) (.inl (by simp)) _).alloc _)
        have HM8 : Hid (Whole (((w7.setCell ⟨mb, 0, none⟩ (.slice A7 lq.length c7)).setCell ⟨mb, 1, none⟩ (.int .i64 (eq : Int))).alloc (.cells #[.slice A7 lq.length c7, .int .i64 (eq : Int)] 43)) mb 43 #[.slice A7 lq.length c7, .int .i64 (eq : Int)]) :=
          Lib.hid (Whole.alloc ((HM7.out.store 0 _).store 1 _) _)
        generalize ((w7.setCell ⟨mb, 0, none⟩ (.slice A7 lq.length c7)).setCell ⟨mb, 1, none⟩ (.int .i64 (eq : Int))).alloc (.cells #[.slice A7 lq.length c7, .int .i64 (eq : Int)] 43) = w8 at HS8 HM8 ⊢
        have HR8 := Lib.hid (reader_block HR7.out HM7.out (by intro k h; cases h) HS8.out)
        have HB8 := Lib.hid (BytesAt.kept HB7.out HM7.out (by intro k h; cases h) HS8.out)
        have HW8 := Lib.hid (HN7.out.trans (below_reader HS8.out HN7.out.size hm0))
        have s0 : w8.cell? ⟨mb, 0, none⟩ = some (.slice A7 lq.length c7) := HM8.out.cell 0
        have s1 : w8.cell? ⟨mb, 1, none⟩ = some (.int .i64 (eq : Int)) := HM8.out.cell 1
        clear q0 q1 g0 g1 l7
        go_quiet (first
          | (go_at_call 20; exact Left_quiet HR8.out)
          | (go_at_call 16; exact Err_quiet HR8.out))
        go_wp2_with fail
        go_roundw
        case rel => exact ⟨k + 1, lq, eq, A7, c7, rfl, by omega, HR8.out, HM8.out, HB8.out, hl7, hc7, by omega, ⟨HW8.out.os, HW8.out.tape, HW8.out.output, HW8.out.size, HW8.out.block⟩, hr0, hm0⟩
        case measure => simp only [intOf]; omega
      | false =>
        obtain ⟨q, lq, eq, hq⟩ : ∃ q lq eq, OM.rnum lk e = (q, lq, eq) := ⟨_, _, _, rfl⟩
        have hql := rnum_len lk e
        rw [hq] at hql
        have HQ2 := Lib.hid hq; clear hq
        go_wp2_with fail
        refine (RNum_in (HR.out.below HX.out) HQ2.out).mono ?_
        rintro x6 w6 ⟨rfl, h1, h2⟩
        have HR6 := Lib.hid h1
        have HM6 := Lib.hid (whole_far (whole_below HM.out HX.out) (HR.out.below HX.out) h2 (by decide))
        have HA6 := Lib.hid (bytes_far (HA.out.below HX.out) (HR.out.below HX.out) h2)
        have HT6 := Lib.hid (whole_far (Whole.new wr 38 #[.bool false, .int .i64 n, .string s]) (HR.out.below HX.out) h2 (by decide))
        have HW6 := Lib.hid ((HW.out.trans (HX.out.mono hsz)).trans (below_reader h2 (Nat.le_trans hsz HX.out.size) hr0))
        clear h1 h2
        have p0 : w6.cell? ⟨mb, 0, none⟩ = some (.slice A' lk.length c') := HM6.out.cell 0
        have p1 : w6.cell? ⟨mb, 1, none⟩ = some (.int .i64 (e : Int)) := HM6.out.cell 1
        clear m0 m1 t0 t1 t2
        go_wp2_with fail
        refine (ReadNum_in HA6.out hc' hc9 HQ2.out).mono ?_
        rintro x7 w7 ⟨A7, c7, rfl, HB7, hl7, hc7, HW7⟩
        have HR7 := Lib.hid (HR6.out.below HW7.out)
        have HM7 := Lib.hid (whole_below HM6.out HW7.out)
        have HN7 := Lib.hid (HW6.out.trans (HW7.out.mono HW6.out.size))
        have q0 : w7.cell? ⟨mb, 0, none⟩ = some (.slice A' lk.length c') := HM7.out.cell 0
        have q1 : w7.cell? ⟨mb, 1, none⟩ = some (.int .i64 (e : Int)) := HM7.out.cell 1
        have g0 : w7.frozen? ⟨mb, 0, none⟩ = false := HM7.out.frozen 0
        have g1 : w7.frozen? ⟨mb, 1, none⟩ = false := HM7.out.frozen 1
        have l7 := HM7.out.lt
        clear p0 p1
        go_wp2_with fail
        have HS8 : Hid (Mod [mb] w7 (((w7.setCell ⟨mb, 0, none⟩ (.slice A7 lq.length c7)).setCell ⟨mb, 1, none⟩ (.int .i64 (eq : Int))).alloc (.cells #[.slice A7 lq.length c7, .int .i64 (eq : Int)] 43))) :=
          Lib.hid ((((Mod.refl [mb] w7).store (p := ⟨mb, 0, none⟩) (.inl (by simp)) _).store (p := ⟨mb, 1, none⟩) (.inl (by simp)) _).alloc _)
        have HM8 : Hid (Whole (((w7.setCell ⟨mb, 0, none⟩ (.slice A7 lq.length c7)).setCell ⟨mb, 1, none⟩ (.int .i64 (eq : Int))).alloc (.cells #[.slice A7 lq.length c7, .int .i64 (eq : Int)] 43)) mb 43 #[.slice A7 lq.length c7, .int .i64 (eq : Int)]) :=
          Lib.hid (Whole.alloc ((HM7.out.store 0 _).store 1 _) _)
        generalize ((w7.setCell ⟨mb, 0, none⟩ (.slice A7 lq.length c7)).setCell ⟨mb, 1, none⟩ (.int .i64 (eq : Int))).alloc (.cells #[.slice A7 lq.length c7, .int .i64 (eq : Int)] 43) = w8 at HS8 HM8 ⊢
        have HR8 := Lib.hid (reader_block HR7.out HM7.out (by intro k h; cases h) HS8.out)
        have HB8 := Lib.hid (BytesAt.kept HB7.out HM7.out (by intro k h; cases h) HS8.out)
        have HW8 := Lib.hid (HN7.out.trans (below_reader HS8.out HN7.out.size hm0))
        have s0 : w8.cell? ⟨mb, 0, none⟩ = some (.slice A7 lq.length c7) := HM8.out.cell 0
        have s1 : w8.cell? ⟨mb, 1, none⟩ = some (.int .i64 (eq : Int)) := HM8.out.cell 1
        clear q0 q1 g0 g1 l7
        go_quiet (first
          | (go_at_call 20; exact Left_quiet HR8.out)
          | (go_at_call 16; exact Err_quiet HR8.out))
        go_wp2_with fail
        go_roundw
        case rel => exact ⟨k + 1, lq, eq, A7, c7, rfl, by omega, HR8.out, HM8.out, HB8.out, hl7, hc7, by omega, ⟨HW8.out.os, HW8.out.tape, HW8.out.output, HW8.out.size, HW8.out.block⟩, hr0, hm0⟩
        case measure => simp only [intOf]; omega
    · go_wp2_with fail
      go_ret
      exact ⟨rfl, HQ.out.2.2.2.2.2.2.1⟩

theorem own : ownKnob Try.prog.godebug = none := by kernel_rfl
theorem laidOut : laidOutB Try.prog = true := by kernel_rfl
set_option maxRecDepth 100000 in
theorem lifted (os : Os) (started : os.Started) (H : Type) (enc : TypeId × Value → H) :
    ReturnsInHanded {} Try.checked os 5 .any (Rows.octetsReadsSpec.pre6 enc Try.prog Try.f5 [] false) (Rows.octetsReadsSpec.post enc Try.prog Try.f5 false true false false) := by
  refine LK.lifted_bare (C := Try.checked) (tb := 4) own started (by kernel_rfl) Try.func5 laidOut rfl (by kernel_rfl) (by kernel_rfl) Try.underlying4
    (fun ds h => by
      match ds, h with
      | [_, _], _ => rfl)
    (ChangeSpec.witness6 (enc := enc) (C := Try.checked) false ⟨#[], #[.slice none 0 0, .slice none 0 0], []⟩ 8 (by kernel_rfl) (by kernel_rfl) (by kernel_rfl) (by kernel_rfl)) ?_
  intro W base args ds ps hval hA hwt _
  rw [show Try.f5.params.toList = [28, 34] by kernel_rfl] at hA hwt
  have hval' : ∀ (j : Nat) t v, (#[28, 34] : Array TypeId)[j]? = some t → args[j]? = some v → Value.okWide Try.prog W .any base t v := by
    rw [← Try.params5]; exact hval
  clear hval
  obtain ⟨v0, v1, d0, d1, p0, p1, rfl, rfl, rfl, h0, h1⟩ := trodAll_two hA
  obtain ⟨A0, c0, l0, rfl, hB0, hc0, hm0⟩ := open_bytes (hval' 0 28 v0 rfl rfl) h0 hwt (j := 0) rfl rfl
  obtain ⟨A1, c1, xs1, rfl, hT1, hc1, hm1, hF1, hk1⟩ := open_things (hval' 1 34 v1 rfl rfl) h1
  exact walk A0 c0 l0 A1 c1 xs1 W hB0 hc0 hm0 hT1 hc1 hm1 hF1

/-- The statement. -/
theorem proved : Rows.OctetsReadsSaid :=
  OpenClaim.holds_of_wide 5 Try.f5 rfl rfl rfl rfl rfl rfl rfl ⟨rfl, rfl, rfl, rfl, rfl⟩ rfl rfl rfl rfl rfl (by kernel_rfl) Try.func5 (by kernel_rfl)
    (of_decide_eq_true (by kernel_rfl)) (by unfold Func.isWrapper; first | (rw [if_pos (by decide +kernel)]; kernel_rfl) | (rw [if_neg (by decide +kernel)]; exact ⟨rfl, rfl⟩))
    (fun os started H enc _ => lifted os started H enc)

end Go.Proofs.Ytgaimlmpfmbdoaa.lawOctetsReads
