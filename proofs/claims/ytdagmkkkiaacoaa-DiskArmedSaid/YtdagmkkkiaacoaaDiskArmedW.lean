/- The walk of DiskArmed: it answers true, and old memory stands. -/
import Derived.Test.YtdagmkkkiaacoaaRows
import Derived.Test.YtdagmkkkiaacoaaDkArg
import Derived.Test.YtdagmkkkiaacoaaLawBare
import Derived.JoinedCond
import Derived.OpenShut
namespace Go.Proofs.Ytdagmkkkiaacoaa.lawDiskArmed
open Go Go.RowKit Go.ChangeShapes Go.WideShapes Go.ChangeAt
set_option linter.unusedVariables false
set_option linter.unusedSimpArgs false
open By (u8s own_shape)
/-- How a disk stands that was armed with k, t writes in. -/
structure Arms (N : Nat) (k : Int) (t : Nat) (d : Dk) : Prop where
  len : d.ss.length = N
  wr : d.wr = (t : Int)
  st : (k < 0 ∧ d.off = false ∧ d.am = -1) ∨ (0 ≤ k ∧ (t : Int) ≤ k ∧ ((d.off = false ∧ d.am = k - t) ∨ (d.off = true ∧ (t : Int) = k)))
theorem Arms.start {N : Nat} (k : Int) : Arms N k 0 (DK.arm (DK.zero N) k) := by
  refine ⟨by simp [DK.arm, DK.zero], rfl, ?_⟩
  show (k < 0 ∧ false = false ∧ max k (-1) = -1) ∨ (0 ≤ k ∧ ((0 : Nat) : Int) ≤ k ∧ ((false = false ∧ max k (-1) = k - (0 : Nat)) ∨ (false = true ∧ ((0 : Nat) : Int) = k)))
  by_cases h : k < 0
  · exact .inl ⟨h, rfl, by omega⟩
  · exact .inr ⟨by omega, by omega, .inl ⟨rfl, by omega⟩⟩
/-- What one write makes of it. -/
theorem Arms.step {N : Nat} {k : Int} {t : Nat} {d : Dk} (h : Arms N k t d) (b : List UInt8) (hb : b.length = 64) (p : Int) (ht : t ≤ 60) :
    (d.off = true ∧ 0 ≤ k ∧ (t : Int) = k ∧ DK.werr d p 64 = 40 ∧ DK.written d p b = d) ∨
    (d.off = false ∧ ¬ (0 ≤ p ∧ p < N) ∧ DK.werr d p 64 = 2 ∧ DK.written d p b = d) ∨
    (d.off = false ∧ (0 ≤ p ∧ p < N) ∧ 0 ≤ k ∧ (t : Int) = k ∧ DK.werr d p 64 = 40 ∧ (DK.written d p b).off = true ∧ (DK.written d p b).ss = d.ss ∧ Arms N k t (DK.written d p b)) ∨
    (d.off = false ∧ (0 ≤ p ∧ p < N) ∧ (k < 0 ∨ (0 ≤ k ∧ (t : Int) < k)) ∧ DK.werr d p 64 = 0 ∧ (DK.written d p b).off = false ∧ (DK.written d p b).ss = d.ss.set p.toNat b ∧ Arms N k (t + 1) (DK.written d p b)) := by
  obtain ⟨hl, hw, hs⟩ := h
  cases ho : d.off with
  | true =>
    left
    rcases hs with ⟨_, h2, _⟩ | ⟨h1, h2, ⟨h3, _⟩ | ⟨_, h4⟩⟩
    · rw [ho] at h2; cases h2
    · rw [ho] at h3; cases h3
    · exact ⟨rfl, h1, h4, DK.werr_off ho, DK.written_off ho⟩
  | false =>
    right
    by_cases hp : 0 ≤ p ∧ p < N
    · right
      have hi : ¬ (p < 0 ∨ (d.ss.length : Int) ≤ p ∨ (64 : Nat) ≠ 64) := by omega
      have hi' : ¬ (p < 0 ∨ (d.ss.length : Int) ≤ p ∨ b.length ≠ 64) := by omega
      by_cases ha : d.am = 0
      · left
        rcases hs with ⟨_, _, h3⟩ | ⟨h1, h2, ⟨_, h4⟩ | ⟨h3, _⟩⟩
        · omega
        · rw [DK.written_cut ho hi' ha]
          have e : (t : Int) = k := by omega
          exact ⟨rfl, hp, h1, e, DK.werr_cut ho hi ha, rfl, rfl, hl, hw, .inr ⟨h1, h2, .inr ⟨rfl, e⟩⟩⟩
        · rw [ho] at h3; cases h3
      · right
        rw [DK.written_ok ho hi' ha]
        have hk : k < 0 ∨ (0 ≤ k ∧ (t : Int) < k) := by
          rcases hs with ⟨h1, _⟩ | ⟨h1, h2, ⟨_, h4⟩ | ⟨h3, _⟩⟩
          · exact .inl h1
          · exact .inr ⟨h1, by omega⟩
          · rw [ho] at h3; cases h3
        have hz : IntKind.i64.wrap (d.wr + 1) = ((t + 1 : Nat) : Int) := by rw [IntKind.wrap_i64]; omega
        refine ⟨rfl, hp, hk, DK.werr_ok ho hi ha, ho, rfl, by simpa using hl, hz, ?_⟩
        show (k < 0 ∧ d.off = false ∧ (if 0 < d.am then d.am - 1 else d.am) = -1) ∨ (0 ≤ k ∧ ((t + 1 : Nat) : Int) ≤ k ∧ ((d.off = false ∧ (if 0 < d.am then d.am - 1 else d.am) = k - (t + 1 : Nat)) ∨ (d.off = true ∧ ((t + 1 : Nat) : Int) = k)))
        rcases hs with ⟨h1, _, h3⟩ | ⟨h1, h2, ⟨_, h4⟩ | ⟨h3, _⟩⟩
        · exact .inl ⟨h1, ho, by rw [if_neg (by omega)]; exact h3⟩
        · exact .inr ⟨h1, by omega, .inl ⟨ho, by rw [if_pos (by omega)]; omega⟩⟩
        · rw [ho] at h3; cases h3
    · left
      have hi : p < 0 ∨ (d.ss.length : Int) ≤ p ∨ (64 : Nat) ≠ 64 := by omega
      have hi' : p < 0 ∨ (d.ss.length : Int) ≤ p ∨ b.length ≠ 64 := by omega
      exact ⟨rfl, hp, DK.werr_no ho hi, DK.written_no ho hi'⟩
/-- An image that the call has made. -/
structure Rw (b : Nat) (ss : List (List UInt8)) (wr : World) : Prop where
  row : Whole wr b 35 (imgCells (b + 1) ss.length ss.length)
  each : ∀ (j : Nat) (x : List UInt8), ss[j]? = some x → Whole wr (b + 1 + j) 56 (u8s x).toArray
theorem Rw.of {w wr : World} {ss : List (List UInt8)} (h : Img w ss ss.length wr) : Rw w.heap.size ss wr := ⟨h.row, fun j x hx => h.each j x hx (List.getElem?_eq_some_iff.1 hx).1⟩
theorem Rw.mod {b : Nat} {ss : List (List UInt8)} {a c : World} {F : List Nat} (h : Rw b ss a) (hm : Mod F a c) (hF : ∀ x ∈ F, x < b) : Rw b ss c :=
  ⟨hm.whole h.row (fun hx => absurd (hF _ hx) (Nat.lt_irrefl _)), fun j x hx => hm.whole (h.each j x hx) (fun hy => by have := hF _ hy; omega)⟩
theorem Rw.below {b : Nat} {ss : List (List UInt8)} {a c : World} (h : Rw b ss a) (hb : Below a.heap.size a c) : Rw b ss c := h.mod (F := []) (Mod.of_below hb []) (by simp)
theorem Rw.cell {b : Nat} {ss : List (List UInt8)} {a : World} (h : Rw b ss a) {j : Nat} (hj : j < ss.length) : a.cell? ⟨b, j, none⟩ = some (.slice (some ⟨b + 1 + j, 0, none⟩) 64 64) := by
  rw [h.row.cell, imgCells_at hj]; rfl
theorem Rw.bytes {b : Nat} {ss : List (List UInt8)} {a : World} (h : Rw b ss a) {j : Nat} {x : List UInt8} (hx : ss[j]? = some x) : By.BytesAt a (some ⟨b + 1 + j, 0, none⟩) x := Whole.reads (h.each j x hx)
/-- Behind the second image. -/
structure Rn (w : World) (g b c : Nat) (d d' : Dk) (cur : World) : Prop where
  own : Ow w g d' cur
  was : Rw b d.ss cur
  now : Rw c d'.ss cur
theorem Rn.on {w cur : World} {g b c : Nat} {d d' : Dk} (h : Rn w g b c d d' cur) {w' : World} (hb : Below cur.heap.size cur w') : Rn w g b c d d' w' := ⟨h.own.on hb, h.was.below hb, h.now.below hb⟩
theorem byte_up {j : Nat} (h : j < 60) : (((UInt8.ofNat (j + 1)).toNat : Nat) : Int) = (j : Int) + 1 := by
  rw [UInt8.toNat_ofNat']
  omega
set_option maxRecDepth 100000 in
set_option maxHeartbeats 16000000 in
theorem walk (n k : Int) (A : Option Addr) (cap : Nat) (xs : List Int) (w : World) (hn : -9223372036854775808 ≤ n ∧ n ≤ 9223372036854775807) (hk : -9223372036854775808 ≤ k ∧ k ≤ 9223372036854775807) (hI : IntsAt w A xs) (hcap : xs.length ≤ cap) (hcap2 : cap * 8 ≤ 140737488351232) (hlim : ∀ x ∈ xs, -9223372036854775808 ≤ x ∧ x ≤ 9223372036854775807) :
    Calls Try.prog 6 #[.int .i64 n, .int .i64 k, .slice A xs.length cap] w (LK.True_ w) := by
  have HI := Lib.hid hI
  have HL := Lib.hid hlim
  clear hI hlim
  go_enter Try.func6, Try.ntmps6
  go_wp2_with fail
  refine (awake_any w).mono ?_
  rintro e w1 ⟨rfl, hb⟩
  have HX1 := Lib.hid hb.out
  clear hb
  by_cases hbad : n < 1 ∨ 512 < n
  · go_wp2_with fail
    refine (New_no n w1 hbad hn).mono ?_
    rintro e w2 ⟨rfl, rfl⟩
    rcases hbad with h | h
    all_goals
      go_wp2_with fail
      go_ret
      exact ⟨rfl, HX1.out⟩
  obtain ⟨N, rfl⟩ : ∃ N : Nat, n = (N : Int) := ⟨n.toNat, by omega⟩
  have hN : 1 ≤ N ∧ N ≤ 512 := by omega
  clear hbad
  go_wp2_with fail
  refine (New_ok N w1 hN).mono ?_
  rintro e w2 ⟨rfl, hw2⟩
  have HO2 := Lib.hid (show Ow w w1.heap.size (DK.zero N) w2 by rw [hw2]; exact ⟨DkAt.zero hN w1, HX1.out.size, below_on HX1.out ((Below.refl _ w1).alloc (Nat.le_refl _) _)⟩)
  clear hw2 HX1
  generalize w1.heap.size = g at HO2 ⊢
  by_cases h40 : 40 < N
  · have h40' : (40 : Int) < (N : Int) := by omega
    go_wp2_with fail
    go_ret
    exact ⟨rfl, HO2.out.below⟩
  by_cases h60 : 60 < xs.length
  · have h60' : (60 : Int) < (xs.length : Int) := by omega
    go_wp2_with fail
    go_ret
    exact ⟨rfl, HO2.out.below⟩
  go_wp2_with fail
  refine (Arm_any HO2.out.disk k hk).mono ?_
  rintro e w3 ⟨rfl, hd, hm⟩
  have HO3 := Lib.hid (HO2.out.mod hd hm)
  clear hd hm HO2
  go_wp2_with fail
  go_loopw [9, 53] (fun s i wr => ∃ (j t : Nat) (d : Dk), i = .int .i64 (j : Int) ∧ s = .int .i64 (t : Int) ∧ j ≤ xs.length ∧ t ≤ j ∧ Hid (Arms N k t d) ∧ Hid (Ow w g d wr)) (fun _ i _ => xs.length - (intOf i).toNat)
  case atStart => exact ⟨0, 0, _, rfl, rfl, Nat.zero_le _, Nat.le_refl _, Lib.hid (Arms.start k), HO3⟩
  case round =>
    clear HO3
    obtain ⟨j, t, d, rfl, rfl, hj, htj, HA, HO⟩ := hrel
    by_cases hlt : j < xs.length
    · obtain ⟨b, o, eB, hb, hc⟩ := HI.out (by omega)
      subst eB
      have x0 : wr.cell? ⟨b, o + j, none⟩ = some (.int .i64 xs[j]) := (HO.out.below.cell (p := ⟨b, o + j, none⟩) hb).trans (hc j _ (List.getElem?_eq_getElem hlt))
      have hp := HL.out _ (List.getElem_mem hlt)
      clear hc hb
      generalize xs[j] = p at x0 hp
      go_wp2_with fail
      refine (Image_any HO.out.disk).mono ?_
      rintro e w4 ⟨rfl, HI4⟩
      rw [HA.out.len]
      have HW4 := Lib.hid (Rw.of HI4.out)
      have HO4 := Lib.hid (HO.out.on HI4.out.below)
      have HG := Lib.hid (show g < wr.heap.size from HO.out.disk.lt)
      clear HO HI4 x0
      generalize wr.heap.size = b1 at HW4 HG ⊢
      have HBY := Lib.hid (byte_up (j := j) (by omega))
      go_wp2_with fail
      have HFL := Lib.hid (HO4.out.filled (UInt8.ofNat (j + 1)) 64 (by decide))
      rw [HBY.out] at HFL
      refine HFL.out.mono ?_
      rintro e w5 ⟨rfl, HF5, HO5, HB5⟩
      have HW5 := Lib.hid (HW4.out.below HB5.out)
      clear HFL HO4 HW4 HB5
      go_wp2_with fail
      refine (HO5.out.write p HF5.out (fl_len _ _) 64).mono ?_
      rintro e w6 ⟨rfl, HO6, HM6⟩
      have HW6 := Lib.hid (HW5.out.mod HM6.out (by simpa using HG.out))
      have HST := Lib.hid (HA.out.step (fl (UInt8.ofNat (j + 1)) 64) (fl_len _ _) p (by omega))
      clear HO5 HF5 HW5 HM6
      generalize DK.werr d p 64 = z at HST ⊢
      have HDL := Lib.hid (show (DK.written d p (fl (UInt8.ofNat (j + 1)) 64)).ss.length = N from DK.written_len.trans HA.out.len)
      generalize hX : fl (UInt8.ofNat (j + 1)) 64 = X at HST HDL HO6
      have HX := Lib.hid hX
      clear hX
      generalize DK.written d p X = d' at HST HDL HO6
      go_wp2_with fail
      refine (Image_any HO6.out.disk).mono ?_
      rintro e w7 ⟨rfl, HI7⟩
      rw [HDL.out]
      have HR7 := Lib.hid (show Rn w g b1 w6.heap.size d d' w7 from ⟨HO6.out.on HI7.out.below, HW6.out.below HI7.out.below, Rw.of HI7.out⟩)
      clear HI7 HO6 HW6
      generalize w6.heap.size = b2 at HR7 ⊢
      go_upto_region 16 with (fail)
      go_cut [15] (fun s wx => s = .bool (decide (0 ≤ p ∧ p < N)) ∧ w7 = wx)
      case first =>
        by_cases h0 : 0 ≤ p
        · by_cases h1 : p < N
          · have e1 := decide_eq_true (p := 0 ≤ p ∧ p < N) ⟨h0, h1⟩
            have HE := Lib.hid e1
            clear e1
            go_wp2_with fail
            go_meet
            exact ⟨by rw [HE.out], rfl⟩
          · have e1 := decide_eq_false (p := 0 ≤ p ∧ p < N) (fun h => h1 h.2)
            have HE := Lib.hid e1
            clear e1
            go_wp2_with fail
            go_meet
            exact ⟨by rw [HE.out], rfl⟩
        · have e1 := decide_eq_false (p := 0 ≤ p ∧ p < N) (fun h => h0 h.1)
          have HE := Lib.hid e1
          clear e1
          go_wp2_with fail
          go_meet
          exact ⟨by rw [HE.out], rfl⟩
      case rest =>
        obtain ⟨rfl, rfl⟩ := hcut
        have HTH := Lib.hid (show decide (0 ≤ p ∧ p < N) = true ↔ (0 ≤ p ∧ p < N) from decide_eq_true_iff)
        generalize decide (0 ≤ p ∧ p < N) = th at HTH ⊢
        go_upto_region 17 with (fail)
        go_cut [114] (fun s wx => s = .bool false ∧ w7 = wx)
        case first =>
          have HOF := Lib.hid (Off_any HR7.out.own.disk)
          rcases HST.out with ⟨c1, c2, c3, c4, c5⟩ | ⟨c1, c2, c3, c4⟩ | ⟨c1, c2, c3, c4, c5, c6, c7, c8⟩ | ⟨c1, c2, c3, c4, c5, c6, c7⟩
          · rw [c5, c1] at HOF
            obtain rfl := c4
            have e1 : decide (k < 0) = false := decide_eq_false (by omega)
            have e2 : decide ((t : Int) < k) = false := decide_eq_false (by omega)
            clear c5 c1 c3
            cases th
            all_goals
              go_wp2_with (refine HOF.out.mono ?_; rintro e w' ⟨rfl, rfl⟩)
              go_meet
              exact ⟨rfl, rfl⟩
          · rw [c4, c1] at HOF
            obtain rfl := c3
            obtain rfl : th = false := by
              cases th with
              | false => rfl
              | true => exact absurd (HTH.out.1 rfl) c2
            clear c4 c1 c2
            go_wp2_with (refine HOF.out.mono ?_; rintro e w' ⟨rfl, rfl⟩)
            go_meet
            exact ⟨rfl, rfl⟩
          · rw [c6] at HOF
            obtain rfl := c5
            obtain rfl : th = true := HTH.out.2 c2
            have e1 : decide (k < 0) = false := decide_eq_false (by omega)
            have e2 : decide ((t : Int) < k) = false := decide_eq_false (by omega)
            clear c1 c4 c6 c7 c8
            go_wp2_with (refine HOF.out.mono ?_; rintro e w' ⟨rfl, rfl⟩)
            go_meet
            exact ⟨rfl, rfl⟩
          · rw [c5] at HOF
            obtain rfl := c4
            obtain rfl : th = true := HTH.out.2 c2
            clear c1 c5 c6 c7
            by_cases hk0 : k < 0
            · have e1 : decide (k < 0) = true := decide_eq_true hk0
              go_wp2_with (refine HOF.out.mono ?_; rintro e w' ⟨rfl, rfl⟩)
              go_meet
              exact ⟨rfl, rfl⟩
            · have e1 : decide (k < 0) = false := decide_eq_false hk0
              have e2 : decide ((t : Int) < k) = true := decide_eq_true (by omega)
              go_wp2_with (refine HOF.out.mono ?_; rintro e w' ⟨rfl, rfl⟩)
              go_meet
              exact ⟨rfl, rfl⟩
        case rest =>
          obtain ⟨rfl, rfl⟩ := hcut
          have HZ := Lib.hid (show (z = 0 → d'.ss = d.ss.set p.toNat X ∧ (0 ≤ p ∧ p < N) ∧ Arms N k (t + 1) d') ∧ (z ≠ 0 → d'.ss = d.ss ∧ Arms N k t d') from by
            have hA := HA.out
            rcases HST.out with ⟨c1, c2, c3, c4, c5⟩ | ⟨c1, c2, c3, c4⟩ | ⟨c1, c2, c3, c4, c5, c6, c7, c8⟩ | ⟨c1, c2, c3, c4, c5, c6, c7⟩
            · subst c5
              exact ⟨fun h => by omega, fun _ => ⟨rfl, hA⟩⟩
            · subst c4
              exact ⟨fun h => by omega, fun _ => ⟨rfl, hA⟩⟩
            · exact ⟨fun h => by omega, fun _ => ⟨c7, c8⟩⟩
            · exact ⟨fun h => ⟨c6, c2, c7⟩, fun h => absurd c4 h⟩)
          have HLN := Lib.hid HA.out.len
          clear HST HTH HA
          go_wp2_with fail
          go_loopw [117] (fun i wx => ∃ q : Nat, i = .int .i64 (q : Int) ∧ q ≤ N ∧ Hid (Rn w g b1 b2 d d' wx)) (fun i _ => N - (intOf i).toNat)
          case atStart => exact ⟨0, rfl, Nat.zero_le _, HR7⟩
          case round =>
            clear HR7
            obtain ⟨q, rfl, hq, HR⟩ := hrel
            by_cases hqn : q < N
            · by_cases hch : z = 0 ∧ (q : Int) = p
              · obtain ⟨hz, hqp⟩ := hch
                subst hz
                subst hqp
                have HSX := Lib.hid (show d'.ss[q]? = some X by rw [(HZ.out.1 rfl).1, Int.toNat_natCast, List.getElem?_set_self (by rw [HLN.out]; exact hqn)])
                have HRD := Lib.hid (HR.out.on (Below.drew (Below.refl _ wr)))
                have m1 : wr.drew.cell? ⟨b2, q, none⟩ = some (.slice (some ⟨b2 + 1 + q, 0, none⟩) 64 64) := HRD.out.now.cell (by rw [HDL.out]; exact hqn)
                have HXL := Lib.hid (show X.length = 64 by rw [← HX.out]; exact fl_len _ _)
                have hcv1 : (convert 35 9 (.slice (some ⟨b2 + 1 + q, 0, none⟩) 64 64)).run Try.prog wr.drew = .ok (.string ⟨X.toArray⟩) wr.drew := By.conv_of HXL.out.symm (HRD.out.now.bytes HSX.out)
                have HFL := Lib.hid (HRD.out.own.filled (UInt8.ofNat (j + 1)) 64 (by decide))
                rw [HBY.out, HX.out] at HFL
                go_wp2_with fail
                have hwj : IntKind.i64.wrap ((j : Int) + 1) = (j : Int) + 1 := IntWalk.i64_in _ (by omega)
                have hwu : IntKind.u8.wrap ((j : Int) + 1) = (j : Int) + 1 := by rw [IntKind.wrap_u8]; omega
                -- BEGIN
                refine wp_region_noPanic ?_
                refine wp_region_held_drew (S := fun y : World => y.cell? ⟨b2, q, none⟩ = some (.slice (some ⟨b2 + 1 + q, 0, none⟩) 64 64) ∧ (convert 35 9 (.slice (some ⟨b2 + 1 + q, 0, none⟩) 64 64)).run Try.prog y = .ok (.string ⟨X.toArray⟩) y) (by kernel_rfl) (And.intro m1 hcv1) (fun hHeld => ?_)
                refine wpAnyH_take (i := 0) (oi := { dst := some 127, op := Op.move (Operand.tmp 17), type := 4, pos := _, after := #[], guard := none }) (v := ?_) rfl (by kernel_rfl) (by kernel_rfl) (by kernel_rfl) (fun _ _ _ h => h) (Or.inl ⟨by rfl, ?_⟩) hHeld ?_
                rotate_left
                · (intro w hSw; (try dsimp only at hSw); obtain ⟨hSa, hSb⟩ := hSw; first | (go_simp; done) | (go_simp; with_reducible rfl))
                try simp only [Act.put, List.setIfInBounds_toArray, List.set_cons_zero, List.set_cons_succ]
                refine wpAnyH_take (i := 1) (oi := { dst := some 128, op := Op.move (Operand.tmp 127), type := 4, pos := _, after := #[{ on := 0, ground := Ground.data }], guard := none }) (v := ?_) rfl (by kernel_rfl) (by kernel_rfl) (by kernel_rfl) (fun _ _ _ h => h) (Or.inl ⟨by rfl, ?_⟩) hHeld ?_
                rotate_left
                · (intro w hSw; (try dsimp only at hSw); obtain ⟨hSa, hSb⟩ := hSw; first | (go_simp; done) | (go_simp; with_reducible rfl))
                try simp only [Act.put, List.setIfInBounds_toArray, List.set_cons_zero, List.set_cons_succ]
                refine wpAnyH_take (i := 2) (oi := { dst := some 129, op := Op.move (Operand.tmp 14), type := 42, pos := _, after := #[{ on := 1, ground := Ground.guard }], guard := some (1, true) }) (v := ?_) rfl (by kernel_rfl) (by kernel_rfl) (by kernel_rfl) (fun _ _ _ h => h) (Or.inl ⟨by rfl, ?_⟩) hHeld ?_
                rotate_left
                · (intro w hSw; (try dsimp only at hSw); obtain ⟨hSa, hSb⟩ := hSw; first | (go_simp; done) | (go_simp; with_reducible rfl))
                try simp only [Act.put, List.setIfInBounds_toArray, List.set_cons_zero, List.set_cons_succ]
                refine wpAnyH_take (i := 3) (oi := { dst := some 130, op := Op.move (Operand.tmp 16), type := 3, pos := _, after := #[{ on := 1, ground := Ground.guard }], guard := some (1, true) }) (v := ?_) rfl (by kernel_rfl) (by kernel_rfl) (by kernel_rfl) (fun _ _ _ h => h) (Or.inl ⟨by rfl, ?_⟩) hHeld ?_
                rotate_left
                · (intro w hSw; (try dsimp only at hSw); obtain ⟨hSa, hSb⟩ := hSw; first | (go_simp; done) | (go_simp; with_reducible rfl))
                try simp only [Act.put, List.setIfInBounds_toArray, List.set_cons_zero, List.set_cons_succ]
                refine wpAnyH_take (i := 4) (oi := { dst := some 131, op := Op.indexAddr 42 (Operand.tmp 129) (Operand.tmp 130), type := 0, pos := _, after := #[{ on := 2, ground := Ground.data }, { on := 3, ground := Ground.data }, { on := 1, ground := Ground.guard }], guard := some (1, true) }) (v := ?_) rfl (by kernel_rfl) (by kernel_rfl) (by kernel_rfl) (fun _ _ _ h => h) (Or.inl ⟨by rfl, ?_⟩) hHeld ?_
                rotate_left
                · (intro w hSw; (try dsimp only at hSw); obtain ⟨hSa, hSb⟩ := hSw; first | (go_simp; done) | (go_simp; with_reducible rfl))
                try simp only [Act.put, List.setIfInBounds_toArray, List.set_cons_zero, List.set_cons_succ]
                refine wpAnyH_take (i := 5) (oi := { dst := some 132, op := Op.load 35 (Operand.tmp 131), type := 35, pos := _, after := #[{ on := 4, ground := Ground.data }, { on := 1, ground := Ground.guard }], guard := some (1, true) }) (v := ?_) rfl (by kernel_rfl) (by kernel_rfl) (by kernel_rfl) (fun _ _ _ h => h) (Or.inl ⟨by rfl, ?_⟩) hHeld ?_
                rotate_left
                · (intro w hSw; (try dsimp only at hSw); obtain ⟨hSa, hSb⟩ := hSw; first | (go_simp; done) | (go_simp; with_reducible rfl))
                try simp only [Act.put, List.setIfInBounds_toArray, List.set_cons_zero, List.set_cons_succ]
                refine wpAnyH_take (i := 6) (oi := { dst := some 133, op := Op.convert 35 9 (Operand.tmp 132), type := 9, pos := _, after := #[{ on := 5, ground := Ground.data }, { on := 1, ground := Ground.guard }], guard := some (1, true) }) (v := ?_) rfl (by kernel_rfl) (by kernel_rfl) (by kernel_rfl) (fun _ _ _ h => h) (Or.inl ⟨by rfl, ?_⟩) hHeld ?_
                rotate_left
                · (intro w hSw; (try dsimp only at hSw); obtain ⟨hSa, hSb⟩ := hSw; first | (go_simp; done) | (go_simp; with_reducible rfl))
                try simp only [Act.put, List.setIfInBounds_toArray, List.set_cons_zero, List.set_cons_succ]
                refine wpAnyH_take (i := 7) (oi := { dst := some 134, op := Op.move (Operand.tmp 10), type := 3, pos := _, after := #[{ on := 1, ground := Ground.guard }], guard := some (1, true) }) (v := ?_) rfl (by kernel_rfl) (by kernel_rfl) (by kernel_rfl) (fun _ _ _ h => h) (Or.inl ⟨by rfl, ?_⟩) hHeld ?_
                rotate_left
                · (intro w hSw; (try dsimp only at hSw); obtain ⟨hSa, hSb⟩ := hSw; first | (go_simp; done) | (go_simp; with_reducible rfl))
                try simp only [Act.put, List.setIfInBounds_toArray, List.set_cons_zero, List.set_cons_succ]
                refine wpAnyH_take (i := 8) (oi := { dst := some 135, op := Op.binOp BinOp.add 3 (Operand.tmp 134) (Operand.const (Value.int IntKind.i64 1)) 3, type := 3, pos := _, after := #[{ on := 7, ground := Ground.data }, { on := 1, ground := Ground.guard }], guard := some (1, true) }) (v := ?_) rfl (by kernel_rfl) (by kernel_rfl) (by kernel_rfl) (fun _ _ _ h => h) (Or.inl ⟨by rfl, ?_⟩) hHeld ?_
                rotate_left
                · (intro w hSw; (try dsimp only at hSw); obtain ⟨hSa, hSb⟩ := hSw; first | (go_simp; done) | (go_simp; with_reducible rfl))
                try simp only [Act.put, List.setIfInBounds_toArray, List.set_cons_zero, List.set_cons_succ]
                refine wpAnyH_take (i := 9) (oi := { dst := some 136, op := Op.convert 3 5 (Operand.tmp 135), type := 5, pos := _, after := #[{ on := 8, ground := Ground.data }, { on := 1, ground := Ground.guard }], guard := some (1, true) }) (v := ?_) rfl (by kernel_rfl) (by kernel_rfl) (by kernel_rfl) (fun _ _ _ h => h) (Or.inl ⟨by rfl, ?_⟩) hHeld ?_
                rotate_left
                · (intro w hSw; (try dsimp only at hSw); obtain ⟨hSa, hSb⟩ := hSw; first | (go_simp; done) | (go_simp; with_reducible rfl))
                try simp only [Act.put, List.setIfInBounds_toArray, List.set_cons_zero, List.set_cons_succ]
                refine wpAnyH_ready (rs := [10]) (by kernel_rfl) (by simp) (AllReadyH.cons (o := { dst := some 137, op := Op.call { callee := Callee.value (Operand.func 22), args := #[Operand.tmp 136, Operand.const (Value.int IntKind.i64 64)], argTypes := #[5, 3] }, type := 35, pos := _, after := #[{ on := 9, ground := Ground.data }, { on := 1, ground := Ground.chain }, { on := 1, ground := Ground.guard }], guard := some (1, true) }) rfl (fun K hK => ?_) AllReadyH.nil)
                go_simp
                refine HFL.out.mono ?_
                rintro e w11 ⟨rfl, HF11, HO11, HB11⟩
                have HR11 := Lib.hid (HRD.out.on HB11.out)
                have hH11 := And.intro (show w11.cell? ⟨b2, q, none⟩ = some (.slice (some ⟨b2 + 1 + q, 0, none⟩) 64 64) from HR11.out.now.cell (by rw [HDL.out]; exact hqn)) (show (convert 35 9 (.slice (some ⟨b2 + 1 + q, 0, none⟩) 64 64)).run Try.prog w11 = .ok (.string ⟨X.toArray⟩) w11 from By.conv_of HXL.out.symm (HR11.out.now.bytes HSX.out))
                have hcv3 : (convert 35 9 (.slice (some ⟨wr.heap.size, 0, none⟩) 64 64)).run Try.prog w11 = .ok (.string ⟨X.toArray⟩) w11 := By.conv_of HXL.out.symm (Whole.reads HF11.out)
                go_simp
                refine hK.out _ _ (hH11) (fun hHeld => ?_)
                clear hK K
                try simp only [Act.put, List.setIfInBounds_toArray, List.set_cons_zero, List.set_cons_succ]
                refine wpAnyH_ready (rs := [11]) (by kernel_rfl) (by simp) (AllReadyH.cons (o := { dst := some 138, op := Op.convert 35 9 (Operand.tmp 137), type := 9, pos := _, after := #[{ on := 10, ground := Ground.data }, { on := 1, ground := Ground.guard }], guard := some (1, true) }) rfl (fun K hK => ?_) AllReadyH.nil)
                go_simp
                refine hK.out _ _ (hHeld) (fun hHeld => ?_)
                clear hK K
                try simp only [Act.put, List.setIfInBounds_toArray, List.set_cons_zero, List.set_cons_succ]
                refine wpAnyH_take (i := 12) (oi := { dst := some 139, op := Op.binOp BinOp.neq 9 (Operand.tmp 133) (Operand.tmp 138) 9, type := 4, pos := _, after := #[{ on := 6, ground := Ground.data }, { on := 11, ground := Ground.data }, { on := 1, ground := Ground.guard }], guard := some (1, true) }) (v := ?_) rfl (by kernel_rfl) (by kernel_rfl) (by kernel_rfl) (fun _ _ _ h => h) (Or.inl ⟨by rfl, ?_⟩) hHeld ?_
                rotate_left
                · (intro w hSw; (try dsimp only at hSw); obtain ⟨hSa, hSb⟩ := hSw; first | (go_simp; done) | (go_simp; with_reducible rfl))
                try simp only [Act.put, List.setIfInBounds_toArray, List.set_cons_zero, List.set_cons_succ]
                refine wpAnyH_take (i := 13) (oi := { dst := some 140, op := Op.pick (Operand.tmp 128) (Operand.tmp 139) (Operand.const (Value.bool false)), type := 4, pos := _, after := #[{ on := 1, ground := Ground.data }, { on := 12, ground := Ground.data }], guard := none }) (v := ?_) rfl (by kernel_rfl) (by kernel_rfl) (by kernel_rfl) (fun _ _ _ h => h) (Or.inl ⟨by rfl, ?_⟩) hHeld ?_
                rotate_left
                · (intro w hSw; (try dsimp only at hSw); obtain ⟨hSa, hSb⟩ := hSw; first | (go_simp; done) | (go_simp; with_reducible rfl))
                try simp only [Act.put, List.setIfInBounds_toArray, List.set_cons_zero, List.set_cons_succ]
                refine wpAnyH_take (i := 14) (oi := { dst := some 141, op := Op.move (Operand.tmp 140), type := 4, pos := _, after := #[{ on := 13, ground := Ground.data }, { on := 10, ground := Ground.chain }], guard := none }) (v := ?_) rfl (by kernel_rfl) (by kernel_rfl) (by kernel_rfl) (fun _ _ _ h => h) (Or.inl ⟨by rfl, ?_⟩) hHeld ?_
                rotate_left
                · (intro w hSw; (try dsimp only at hSw); obtain ⟨hSa, hSb⟩ := hSw; first | (go_simp; done) | (go_simp; with_reducible rfl))
                try simp only [Act.put, List.setIfInBounds_toArray, List.set_cons_zero, List.set_cons_succ]
                refine wpAnyH_take (i := 15) (oi := { dst := some 142, op := Op.move (Operand.tmp 17), type := 4, pos := _, after := #[{ on := 14, ground := Ground.guard }], guard := some (14, false) }) (v := ?_) rfl (by kernel_rfl) (by kernel_rfl) (by kernel_rfl) (fun _ _ _ h => h) (Or.inl ⟨by rfl, ?_⟩) hHeld ?_
                rotate_left
                · (intro w hSw; (try dsimp only at hSw); obtain ⟨hSa, hSb⟩ := hSw; first | (go_simp; done) | (go_simp; with_reducible rfl))
                try simp only [Act.put, List.setIfInBounds_toArray, List.set_cons_zero, List.set_cons_succ]
                refine wpAnyH_take (i := 16) (oi := { dst := some 143, op := Op.unOp UnOp.not 4 (Operand.tmp 142), type := 4, pos := _, after := #[{ on := 15, ground := Ground.data }, { on := 14, ground := Ground.guard }], guard := some (14, false) }) (v := ?_) rfl (by kernel_rfl) (by kernel_rfl) (by kernel_rfl) (fun _ _ _ h => h) (Or.inl ⟨by rfl, ?_⟩) hHeld ?_
                rotate_left
                · (intro w hSw; (try dsimp only at hSw); obtain ⟨hSa, hSb⟩ := hSw; first | (go_simp; done) | (go_simp; with_reducible rfl))
                try simp only [Act.put, List.setIfInBounds_toArray, List.set_cons_zero, List.set_cons_succ]
                refine wpAnyH_take (i := 17) (oi := { dst := some 144, op := Op.move (Operand.tmp 143), type := 4, pos := _, after := #[{ on := 16, ground := Ground.data }, { on := 14, ground := Ground.chain }, { on := 14, ground := Ground.guard }], guard := some (14, false) }) (v := ?_) rfl (by kernel_rfl) (by kernel_rfl) (by kernel_rfl) (fun _ _ _ h => h) (Or.inl ⟨by rfl, ?_⟩) hHeld ?_
                rotate_left
                · (intro w hSw; (try dsimp only at hSw); obtain ⟨hSa, hSb⟩ := hSw; first | (go_simp; done) | (go_simp; with_reducible rfl))
                try simp only [Act.put, List.setIfInBounds_toArray, List.set_cons_zero, List.set_cons_succ]
                refine wpAnyH_take (i := 18) (oi := { dst := some 145, op := Op.move (Operand.tmp 14), type := 42, pos := _, after := #[{ on := 17, ground := Ground.guard }], guard := some (17, true) }) (v := undef) rfl (by kernel_rfl) (by kernel_rfl) (by kernel_rfl) (fun _ _ _ h => h) (Or.inr ⟨by rfl, rfl⟩) hHeld ?_
                try simp only [Act.put, List.setIfInBounds_toArray, List.set_cons_zero, List.set_cons_succ]
                refine wpAnyH_take (i := 19) (oi := { dst := some 146, op := Op.move (Operand.tmp 16), type := 3, pos := _, after := #[{ on := 17, ground := Ground.guard }], guard := some (17, true) }) (v := undef) rfl (by kernel_rfl) (by kernel_rfl) (by kernel_rfl) (fun _ _ _ h => h) (Or.inr ⟨by rfl, rfl⟩) hHeld ?_
                try simp only [Act.put, List.setIfInBounds_toArray, List.set_cons_zero, List.set_cons_succ]
                refine wpAnyH_take (i := 20) (oi := { dst := some 147, op := Op.indexAddr 42 (Operand.tmp 145) (Operand.tmp 146), type := 0, pos := _, after := #[{ on := 18, ground := Ground.data }, { on := 19, ground := Ground.data }, { on := 17, ground := Ground.guard }], guard := some (17, true) }) (v := undef) rfl (by kernel_rfl) (by kernel_rfl) (by kernel_rfl) (fun _ _ _ h => h) (Or.inr ⟨by rfl, rfl⟩) hHeld ?_
                try simp only [Act.put, List.setIfInBounds_toArray, List.set_cons_zero, List.set_cons_succ]
                refine wpAnyH_take (i := 21) (oi := { dst := some 148, op := Op.load 35 (Operand.tmp 147), type := 35, pos := _, after := #[{ on := 20, ground := Ground.data }, { on := 17, ground := Ground.guard }], guard := some (17, true) }) (v := undef) rfl (by kernel_rfl) (by kernel_rfl) (by kernel_rfl) (fun _ _ _ h => h) (Or.inr ⟨by rfl, rfl⟩) hHeld ?_
                try simp only [Act.put, List.setIfInBounds_toArray, List.set_cons_zero, List.set_cons_succ]
                refine wpAnyH_take (i := 22) (oi := { dst := some 149, op := Op.convert 35 9 (Operand.tmp 148), type := 9, pos := _, after := #[{ on := 21, ground := Ground.data }, { on := 17, ground := Ground.guard }], guard := some (17, true) }) (v := undef) rfl (by kernel_rfl) (by kernel_rfl) (by kernel_rfl) (fun _ _ _ h => h) (Or.inr ⟨by rfl, rfl⟩) hHeld ?_
                try simp only [Act.put, List.setIfInBounds_toArray, List.set_cons_zero, List.set_cons_succ]
                refine wpAnyH_take (i := 23) (oi := { dst := some 150, op := Op.move (Operand.tmp 12), type := 42, pos := _, after := #[{ on := 17, ground := Ground.guard }], guard := some (17, true) }) (v := undef) rfl (by kernel_rfl) (by kernel_rfl) (by kernel_rfl) (fun _ _ _ h => h) (Or.inr ⟨by rfl, rfl⟩) hHeld ?_
                try simp only [Act.put, List.setIfInBounds_toArray, List.set_cons_zero, List.set_cons_succ]
                refine wpAnyH_take (i := 24) (oi := { dst := some 151, op := Op.move (Operand.tmp 16), type := 3, pos := _, after := #[{ on := 17, ground := Ground.guard }], guard := some (17, true) }) (v := undef) rfl (by kernel_rfl) (by kernel_rfl) (by kernel_rfl) (fun _ _ _ h => h) (Or.inr ⟨by rfl, rfl⟩) hHeld ?_
                try simp only [Act.put, List.setIfInBounds_toArray, List.set_cons_zero, List.set_cons_succ]
                refine wpAnyH_take (i := 25) (oi := { dst := some 152, op := Op.indexAddr 42 (Operand.tmp 150) (Operand.tmp 151), type := 0, pos := _, after := #[{ on := 23, ground := Ground.data }, { on := 24, ground := Ground.data }, { on := 17, ground := Ground.guard }], guard := some (17, true) }) (v := undef) rfl (by kernel_rfl) (by kernel_rfl) (by kernel_rfl) (fun _ _ _ h => h) (Or.inr ⟨by rfl, rfl⟩) hHeld ?_
                try simp only [Act.put, List.setIfInBounds_toArray, List.set_cons_zero, List.set_cons_succ]
                refine wpAnyH_take (i := 26) (oi := { dst := some 153, op := Op.load 35 (Operand.tmp 152), type := 35, pos := _, after := #[{ on := 25, ground := Ground.data }, { on := 17, ground := Ground.guard }], guard := some (17, true) }) (v := undef) rfl (by kernel_rfl) (by kernel_rfl) (by kernel_rfl) (fun _ _ _ h => h) (Or.inr ⟨by rfl, rfl⟩) hHeld ?_
                try simp only [Act.put, List.setIfInBounds_toArray, List.set_cons_zero, List.set_cons_succ]
                refine wpAnyH_take (i := 27) (oi := { dst := some 154, op := Op.convert 35 9 (Operand.tmp 153), type := 9, pos := _, after := #[{ on := 26, ground := Ground.data }, { on := 17, ground := Ground.guard }], guard := some (17, true) }) (v := undef) rfl (by kernel_rfl) (by kernel_rfl) (by kernel_rfl) (fun _ _ _ h => h) (Or.inr ⟨by rfl, rfl⟩) hHeld ?_
                try simp only [Act.put, List.setIfInBounds_toArray, List.set_cons_zero, List.set_cons_succ]
                refine wpAnyH_take (i := 28) (oi := { dst := some 155, op := Op.binOp BinOp.neq 9 (Operand.tmp 149) (Operand.tmp 154) 9, type := 4, pos := _, after := #[{ on := 22, ground := Ground.data }, { on := 27, ground := Ground.data }, { on := 17, ground := Ground.guard }], guard := some (17, true) }) (v := undef) rfl (by kernel_rfl) (by kernel_rfl) (by kernel_rfl) (fun _ _ _ h => h) (Or.inr ⟨by rfl, rfl⟩) hHeld ?_
                try simp only [Act.put, List.setIfInBounds_toArray, List.set_cons_zero, List.set_cons_succ]
                refine wpAnyH_take (i := 29) (oi := { dst := some 156, op := Op.pick (Operand.tmp 144) (Operand.tmp 155) (Operand.const (Value.bool false)), type := 4, pos := _, after := #[{ on := 17, ground := Ground.data }, { on := 28, ground := Ground.data }, { on := 14, ground := Ground.guard }], guard := some (14, false) }) (v := ?_) rfl (by kernel_rfl) (by kernel_rfl) (by kernel_rfl) (fun _ _ _ h => h) (Or.inl ⟨by rfl, ?_⟩) hHeld ?_
                rotate_left
                · (intro w hSw; (try dsimp only at hSw); obtain ⟨hSa, hSb⟩ := hSw; first | (go_simp; done) | (go_simp; with_reducible rfl))
                try simp only [Act.put, List.setIfInBounds_toArray, List.set_cons_zero, List.set_cons_succ]
                refine wpAnyH_take (i := 30) (oi := { dst := some 157, op := Op.pick (Operand.tmp 141) (Operand.const (Value.bool true)) (Operand.tmp 156), type := 4, pos := _, after := #[{ on := 14, ground := Ground.data }, { on := 29, ground := Ground.data }], guard := none }) (v := ?_) rfl (by kernel_rfl) (by kernel_rfl) (by kernel_rfl) (fun _ _ _ h => h) (Or.inl ⟨by rfl, ?_⟩) hHeld ?_
                rotate_left
                · (intro w hSw; (try dsimp only at hSw); obtain ⟨hSa, hSb⟩ := hSw; first | (go_simp; done) | (go_simp; with_reducible rfl))
                try simp only [Act.put, List.setIfInBounds_toArray, List.set_cons_zero, List.set_cons_succ]
                refine wpAnyH_done (by kernel_rfl) ?_ _
                refine NoPanic.normal ?_
                clear hwj hHeld
                go_wp2_with fail
                go_roundw
                case rel => exact ⟨q + 1, rfl, hqn, HR11⟩
                case measure => simp only [intOf]; omega
                -- END
              · have HEQ := Lib.hid (show d'.ss[q]? = d.ss[q]? from by
                  by_cases hz : z = 0
                  · have hqp : p.toNat ≠ q := fun e => hch ⟨hz, by have := (HZ.out.1 hz).2.1; omega⟩
                    rw [(HZ.out.1 hz).1, List.getElem?_set_ne hqp]
                  · rw [(HZ.out.2 hz).1])
                have HSX := Lib.hid (show d.ss[q]? = some (d.ss[q]'(by rw [HLN.out]; exact hqn)) from List.getElem?_eq_getElem _)
                generalize d.ss[q]'(by rw [HLN.out]; exact hqn) = Y at HSX
                have HSY := Lib.hid (HEQ.out.trans HSX.out)
                have HYL := Lib.hid (HR.out.own.disk.ok.len q Y HSY.out)
                have m1 : wr.cell? ⟨b2, q, none⟩ = some (.slice (some ⟨b2 + 1 + q, 0, none⟩) 64 64) := HR.out.now.cell (by rw [HDL.out]; exact hqn)
                have m2 : wr.cell? ⟨b1, q, none⟩ = some (.slice (some ⟨b1 + 1 + q, 0, none⟩) 64 64) := HR.out.was.cell (by rw [HLN.out]; exact hqn)
                have hcv1 : ∀ y, (convert 35 9 (.slice (some ⟨b2 + 1 + q, 0, none⟩) 64 64)).run Try.prog (wr.drewN y) = .ok (.string ⟨Y.toArray⟩) (wr.drewN y) := fun y => By.conv_of HYL.out.symm (show By.BytesAt (wr.drewN y) _ Y from HR.out.now.bytes HSY.out)
                have hcv2 : ∀ y, (convert 35 9 (.slice (some ⟨b1 + 1 + q, 0, none⟩) 64 64)).run Try.prog (wr.drewN y) = .ok (.string ⟨Y.toArray⟩) (wr.drewN y) := fun y => By.conv_of HYL.out.symm (show By.BytesAt (wr.drewN y) _ Y from HR.out.was.bytes HSX.out)
                go_upto_region 22 with (fail)
                go_cut [17] (fun s wx => s = .bool false ∧ wr = wx)
                case first =>
                  by_cases hz : z = 0
                  · have hqp : ¬ (q : Int) = p := fun h => hch ⟨hz, h⟩
                    have hqp1 : ((q : Int) == p) = false := by simpa using hqp
                    subst hz
                    go_wp2_with fail
                    go_meet
                    exact ⟨rfl, rfl⟩
                  · have hz1 : (z == 0) = false := by simpa using hz
                    go_wp2_with fail
                    go_meet
                    exact ⟨rfl, rfl⟩
                case rest =>
                  obtain ⟨rfl, rfl⟩ := hcut
                  go_upto_region 23 with (fail)
                  -- BEGIN
                  go_quiet (fail)
                  clear hcv1 hcv2 m1 m2
                  go_wp2_with fail
                  go_roundw
                  case rel => exact ⟨q + 1, rfl, hqn, Lib.hid (HR.out.on (below_drewN (Below.refl _ wr) _))⟩
                  case measure => simp only [intOf]; omega
                  -- END
            · obtain rfl : q = N := by omega
              by_cases hz : z = 0
              · have HA2 := Lib.hid (HZ.out.1 hz).2.2
                subst hz
                go_wp2_with fail
                go_roundw
                case rel => exact ⟨j + 1, t + 1, d', rfl, rfl, hlt, by omega, HA2, Lib.hid HR.out.own⟩
                case measure => simp only [intOf]; omega
              · have HA2 := Lib.hid (HZ.out.2 hz).2
                have hz1 : (z == 0) = false := by simpa using hz
                go_wp2_with fail
                go_roundw
                case rel => exact ⟨j + 1, t, d', rfl, rfl, hlt, by omega, HA2, Lib.hid HR.out.own⟩
                case measure => simp only [intOf]; omega
    · go_wp2_with fail
      refine (Writes_any HO.out.disk).mono ?_
      rintro e w4 ⟨rfl, rfl⟩
      rw [HA.out.wr]
      have HST := Lib.hid HA.out.st
      by_cases hk0 : k < 0
      · go_wp2_with fail
        go_ret
        exact ⟨rfl, HO.out.below⟩
      · have htk : (t : Int) ≤ k := by rcases HST.out with ⟨h, _⟩ | ⟨_, h, _⟩ <;> omega
        go_wp2_with fail
        go_ret
        exact ⟨rfl, HO.out.below⟩

end Go.Proofs.Ytdagmkkkiaacoaa.lawDiskArmed
