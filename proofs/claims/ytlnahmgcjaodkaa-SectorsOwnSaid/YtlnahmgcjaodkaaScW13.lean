/- The document's Pack; whether two lists of lists of bytes are one (SameAll). -/
import Derived.Test.YtlnahmgcjaodkaaScW12
import Derived.Test.YtlnahmgcjaodkaaScW5
namespace Go.Proofs.Ytlnahmgcjaodkaa
open Go.RowKit
open By
set_option linter.unusedVariables false
set_option linter.unusedSimpArgs false
set_option maxRecDepth 100000
def RefPackPost (w : World) (g s : Int) (d : List UInt8) (e : Ending) (w' : World) : Prop :=
  Hid (Below w.heap.size w w') ∧ ((∃ gn sn : Nat, ∃ v, Hid ((gn : Int) = g ∧ (sn : Int) = s ∧ (1 ≤ gn ∧ gn ≤ 1073741824) ∧ sn ≤ 1073741824 ∧ d.length ≤ 188) ∧ e = .returned (.tuple #[v, .int .i64 0]) ∧ Hid (Lst w.heap.size (SC.pack gn sn d) v w')) ∨ (Hid (packErr g s d.length ≠ 0) ∧ e = .returned (.tuple #[.slice none 0 0, .int .i64 (packErr g s d.length)])))
set_option maxHeartbeats 2000000 in
theorem RefPack_no (g s : Int) (d : List UInt8) (n : Nat) (A : Option Addr) (c : Nat) (w : World) (hn : d.length = n) (hl : n ≤ 9223372036854775807) (h : packErr g s n ≠ 0) :
    Calls Try.prog 13 #[.int .i64 g, .int .i64 s, .slice A n c] w fun e w' => e = .returned (.tuple #[.slice none 0 0, .int .i64 (packErr g s n)]) ∧ w = w' := by
  unfold packErr at h ⊢
  by_cases h1 : 1 ≤ g ∧ g ≤ 1073741824
  · by_cases h2 : 0 ≤ s ∧ s ≤ 1073741824
    · rw [if_pos ⟨h1, h2⟩] at h ⊢
      have h3 : 188 < n := by
        by_cases h3 : 188 < n
        · exact h3
        · rw [if_neg h3] at h; exact absurd rfl h
      rw [if_pos h3]
      have k1 : ¬ g < 1 := by omega
      have k2 : ¬ 1073741824 < g := by omega
      have k3 : ¬ s < 0 := by omega
      have k4 : ¬ 1073741824 < s := by omega
      have k5 : (188 : Int) < (n : Int) := by omega
      clear h h1 h2 h3
      go_enter Try.func13, Try.ntmps13
      go_wp2_with fail
      go_ret2
      exact ⟨rfl, rfl⟩
    · rw [if_neg (fun k => h2 k.2)]
      have k1 : ¬ g < 1 := by omega
      have k2 : ¬ 1073741824 < g := by omega
      clear h h1
      by_cases k3 : s < 0
      · clear h2
        go_enter Try.func13, Try.ntmps13
        go_wp2_with fail
        go_ret2
        exact ⟨rfl, rfl⟩
      · have k4 : 1073741824 < s := by omega
        clear h2
        go_enter Try.func13, Try.ntmps13
        go_wp2_with fail
        go_ret2
        exact ⟨rfl, rfl⟩
  · rw [if_neg (fun k => h1 k.1)]
    clear h
    by_cases k3 : g < 1
    · clear h1
      go_enter Try.func13, Try.ntmps13
      go_wp2_with fail
      go_ret2
      exact ⟨rfl, rfl⟩
    · have k4 : 1073741824 < g := by omega
      clear h1
      go_enter Try.func13, Try.ntmps13
      go_wp2_with fail
      go_ret2
      exact ⟨rfl, rfl⟩
set_option maxHeartbeats 4000000 in
theorem RefPack_big (g s : Nat) (d : List UInt8) (n : Nat) (A : Option Addr) (c : Nat) (w : World) (hB : BytesAt w A d) (hn : d.length = n) (hnc : n ≤ c ∧ c ≤ 9223372036854775807) (hg : 1 ≤ g ∧ g ≤ 1073741824) (hs : s ≤ 1073741824) (hd : n ≤ 188) (hcz : c ≠ 0) :
    Calls Try.prog 13 #[.int .i64 (g : Int), .int .i64 (s : Int), .slice A n c] w fun e w' => ∃ v, e = .returned (.tuple #[v, .int .i64 0]) ∧ Hid (Lst w.heap.size (SC.pack g s d) v w') ∧ Hid (Below w.heap.size w w') := by
  have hnp : 1 ≤ SC.np d ∧ SC.np d ≤ 4 := by unfold SC.np; omega
  have HNPD := Lib.hid (show SC.np d = max 1 ((n + 46) / 47) by rw [← hn]; rfl)
  have HPL := Lib.hid (SC.pack_len g s d)
  have HGOOD := Lib.hid (fun k (hk : k < SC.np d) => SC.part_good (s := s) (d := d) hg hs (by omega) hk)
  have HPT := Lib.hid (fun k (hk : k < SC.np d) => pack_take g s d hk)
  have HPV := Lib.hid (fun k v => show pv (SC.part g s d k) v = .agg #[.int .i64 (g : Int), .int .i64 (s : Int), .int .i64 (k : Int), .int .i64 (SC.np d : Int), v] from rfl)
  have HPD := Lib.hid (fun k => show (SC.part g s d k).data = (d.drop (47 * k)).take 47 from rfl)
  have k1 : ¬ (g : Int) < 1 := by omega
  have k2 : ¬ (1073741824 : Int) < (g : Int) := by omega
  have k3 : ¬ (s : Int) < 0 := by omega
  have k4 : ¬ (1073741824 : Int) < (s : Int) := by omega
  have k5 : ¬ (188 : Int) < (n : Int) := by omega
  have HB := Lib.hid hB
  have HN := Lib.hid hn
  obtain ⟨hnc1, hnc2⟩ := hnc
  have hmn : 47 * (SC.np d - 1) ≤ n := by rw [HNPD.out]; omega
  generalize SC.np d = m at *
  clear hB hn
  go_enter Try.func13, Try.ntmps13
  go_upto_if 35 with (fail)
  go_cut [8, 33, 34, 35] (fun q _ _ _ wx => q = .int .i64 (m : Int) ∧ Hid (wx = w))
  case first =>
    go_wp2_with fail
    all_goals
      go_meet
      refine ⟨?_, Lib.hid rfl⟩
      have := HNPD.out
      simp_all
      try omega
  case rest =>
    obtain ⟨rfl, hwx⟩ := hcut
    have hwx := hwx.out.symm
    subst hwx
    go_wp2_with fail
    go_loopw [9, 10] (fun v i wr => ∃ k : Nat, i = .int .i64 (k : Int) ∧ k ≤ m ∧ Hid (Lst w.heap.size ((SC.pack g s d).take k) v wr) ∧ Hid (Below w.heap.size w wr)) (fun _ i _ => m - (intOf i).toNat)
    case atStart => exact ⟨0, rfl, Nat.zero_le _, Lib.hid (Lst.nil w _), Lib.hid (Below.refl _ w)⟩
    case round =>
      obtain ⟨k, rfl, hk, HL, HBW⟩ := hrel
      by_cases hlt : k < m
      · have HTL := Lib.hid (show ((SC.pack g s d).take k).length = k by rw [List.length_take, HPL.out]; omega)
        obtain ⟨hs, h1, h2⟩ := HL.out.ex
        rw [HTL.out] at h1
        obtain ⟨A4, c4, rfl, hc4, hc5⟩ := own_shape h1
        have H1 := Lib.hid h1
        have H2 := Lib.hid h2
        clear h1 h2
        have hkn : 47 * k ≤ n := by omega
        have HDL := Lib.hid (show (d.drop (47 * k)).length = n - 47 * k by rw [List.length_drop, HN.out])
        have hwa : IntKind.i64.wrap (((k : Int) + 1) * 47) = ((k : Int) + 1) * 47 := by rw [IntKind.wrap_i64]; omega
        have hwb : IntKind.i64.wrap ((k : Int) * 47) = (k : Int) * 47 := by rw [IntKind.wrap_i64]; omega
        have hwc : IntKind.i64.wrap ((k : Int) + 1) = (k : Int) + 1 := by rw [IntKind.wrap_i64]; omega
        have t1 : ((k : Int) * 47).toNat = k * 47 := by omega
        have t2 : (((k : Int) + 1) * 47).toNat = (k + 1) * 47 := by omega
        have i0 : 0 ≤ (k : Int) * 47 := by omega
        have i1 : (k : Int) * 47 ≤ (n : Int) := by omega
        have i2 : (k : Int) * 47 ≤ ((k : Int) + 1) * 47 := by omega
        have i3 : 0 ≤ ((k : Int) + 1) * 47 := by omega
        have ncz : ¬ c = k * 47 := by have := HNPD.out; omega
        have HLAY := Lib.hid (show ∀ q' : Nat, ((d.drop (47 * k)).take 47).length = q' → Calls Try.prog 26 #[.agg #[.int .i64 (g : Int), .int .i64 (s : Int), .int .i64 (k : Int), .int .i64 (m : Int), .slice (Option.map (fun x => x.add (k * 47)) A) q' (c - k * 47)]] wr (Fresh wr (SC.lay (SC.part g s d k))) from
          fun q' hq' => by
            have hcut := bytesAt_cut (HB.out.below HBW.out) (k := k * 47) (c := c) (by rw [HN.out]; omega) (by rw [HN.out]; exact hnc1)
            rw [if_neg ncz, Nat.mul_comm k 47] at hcut
            have h := RefLay_any (SC.part g s d k) (HGOOD.out k hlt) (Option.map (fun x => x.add (k * 47)) A) q' (c - k * 47) wr (by rw [HPD.out, Nat.mul_comm k 47]; exact bytesAt_front hcut 47) (by rw [HPD.out]; exact hq')
            rw [HPV.out] at h
            exact h)
        have hrw : w.heap.size ≤ wr.heap.size := HBW.out.size
        go_wp2_with fail
        all_goals
          go_at_call 26
          first
            | with_reducible refine (HLAY.out (n - k * 47) (by rw [List.length_take, HDL.out]; omega)).mono ?_
            | with_reducible refine (HLAY.out ((k + 1) * 47 - k * 47) (by rw [List.length_take, HDL.out]; omega)).mono ?_
          rintro e w5 ⟨v5, rfl, hO5, hB5⟩
          have HB5 := Lib.hid hB5
          have HM1 := Lib.hid ((Mod.of_below hB5 []).alloc (.cells #[v5] 26))
          have HOW := Lib.hid (HM1.out.own H1.out (by simp))
          have h51 : w.heap.size ≤ w5.heap.size := Nat.le_trans hrw hB5.size
          have HOV := Lib.hid (((Mod.refl [] w5).alloc (.cells #[v5] 26)).own (own_base (b := w.heap.size) hO5 hrw) (by simp))
          obtain ⟨A5, c5, rfl, _, _⟩ := own_shape hO5
          have HLL := Lib.hid (show (k + 1) * 24 ≤ 140737488355328 by omega)
          have HW5 := Lib.hid (Whole.new w5 26 #[Value.slice A5 (SC.lay (SC.part g s d k)).length c5])
          have HSZ := Lib.hid (show w.heap.size ≤ (w5.alloc (.cells #[Value.slice A5 (SC.lay (SC.part g s d k)).length c5] 26)).heap.size by simp; omega)
          clear hO5 hB5
          go_wp2_with (at_builtin; refine list_app_hdr rfl (.tmp 47) (.tmp 59) rfl w.heap.size (.slice A4 k c4) k hs HOW.out w5.heap.size (.slice A5 (SC.lay (SC.part g s d k)).length c5) rfl HW5.out HLL.out HSZ.out rfl rfl ?_; intro v6 w6 k1 k2; have K1 := Lib.hid k1; have K2 := Lib.hid k2; clear k1 k2)
          have HLF := Lib.hid (Lst.push (base := w.heap.size) (rs := (SC.pack g s d).take k) hrw (by rw [HTL.out]; exact H1.out) H2.out HM1.out HOV.out (by rw [HTL.out]; exact K1.out) K2.out)
          rw [← HPT.out k hlt] at HLF
          have HBF := Lib.hid (HBW.out.trans (((HM1.out.mono (G := (Value.slice A4 k c4).ownBlock.toList) (by simp)).trans K2.out (fun x hx => .inl hx)).below hrw (fun x hx => (H1.out.lt x (by simpa using hx)).1)))
          go_roundw
          case rel => exact ⟨k + 1, by go_num, hlt, HLF, HBF⟩
          case measure => simp only [intOf]; go_num
      · obtain rfl : k = m := by omega
        go_wp2_with fail
        go_ret2
        exact ⟨_, rfl, by have h := HL; rw [List.take_of_length_le (by rw [HPL.out]; exact Nat.le_refl _)] at h; exact h, HBW⟩
set_option maxHeartbeats 4000000 in
theorem RefPack_zero (g s : Nat) (A : Option Addr) (w : World) (hg : 1 ≤ g ∧ g ≤ 1073741824) (hs : s ≤ 1073741824) :
    Calls Try.prog 13 #[.int .i64 (g : Int), .int .i64 (s : Int), .slice A 0 0] w fun e w' => ∃ v, e = .returned (.tuple #[v, .int .i64 0]) ∧ Hid (Lst w.heap.size (SC.pack g s []) v w') ∧ Hid (Below w.heap.size w w') := by
  have k1 : ¬ (g : Int) < 1 := by omega
  have k2 : ¬ (1073741824 : Int) < (g : Int) := by omega
  have k3 : ¬ (s : Int) < 0 := by omega
  have k4 : ¬ (1073741824 : Int) < (s : Int) := by omega
  have HLAY := Lib.hid (show Calls Try.prog 26 #[.agg #[.int .i64 (g : Int), .int .i64 (s : Int), .int .i64 0, .int .i64 1, .slice A 0 0]] w (Fresh w (SC.lay (SC.part g s [] 0))) from
    RefLay_any (SC.part g s [] 0) (SC.part_good hg hs (by simp) (by decide)) A 0 0 w (BytesAt.nil _ _) rfl)
  have HPK := Lib.hid (show SC.pack g s [] = [SC.lay (SC.part g s [] 0)] from rfl)
  go_enter Try.func13, Try.ntmps13
  go_wp2_with fail
  refine wp_loop_rounds 2 ?_
  rw [rounds_succ]
  go_wp2_with fail
  go_at_call 26
  with_reducible refine HLAY.out.mono ?_
  rintro e w5 ⟨v5, rfl, hO5, hB5⟩
  have HB5 := Lib.hid hB5
  have HM1 := Lib.hid ((Mod.of_below hB5 []).alloc (.cells #[v5] 26))
  have HOW := Lib.hid (show World.ownsRow (w5.alloc (.cells #[v5] 26)) w.heap.size 26 1 (.slice none 0 0) 0 [] from World.ownsRow_nil _ _ _ _)
  have h51 : w.heap.size ≤ w5.heap.size := hB5.size
  have HOV := Lib.hid (((Mod.refl [] w5).alloc (.cells #[v5] 26)).own hO5 (by simp))
  obtain ⟨A5, c5, rfl, _, _⟩ := own_shape hO5
  have HW5 := Lib.hid (Whole.new w5 26 #[Value.slice A5 (SC.lay (SC.part g s [] 0)).length c5])
  have HSZ := Lib.hid (show w.heap.size ≤ (w5.alloc (.cells #[Value.slice A5 (SC.lay (SC.part g s [] 0)).length c5] 26)).heap.size by simp; omega)
  clear hO5 hB5
  go_wp2_with (at_builtin; refine list_app_hdr rfl (.tmp 47) (.tmp 59) rfl w.heap.size (.slice none 0 0) 0 [] HOW.out w5.heap.size (.slice A5 (SC.lay (SC.part g s [] 0)).length c5) rfl HW5.out (by decide) HSZ.out rfl rfl ?_; intro v6 w6 k1 k2; have K1 := Lib.hid k1; have K2 := Lib.hid k2; clear k1 k2)
  have HLF := Lib.hid (Lst.push (base := w.heap.size) (rs := []) (hs := []) (v := .slice none 0 0) (w := w) (Nat.le_refl _) (World.ownsRow_nil _ _ _ _) (fun j x hx => by simp at hx) HM1.out HOV.out K1.out K2.out)
  have HBF := Lib.hid (((HM1.out.mono (G := (Value.slice none 0 0).ownBlock.toList) (by simp)).trans K2.out (fun x hx => .inl hx)).below (Nat.le_refl _) (fun x hx => by simp [Value.ownBlock] at hx))
  rw [rounds_succ]
  go_wp2_with fail
  go_ret2
  exact ⟨_, rfl, by rw [HPK.out]; exact HLF, HBF⟩
theorem RefPack_any (g s : Int) (d : List UInt8) (n : Nat) (A : Option Addr) (c : Nat) (w : World) (hB : BytesAt w A d) (hn : d.length = n) (hnc : n ≤ c ∧ c ≤ 9223372036854775807) :
    Calls Try.prog 13 #[.int .i64 g, .int .i64 s, .slice A n c] w (RefPackPost w g s d) := by
  by_cases h : packErr g s n = 0
  · have h2 : (1 ≤ g ∧ g ≤ 1073741824) ∧ (0 ≤ s ∧ s ≤ 1073741824) ∧ n ≤ 188 := by
      unfold packErr at h
      split at h
      · rename_i h1
        split at h
        · cases h
        · exact ⟨h1.1, h1.2, by omega⟩
      · cases h
    obtain ⟨gn, rfl⟩ : ∃ gn : Nat, (gn : Int) = g := ⟨g.toNat, by omega⟩
    obtain ⟨sn, rfl⟩ : ∃ sn : Nat, (sn : Int) = s := ⟨s.toNat, by omega⟩
    by_cases hc : c = 0
    · subst hc
      have hn0 : n = 0 := by omega
      subst hn0
      have hd : d = [] := List.eq_nil_of_length_eq_zero hn
      subst hd
      refine (RefPack_zero gn sn A w (by omega) (by omega)).mono ?_
      rintro e w' ⟨v, rfl, hp, hb⟩
      exact ⟨hb, .inl ⟨gn, sn, v, Lib.hid ⟨rfl, rfl, by omega, by omega, by simp⟩, rfl, hp⟩⟩
    · refine (RefPack_big gn sn d n A c w hB hn hnc (by omega) (by omega) h2.2.2 hc).mono ?_
      rintro e w' ⟨v, rfl, hp, hb⟩
      exact ⟨hb, .inl ⟨gn, sn, v, Lib.hid ⟨rfl, rfl, by omega, by omega, by omega⟩, rfl, hp⟩⟩
  · refine (RefPack_no g s d n A c w hn (by omega) h).mono ?_
    rintro e w' ⟨rfl, rfl⟩
    subst hn
    exact ⟨Lib.hid (Below.refl _ _), .inr ⟨Lib.hid h, rfl⟩⟩
end Go.Proofs.Ytlnahmgcjaodkaa
