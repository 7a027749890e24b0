/- The package's Pack, walked. -/
import Derived.Test.YtlnahmgcjaodkaaScW11
namespace Go.Proofs.Ytlnahmgcjaodkaa
open Go.RowKit
open By
set_option linter.unusedVariables false
set_option linter.unusedSimpArgs false
set_option maxRecDepth 100000
def packErr (g s : Int) (n : Nat) : Int := if (1 ≤ g ∧ g ≤ 1073741824) ∧ (0 ≤ s ∧ s ≤ 1073741824) then (if 188 < n then 41 else 0) else 2
set_option maxHeartbeats 1000000 in
theorem Pack_no (g s : Int) (d : List UInt8) (n : Nat) (A : Option Addr) (c : Nat) (w : World) (hn : d.length = n) (hl : n ≤ 9223372036854775807) (h : packErr g s n ≠ 0) :
    Calls Try.prog 11 #[.int .i64 g, .int .i64 s, .slice A n c] w fun e w' => e = .returned (.tuple #[.slice none 0 0, .int .i64 (packErr g s n)]) ∧ w = w' := by
  have HG := Lib.hid (isGen_any g)
  have HS := Lib.hid (isSeq_any s)
  unfold packErr at h ⊢
  by_cases h1 : 1 ≤ g ∧ g ≤ 1073741824
  · by_cases h2 : 0 ≤ s ∧ s ≤ 1073741824
    · rw [if_pos ⟨h1, h2⟩] at h ⊢
      have h3 : 188 < n := by
        by_cases h3 : 188 < n
        · exact h3
        · rw [if_neg h3] at h; exact absurd rfl h
      rw [if_pos h3]
      rw [decide_eq_true h1] at HG
      rw [decide_eq_true h2] at HS
      clear h
      go_enter Try.func11, Try.ntmps11
      go_wp2_with (first
        | (go_at_call 22; refine (HG.out _).mono ?_; rintro e w' ⟨rfl, rfl⟩)
        | (go_at_call 23; refine (HS.out _).mono ?_; rintro e w' ⟨rfl, rfl⟩))
      go_ret2
      exact ⟨rfl, rfl⟩
    · rw [if_neg (fun k => h2 k.2)]
      rw [decide_eq_true h1] at HG
      rw [decide_eq_false h2] at HS
      clear h
      go_enter Try.func11, Try.ntmps11
      go_wp2_with (first
        | (go_at_call 22; refine (HG.out _).mono ?_; rintro e w' ⟨rfl, rfl⟩)
        | (go_at_call 23; refine (HS.out _).mono ?_; rintro e w' ⟨rfl, rfl⟩))
      go_ret2
      exact ⟨rfl, rfl⟩
  · rw [if_neg (fun k => h1 k.1)]
    rw [decide_eq_false h1] at HG
    clear h
    go_enter Try.func11, Try.ntmps11
    go_wp2_with (first
      | (go_at_call 22; refine (HG.out _).mono ?_; rintro e w' ⟨rfl, rfl⟩))
    go_ret2
    exact ⟨rfl, rfl⟩
theorem pack_take (g s : Nat) (d : List UInt8) {k : Nat} (h : k < SC.np d) : (SC.pack g s d).take (k + 1) = (SC.pack g s d).take k ++ [SC.lay (SC.part g s d k)] := by
  rw [List.take_add_one, SC.pack_at h]
  rfl
theorem pack64 {g s : Nat} {d : List UInt8} (hg : 1 ≤ g ∧ g ≤ 1073741824) (hs : s ≤ 1073741824) (hd : d.length ≤ 188) (j : Nat) (x : List UInt8) (hx : (SC.pack g s d)[j]? = some x) : x.length = 64 := by
  have hj := (List.getElem?_eq_some_iff.1 hx).1
  rw [SC.pack_len] at hj
  rw [SC.pack_at hj] at hx
  cases hx
  exact SC.lay_len (by have := (SC.part_good hg hs hd hj).len; omega)
theorem bytesAt_cut47 {w : World} {A : Option Addr} {l : List UInt8} (h : BytesAt w A l) : BytesAt w (Option.map (fun x => { block := x.block, off := x.off + 47 }) A) (l.drop 47) := fun h0 => by
  rw [List.length_drop] at h0
  obtain ⟨b, o, rfl, hb, hc⟩ := h (by omega)
  refine ⟨b, o + 47, rfl, hb, fun j x hx => ?_⟩
  rw [List.getElem?_drop] at hx
  rw [Nat.add_assoc]
  exact hc (47 + j) x hx
set_option maxHeartbeats 4000000 in
theorem Pack_ok (g s : Nat) (d : List UInt8) (n : Nat) (A : Option Addr) (c : Nat) (w : World) (hB : BytesAt w A d) (hn : d.length = n) (hnc : n ≤ c ∧ c ≤ 9223372036854775807) (hg : 1 ≤ g ∧ g ≤ 1073741824) (hs : s ≤ 1073741824) (hd : n ≤ 188) :
    Calls Try.prog 11 #[.int .i64 (g : Int), .int .i64 (s : Int), .slice A n c] w fun e w' => e = .returned (.tuple #[.slice (some ⟨w.heap.size, 0, none⟩) (SC.np d) (SC.np d), .int .i64 0]) ∧ Hid (∃ bs, Packed w.heap.size w.heap.size bs (SC.np d) (SC.pack g s d) w') ∧ Hid (Below w.heap.size w w') := by
  have HGN := Lib.hid (isGen_any (g : Int))
  have HSQ := Lib.hid (isSeq_any (s : Int))
  have HNP := Lib.hid (partsOf_any d (by omega))
  rw [decide_eq_true (show 1 ≤ (g : Int) ∧ (g : Int) ≤ 1073741824 by omega)] at HGN
  rw [decide_eq_true (show 0 ≤ (s : Int) ∧ (s : Int) ≤ 1073741824 by omega)] at HSQ
  rw [hn] at HNP
  have hnp : 1 ≤ SC.np d ∧ SC.np d ≤ 4 := by unfold SC.np; omega
  have HNPD := Lib.hid (show SC.np d = max 1 ((n + 46) / 47) by rw [← hn]; rfl)
  have HPL := Lib.hid (SC.pack_len g s d)
  have HGOOD := Lib.hid (fun k (hk : k < SC.np d) => SC.part_good (s := s) (d := d) hg hs (by omega) hk)
  have HPT := Lib.hid (fun k (hk : k < SC.np d) => pack_take g s d hk)
  have HPV := Lib.hid (fun k v => show pv (SC.part g s d k) v = .agg #[.int .i64 (g : Int), .int .i64 (s : Int), .int .i64 (k : Int), .int .i64 (SC.np d : Int), v] from rfl)
  have HPD := Lib.hid (fun k => show (SC.part g s d k).data = (d.drop (47 * k)).take 47 from rfl)
  generalize SC.np d = m at *
  have hmk : ∀ w' : World, (Instr.makeSlice 22 (.int .i64 (m : Int)) (.int .i64 (m : Int))).run Try.prog w' = .ok (.slice (some ⟨w'.heap.size, 0, none⟩) m m) (w'.alloc (.cells (madeCells #[.slice none 0 0] m) 26)) := fun w' => run_make_row' (P := Try.prog) 22 26 (.slice none 0 0) 24 Try.underlying22 info_row rfl .i64 .i64 m (by omega) (by omega) w'
  have hn188 : ¬ (188 : Int) < (n : Int) := by omega
  have HB := Lib.hid hB
  have HN := Lib.hid hn
  obtain ⟨hnc1, hnc2⟩ := hnc
  clear hB hn
  go_enter Try.func11, Try.ntmps11
  go_wp2_with (first
    | (go_at_call 22; refine (HGN.out _).mono ?_; rintro e w' ⟨rfl, rfl⟩)
    | (go_at_call 23; refine (HSQ.out _).mono ?_; rintro e w' ⟨rfl, rfl⟩)
    | (go_at_call 24; refine (HNP.out _).mono ?_; rintro e w' ⟨rfl, rfl⟩))
  go_loopw [2, 28] (fun v i wr => ∃ (k : Nat) (A' : Option Addr) (c' : Nat) (bs : List Nat), i = .int .i64 (k : Int) ∧ v = .slice A' (n - 47 * k) c' ∧ k ≤ m ∧ n - 47 * k ≤ c' ∧ c' ≤ 9223372036854775807 ∧ Hid (BytesAt w A' (d.drop (47 * k))) ∧ Hid (Packed w.heap.size w.heap.size bs m ((SC.pack g s d).take k) wr) ∧ Hid (Below w.heap.size w wr)) (fun _ i _ => m - (intOf i).toNat)
  case atStart =>
    exact ⟨0, A, c, [], rfl, rfl, Nat.zero_le _, by simpa using hnc1, hnc2, Lib.hid HB.out, Lib.hid ⟨by rw [← packCells_nil]; exact Whole.new w _ _, Nat.le_refl _, rfl, Nat.zero_le _, fun j b x hb => by simp at hb, List.nodup_nil⟩, Lib.hid ((Below.refl _ w).alloc (Nat.le_refl _) _)⟩
  case round =>
    obtain ⟨k, A', c', bs, rfl, rfl, hk, hc1, hc2, HBX, HPK, HBW⟩ := hrel
    have HBS := Lib.hid (show bs.length = k by rw [HPK.out.len, List.length_take, HPL.out]; omega)
    by_cases hlt : k < m
    · have HDL := Lib.hid (show (d.drop (47 * k)).length = n - 47 * k by rw [List.length_drop, HN.out])
      obtain ⟨q, hq⟩ : ∃ q, q = min (n - 47 * k) 47 := ⟨_, rfl⟩
      have hmin : min ((n - 47 * k : Nat) : Int) 47 = (q : Int) := by omega
      have hql : q ≤ n - 47 * k := by omega
      have hq47 : q ≤ 47 := by omega
      have HQT := Lib.hid (show ((d.drop (47 * k)).take 47) = (d.drop (47 * k)).take q by
        rcases Nat.lt_or_ge (n - 47 * k) 47 with h | h
        · rw [List.take_of_length_le (by rw [HDL.out]; omega), List.take_of_length_le (by rw [HDL.out]; omega)]
        · rw [show q = 47 by omega])
      have HQL := Lib.hid (show ((d.drop (47 * k)).take q).length = q by rw [List.length_take, HDL.out]; omega)
      have HQN := Lib.hid (show n - 47 * (k + 1) = n - 47 * k - q by omega)
      have HQR := Lib.hid (show d.drop (47 * (k + 1)) = (d.drop (47 * k)).drop q by
        rw [List.drop_drop]
        rcases Nat.lt_or_ge (n - 47 * k) 47 with h | h
        · rw [List.drop_of_length_le (by rw [HN.out]; omega), List.drop_of_length_le (by rw [HN.out]; omega)]
        · rw [show 47 * k + q = 47 * (k + 1) by omega])
      clear hq
      generalize n - 47 * k = L at *
      have c0 : wr.cell? ⟨w.heap.size, k, none⟩ = some (.slice none 0 0) := by rw [HPK.out.row.cell]; exact packCells_at (by rw [HBS.out]; exact Nat.le_refl _) hlt
      have f0 := HPK.out.row.frozen k
      have HSEC := Lib.hid (show ∀ q' : Nat, ((d.drop (47 * k)).take 47).length = q' → Calls Try.prog 25 #[.agg #[.int .i64 (g : Int), .int .i64 (s : Int), .int .i64 (k : Int), .int .i64 (m : Int), .slice A' q' c']] wr fun e w' => e = .returned (.slice (some ⟨wr.heap.size + 1, 0, none⟩) 64 64) ∧ Hid (Whole w' (wr.heap.size + 1) 5 (u8s (SC.lay (SC.part g s d k))).toArray) ∧ Hid (Below wr.heap.size wr w') from
        fun q' hq' => by
          have h := sector_any (SC.part g s d k) (HGOOD.out k hlt) A' q' c' wr (by rw [HPD.out]; exact bytesAt_front (HBX.out.below HBW.out) 47) (by rw [HPD.out]; exact hq')
          rw [HPV.out] at h
          exact h)
      go_wp2_with fail
      all_goals
        go_at_call 25
        first
          | with_reducible refine (HSEC.out 47 (by rw [HQT.out, HQL.out]; omega)).mono ?_
          | with_reducible refine (HSEC.out L (by rw [HQT.out, HQL.out]; omega)).mono ?_
        rintro e w5 ⟨rfl, HW5, HB5⟩
        have c5 : w5.cell? ⟨w.heap.size, k, none⟩ = some (.slice none 0 0) := (HB5.out.cell (p := ⟨w.heap.size, k, none⟩) HPK.out.row.lt).trans c0
        have f5 := ((Mod.of_below HB5.out []).whole HPK.out.row (by simp)).frozen k
        have HPP := Lib.hid (HPK.out.push (by rw [HBS.out]; exact hlt) HB5.out (Nat.le_succ _) HBW.out.size HW5.out)
        rw [HBS.out, ← HPT.out k hlt] at HPP
        have HBF := Lib.hid (((below_on2 HBW.out (.inl HBW.out.size) HB5.out)).setCell (p := ⟨w.heap.size, k, none⟩) (Nat.le_refl _) (hdr64 (wr.heap.size + 1)))
        clear c0 f0
        go_wp2_with fail
        all_goals
          go_roundw
          case rel =>
            refine ⟨k + 1, ?_, ?_, bs ++ [wr.heap.size + 1], by go_num, ?_, hlt, ?_, ?_, ?_, HPP, HBF⟩
            rotate_left 2
            · rw [HQN.out]
              first
                | (have hq2 : q = 47 := by omega
                   rw [hq2])
                | (have hq2 : L - q = 0 := by omega
                   rw [hq2])
            · rw [HQN.out]; omega
            · omega
            · exact Lib.hid (by
                rw [HQR.out]
                first
                  | exact fun h0 => absurd h0 (by rw [List.length_drop, HDL.out]; omega)
                  | (have hq2 : q = 47 := by omega
                     rw [hq2]
                     exact bytesAt_cut47 HBX.out))
          case measure => simp only [intOf]; go_num
    · obtain rfl : k = m := by omega
      go_wp2_with fail
      go_ret2
      exact ⟨rfl, Lib.hid ⟨bs, by have h := HPK.out; rw [List.take_of_length_le (by rw [HPL.out]; exact Nat.le_refl _)] at h; exact h⟩, HBW⟩
/-- What Pack answers: the record's sectors, or why not. -/
def PackPost (w : World) (g s : Int) (d : List UInt8) (e : Ending) (w' : World) : Prop :=
  Hid (Below w.heap.size w w') ∧ ((∃ gn sn : Nat, ∃ bs, Hid ((gn : Int) = g ∧ (sn : Int) = s ∧ (1 ≤ gn ∧ gn ≤ 1073741824) ∧ sn ≤ 1073741824 ∧ d.length ≤ 188) ∧ e = .returned (.tuple #[.slice (some ⟨w.heap.size, 0, none⟩) (SC.np d) (SC.np d), .int .i64 0]) ∧ Hid (Packed w.heap.size w.heap.size bs (SC.np d) (SC.pack gn sn d) w')) ∨ (Hid (packErr g s d.length ≠ 0) ∧ e = .returned (.tuple #[.slice none 0 0, .int .i64 (packErr g s d.length)])))
theorem Pack_any (g s : Int) (d : List UInt8) (n : Nat) (A : Option Addr) (c : Nat) (w : World) (hB : BytesAt w A d) (hn : d.length = n) (hnc : n ≤ c ∧ c ≤ 9223372036854775807) :
    Calls Try.prog 11 #[.int .i64 g, .int .i64 s, .slice A n c] w (PackPost w g s d) := by
  by_cases h : packErr g s n = 0
  · have h2 : (1 ≤ g ∧ g ≤ 1073741824) ∧ (0 ≤ s ∧ s ≤ 1073741824) ∧ n ≤ 188 := by
      unfold packErr at h
      split at h
      · rename_i h1
        split at h
        · cases h
        · exact ⟨h1.1, h1.2, by omega⟩
      · cases h
    obtain ⟨gn, rfl⟩ : ∃ gn : Nat, (gn : Int) = g := ⟨g.toNat, by omega⟩
    obtain ⟨sn, rfl⟩ : ∃ sn : Nat, (sn : Int) = s := ⟨s.toNat, by omega⟩
    refine (Pack_ok gn sn d n A c w hB hn hnc (by omega) (by omega) h2.2.2).mono ?_
    rintro e w' ⟨rfl, ⟨bs, hp⟩, hb⟩
    exact ⟨hb, .inl ⟨gn, sn, bs, Lib.hid ⟨rfl, rfl, by omega, by omega, by omega⟩, rfl, Lib.hid hp⟩⟩
  · refine (Pack_no g s d n A c w hn (by omega) h).mono ?_
    rintro e w' ⟨rfl, rfl⟩
    subst hn
    exact ⟨Lib.hid (Below.refl _ _), .inr ⟨Lib.hid h, rfl⟩⟩
end Go.Proofs.Ytlnahmgcjaodkaa
