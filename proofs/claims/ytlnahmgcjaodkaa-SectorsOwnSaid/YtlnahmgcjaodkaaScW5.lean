/- The document's Look; whether two lists of lists of bytes are one (SameAll); whether two parts are (same). -/
import Derived.Test.YtlnahmgcjaodkaaScW4
namespace Go.Proofs.Ytlnahmgcjaodkaa
open Go.RowKit
open By
set_option linter.unusedVariables false
set_option linter.unusedSimpArgs false
set_option maxRecDepth 100000
set_option maxHeartbeats 2000000 in
theorem RefLook_len (A : Option Addr) (n c : Nat) (b : List UInt8) (w : World) (hn : b.length = n) (h : n ≠ 64) (hl : n ≤ 9223372036854775807) :
    Calls Try.prog 16 #[.slice A n c] w (Told w b) := by
  have hne : ((n : Int) == 64) = false := by simp; omega
  have HN := Lib.hid hn
  have HB := Lib.hid (((Below.refl _ w).alloc (Nat.le_refl _) (.cells (pcells ⟨0, 0, 0, 0, []⟩ (.slice none 0 0)) 33)).alloc (by simp) (.cells (pcells ⟨0, 0, 0, 0, []⟩ (.slice none 0 0)) 33))
  clear hn
  go_enter Try.func16, Try.ntmps16
  go_wp2_with fail
  refine bodyPost_ret (v := .tuple #[none5, .int .i64 43]) (part_ret rfl (p := ⟨0, 0, 0, 0, []⟩) (v := .slice none 0 0) ((Whole.new w _ _).alloc _) rfl rfl rfl) rfl ?_
  exact ⟨HB, .inr ⟨Lib.hid (fun p hp => h (by rw [← HN.out, hp.len])), rfl⟩⟩
theorem RefOfFour_raw (A : Option Addr) (n c : Nat) (l : List UInt8) (w : World) (h : BytesAt w A l) (hn : l.length = n) (h4 : 4 ≤ n) (h3 : n ≤ c) (hc : c ≤ 9223372036854775807) :
    Calls Try.prog 31 #[.slice A n c] w fun e w' => e = .returned (.tuple #[.int .u32 (SC.of4 l : Int), .bool true]) ∧ w = w' := by
  subst hn
  have := RefOfFour_any A c l w h h3 hc
  rw [ofFour_of4 h4, decide_eq_true h4] at this
  exact this
/-- The document's Look under way: the part's box, the answer's, and one that stays empty. -/
structure RefSt (w : World) (p : SC.Pt) (gp : Nat) (v : Value) (wx : World) : Prop where
  st : LookSt w p gp v wx
  zero : Whole wx (w.heap.size + 1) 33 (pcells ⟨0, 0, 0, 0, []⟩ (.slice none 0 0))
  ne : gp ≠ w.heap.size + 1
  ge : w.heap.size ≤ gp
theorem RefSt.on {w wx : World} {p : SC.Pt} {gp : Nat} {v : Value} (h : RefSt w p gp v wx) {w' : World} (hb : Below wx.heap.size wx w') : RefSt w p gp v w' :=
  ⟨h.st.on hb, (Mod.of_below hb []).whole h.zero (by simp), h.ne, h.ge⟩
theorem RefSt.make {w w2 : World} {p : SC.Pt} (hp : p.data = []) (hs : w2.heap.size = w.heap.size + 2) (hb : Below w.heap.size w w2) (hr : Whole w2 w.heap.size 33 (pcells ⟨0, 0, 0, 0, []⟩ (.slice none 0 0))) (hz : Whole w2 (w.heap.size + 1) 33 (pcells ⟨0, 0, 0, 0, []⟩ (.slice none 0 0))) :
    RefSt w p w2.heap.size (.slice none 0 0) ((w2.alloc (.cells (pcells p (.slice none 0 0)) 33)).drew) :=
  ⟨⟨(Whole.new _ _ _).drewN 1, (hr.alloc _).drewN 1, by rw [hp]; exact World.ownsRow_nil _ _ _ _, by omega, (hb.alloc (by omega) _).drew⟩, (hz.alloc _).drewN 1, by omega, by omega⟩
theorem RefSt.app {w wr W w2 : World} {g q i m : Nat} {d : List UInt8} {gp : Nat} {v v' : Value} (x : UInt8) (h : RefSt w ⟨g, q, i, m, d⟩ gp v wr) (hW : Mod [] wr W) (k1 : w2.ownsRow w.heap.size 5 1 v' (d ++ [x]).length (u8s (d ++ [x]))) (k2 : Mod v.ownBlock.toList W w2) :
    RefSt w ⟨g, q, i, m, d ++ [x]⟩ gp v' (w2.setCell ⟨gp, 4, none⟩ v') ∧ w2.cell? ⟨gp, 4, none⟩ = some v ∧ w2.frozen? ⟨gp, 4, none⟩ = false := by
  have hrow := hW.own h.st.row (by simp)
  have keep : ∀ {b' : Nat} {cs : Array Value}, Whole wr b' 33 cs → Whole w2 b' 33 cs := fun hb' => k2.whole (hW.whole hb' (by simp)) (fun hx => own_ne hrow (hW.whole hb' (by simp)) (by decide) (by simpa using hx))
  have hbox := keep h.st.box
  have hne : v'.ownBlock ≠ some (⟨gp, 4, none⟩ : Addr).block := own_ne k1 hbox (by decide)
  have hgp := h.ge
  refine ⟨⟨⟨hbox.store 4 v', (keep h.st.res).far (q := ⟨gp, 4, none⟩) (fun e => h.st.ne e.symm) _, own_far k1 hne _, h.st.ne, ?_⟩, (keep h.zero).far (q := ⟨gp, 4, none⟩) (fun e => h.ne e.symm) _, h.ne, h.ge⟩, hbox.cell 4, hbox.frozen 4⟩
  exact ((h.st.below.trans ((hW.mono (G := v.ownBlock.toList) (by simp)).trans k2 (fun x hx => .inl hx) |>.below h.st.below.size (fun x hx => (h.st.row.lt x (by simpa using hx)).1))).setCell (p := ⟨gp, 4, none⟩) hgp _)
set_option maxHeartbeats 2000000 in
theorem RefLook_64 (A : Option Addr) (c : Nat) (b : List UInt8) (w : World) (hn : b.length = 64) (hB : BytesAt w A b) (hc : 64 ≤ c ∧ c ≤ 9223372036854775807) :
    Calls Try.prog 16 #[.slice A 64 c] w (Told w b) := by
  obtain ⟨bb, o, rfl, hb, hcc⟩ := hB (by omega)
  have HCC := Lib.hid hcc
  have h8 := (b.getD 8 0).toNat_lt
  have h9 := (b.getD 9 0).toNat_lt
  have h10 := (b.getD 10 0).toNat_lt
  have HBB := Lib.hid hB
  have HN := Lib.hid hn
  have HD4 : Hid (BytesAt w (some ⟨bb, o + 4, none⟩) (b.drop 4)) := Lib.hid (fun h0 => ⟨bb, o + 4, rfl, hb, fun j x hx => by
    rw [List.getElem?_drop] at hx
    rw [Nat.add_assoc]
    exact hcc (4 + j) x hx⟩)
  have HL4 := Lib.hid (show (b.drop 4).length = 60 by rw [List.length_drop, hn])
  obtain ⟨hc1, hc2⟩ := hc
  have n0 : ¬ c = 0 := by omega
  have n4 : ¬ c = 4 := by omega
  clear hcc hB hn
  have HB2 := Lib.hid (((Below.refl _ w).alloc (Nat.le_refl _) (.cells (pcells ⟨0, 0, 0, 0, []⟩ (.slice none 0 0)) 33)).alloc (by simp) (.cells (pcells ⟨0, 0, 0, 0, []⟩ (.slice none 0 0)) 33))
  have HR2 := Lib.hid ((Whole.new w 33 (pcells ⟨0, 0, 0, 0, []⟩ (.slice none 0 0))).alloc (.cells (pcells ⟨0, 0, 0, 0, []⟩ (.slice none 0 0)) 33))
  have HZ2 := Lib.hid (show Whole ((w.alloc (.cells (pcells ⟨0, 0, 0, 0, []⟩ (.slice none 0 0)) 33)).alloc (.cells (pcells ⟨0, 0, 0, 0, []⟩ (.slice none 0 0)) 33)) (w.heap.size + 1) 33 (pcells ⟨0, 0, 0, 0, []⟩ (.slice none 0 0)) by
    have e : w.heap.size + 1 = (w.alloc (.cells (pcells ⟨0, 0, 0, 0, []⟩ (.slice none 0 0)) 33)).heap.size := by simp
    rw [e]
    exact Whole.new _ _ _)
  have HS2 := Lib.hid (show ((w.alloc (.cells (pcells ⟨0, 0, 0, 0, []⟩ (.slice none 0 0)) 33)).alloc (.cells (pcells ⟨0, 0, 0, 0, []⟩ (.slice none 0 0)) 33)).heap.size = w.heap.size + 2 by simp)
  go_enter Try.func16, Try.ntmps16
  go_wp2_with fail
  unfold pcells at HB2 HR2 HZ2 HS2
  simp only [Int.natCast_zero] at HB2 HR2 HZ2 HS2
  generalize ((w.alloc _).alloc _) = w2 at HB2 HR2 HZ2 HS2 ⊢
  have HBB2 := Lib.hid (HBB.out.below HB2.out)
  have HD42 := Lib.hid (HD4.out.below HB2.out)
  with_reducible refine (RefOfFour_raw (some ⟨bb, o, none⟩) 64 c b w2 HBB2.out HN.out (by decide) hc1 hc2).mono ?_
  rintro e w3 ⟨rfl, rfl⟩
  go_wp2_with fail
  go_at_call 31
  with_reducible refine (RefOfFour_raw (some ⟨bb, o + 4, none⟩) 60 (c - 4) (b.drop 4) w2 HD42.out HL4.out (by decide) (by omega) (by omega)).mono ?_
  rintro e w3 ⟨rfl, rfl⟩
  have HFI : Hid (SC.fields b = ⟨SC.of4 b, SC.of4 (b.drop 4), (b.getD 8 0).toNat, (b.getD 9 0).toNat, (b.drop 11).take (b.getD 10 0).toNat⟩) := rfl
  have c8 : w2.cell? ⟨bb, o + 8, none⟩ = some (.int .u8 ((b.getD 8 0).toNat : Int)) := (HB2.out.cell (p := ⟨bb, o + 8, none⟩) hb).trans (HCC.out 8 _ (getD_some (by have := HN.out; omega)))
  have c9 : w2.cell? ⟨bb, o + 9, none⟩ = some (.int .u8 ((b.getD 9 0).toNat : Int)) := (HB2.out.cell (p := ⟨bb, o + 9, none⟩) hb).trans (HCC.out 9 _ (getD_some (by have := HN.out; omega)))
  have HC10 := Lib.hid (show w2.cell? ⟨bb, o + 10, none⟩ = some (.int .u8 ((b.getD 10 0).toNat : Int)) from (HB2.out.cell (p := ⟨bb, o + 10, none⟩) hb).trans (HCC.out 10 _ (getD_some (by have := HN.out; omega))))
  have hg4 := of4_lt b
  have hs4 := of4_lt (b.drop 4)
  generalize SC.of4 b = g at *
  generalize SC.of4 (b.drop 4) = q at *
  generalize (b.getD 8 0).toNat = i at *
  generalize (b.getD 9 0).toNat = m at *
  generalize (b.getD 10 0).toNat = k at *
  have hw5 : IntKind.i64.wrap (g : Int) = (g : Int) := by rw [IntKind.wrap_i64]; omega
  have hw7 : IntKind.i64.wrap (q : Int) = (q : Int) := by rw [IntKind.wrap_i64]; omega
  have hw8 : IntKind.i64.wrap (i : Int) = (i : Int) := by rw [IntKind.wrap_i64]; omega
  have hw9 : IntKind.i64.wrap (m : Int) = (m : Int) := by rw [IntKind.wrap_i64]; omega
  have hw10 : IntKind.i64.wrap (k : Int) = (k : Int) := by rw [IntKind.wrap_i64]; omega
  have hbl : bb < w2.heap.size := by have := HS2.out; omega
  have nn : bb ≠ w2.heap.size := by omega
  have HS := And.intro c8 c9
  clear c8 c9
  go_wp2_with fail
  go_cut [9] (fun s wx => s = .pointer (some ⟨w2.heap.size, 0, none⟩) ∧ Hid (RefSt w ⟨g, q, i, m, []⟩ w2.heap.size (.slice none 0 0) wx) ∧ Hid (Below w2.heap.size w2 wx))
  case first =>
    go_region_held3 (fun y : World => y.cell? ⟨bb, o + 8, none⟩ = some (.int .u8 (i : Int)) ∧ y.cell? ⟨bb, o + 9, none⟩ = some (.int .u8 (m : Int)))
      (first
        | with_reducible exact HS
        | (refine ⟨?_, ?_⟩ <;> (repeat (first | with_reducible refine cell_st (by assumption) ?_ | with_reducible refine cell_dr ?_ | with_reducible refine cell_al (by assumption) ?_)) <;> (first | with_reducible exact HS.1 | with_reducible exact HS.2)))
      (fail)
    all_goals
      go_wp2_with fail
      go_meet
      exact ⟨rfl, Lib.hid (RefSt.make (p := ⟨g, q, i, m, []⟩) rfl HS2.out HB2.out HR2.out HZ2.out), Lib.hid ((Below.refl _ w2).alloc (Nat.le_refl _) _).drew⟩
  case rest =>
    obtain ⟨rfl, HL, HB3⟩ := hcut
    have c10 : wc.cell? ⟨bb, o + 10, none⟩ = some (.int .u8 (k : Int)) := (HB3.out.cell (p := ⟨bb, o + 10, none⟩) hbl).trans HC10.out
    obtain ⟨b0, b1, b2, b3, b4⟩ := HL.out.st.box.part
    simp only at b0 b1 b2 b3 b4
    obtain ⟨⟨r0, r1, r2, r3, r4⟩, f0, f1, f2, f3, f4⟩ := HL.out.st.resCells
    obtain ⟨z0, z1, z2, z3, z4⟩ := HL.out.zero.part
    simp only [Int.natCast_zero] at z0 z1 z2 z3 z4
    clear HS nn hw5 hw7 hw8 hw9
    by_cases hG : (1 ≤ g ∧ g ≤ 1073741824) ∧ q ≤ 1073741824 ∧ (1 ≤ m ∧ m ≤ 4) ∧ i < m ∧ k ≤ 47 ∧ (i + 1 = m → 0 < k ∨ m = 1) ∧ (i + 1 ≠ m → k = 47)
    · obtain ⟨⟨g1, g2⟩, g3, ⟨g4, g5⟩, g6, g7, g8, g9⟩ := hG
      have HGD := Lib.hid (show SC.Good (SC.fields b) by
        rw [HFI.out]
        have e : ((b.drop 11).take k).length = k := by rw [List.length_take, List.length_drop, HN.out]; omega
        exact ⟨⟨g1, g2⟩, g3, ⟨g4, g5⟩, g6, by show ((b.drop 11).take k).length ≤ 47; rw [e]; exact g7, by show i + 1 < m → ((b.drop 11).take k).length = 47; rw [e]; intro h; exact g9 (by omega), by show 1 < m → 0 < ((b.drop 11).take k).length; rw [e]; intro h; omega⟩)
      have HSZ := Lib.hid (show (i + 1 = m ∧ 0 < k) ∨ (i + 1 = m ∧ k = 0 ∧ m = 1) ∨ (i + 1 ≠ m ∧ k = 47) by omega)
      have hh1 : ¬ (g : Int) < 1 := by omega
      have hh2 : ¬ (1073741824 : Int) < (g : Int) := by omega
      have hh3 : ¬ (1073741824 : Int) < (q : Int) := by omega
      have hh4 : ¬ (m : Int) < 1 := by omega
      have hh5 : ¬ (4 : Int) < (m : Int) := by omega
      have hh6 : ¬ (m : Int) ≤ (i : Int) := by omega
      have hh7 : ¬ (47 : Int) < (k : Int) := by omega
      clear g8 g9
      go_upto_region 11 with (fail)
      go_cut [11, 105] (fun _ s wx => s = .bool false ∧ wx = wc)
      case first =>
        rcases HSZ.out with ⟨h1, h2⟩ | ⟨h1, h2, h3⟩ | ⟨h1, h2⟩
        · have e1 : ((i : Int) == (m : Int) - 1) = true := by simp; omega
          have e2 : ((k : Int) == 0) = false := by simp; omega
          go_wp2_with fail
          go_meet
          exact ⟨rfl, rfl⟩
        · have e1 : ((i : Int) == (m : Int) - 1) = true := by simp; omega
          have e2 : ((k : Int) == 0) = true := by simp; omega
          have e3 : ¬ (1 : Int) < (m : Int) := by omega
          clear h1 h2 h3
          go_wp2_with fail
          go_meet
          exact ⟨rfl, rfl⟩
        · have e1 : ((i : Int) == (m : Int) - 1) = false := by simp; omega
          have e2 : ((k : Int) != 47) = false := by simp; omega
          clear h1 h2
          go_wp2_with fail
          go_meet
          exact ⟨rfl, rfl⟩
      case rest =>
        obtain ⟨rfl, rfl⟩ := hcut
        clear HSZ hh1 hh2 hh3 hh4 hh5 hh6 c10 r0 r1 r2 r3 r4 f0 f1 f2 f3 f4 z0 z1 z2 z3 z4 b0 b1 b2 b3 b4
        have HLk := Lib.hid (show ((b.drop 11).take k).length = k by rw [List.length_take, List.length_drop, HN.out]; omega)
        go_wp2_with fail
        go_loopw [12] (fun j wr => ∃ (n : Nat) (A5 : Option Addr) (c5 : Nat), j = .int .i64 (n : Int) ∧ n ≤ k ∧ Hid (RefSt w ⟨g, q, i, m, (b.drop 11).take n⟩ w2.heap.size (.slice A5 n c5) wr)) (fun j _ => k - (intOf j).toNat)
        case atStart => exact ⟨0, none, 0, rfl, Nat.zero_le _, Lib.hid (by rw [List.take_zero]; exact HL.out)⟩
        case round =>
          obtain ⟨n, A5, c5, rfl, hnk, HR⟩ := hrel
          by_cases hlt : n < k
          · obtain ⟨x, hx⟩ : ∃ x, b[11 + n]? = some x := ⟨_, List.getElem?_eq_getElem (by have := HN.out; omega)⟩
            have hcx : wr.cell? ⟨bb, o + (11 + n), none⟩ = some (.int .u8 (x.toNat : Int)) := (HR.out.st.below.cell (p := ⟨bb, o + (11 + n), none⟩) hb).trans (HCC.out _ _ hx)
            have HTK := Lib.hid (show (b.drop 11).take (n + 1) = (b.drop 11).take n ++ [x] by
              rw [List.take_add_one, List.getElem?_drop, hx]
              rfl)
            have b4 := HR.out.st.box.part.2.2.2.2
            have bf := HR.out.st.box.frozen 4
            have hw1 : IntKind.i64.wrap (11 + (n : Int)) = 11 + (n : Int) := by rw [IntKind.wrap_i64]; omega
            have hk11 : (11 + (n : Int)).toNat = 11 + n := by omega
            have hI1 : 0 ≤ 11 + (n : Int) := by omega
            have hI2 : 11 + (n : Int) < 64 := by omega
            clear hx
            have hcx2 : (wr.alloc (.cells #[.int .u8 (x.toNat : Int)] 5)).cell? ⟨bb, o + (11 + n), none⟩ = some (.int .u8 (x.toNat : Int)) := cell_al (Nat.lt_of_lt_of_le hb HR.out.st.below.size) hcx
            have b42 : (wr.alloc (.cells #[.int .u8 (x.toNat : Int)] 5)).cell? ⟨w2.heap.size, 4, none⟩ = some (.slice A5 n c5) := cell_al HR.out.st.box.lt b4
            have HWA := Lib.hid (((Mod.refl [] wr).alloc (.cells #[.int .u8 (x.toNat : Int)] 5)).drew)
            have HLn := Lib.hid (show ((b.drop 11).take n).length = n by rw [List.length_take, List.length_drop, HN.out]; omega)
            have HOW := Lib.hid (HWA.out.own HR.out.st.row (by simp))
            have HXB := Lib.hid (show BytesAt ((wr.alloc (.cells #[.int .u8 (x.toNat : Int)] 5)).drew) (some ⟨wr.heap.size, 0, none⟩) [x] from Whole.reads (x := [x]) ((Whole.new wr _ _).drewN 1))
            have HWS := Lib.hid (Nat.le_trans HR.out.st.below.size HWA.out.size)
            have HN1 := Lib.hid (show ((b.drop 11).take n ++ [x]).length = n + 1 by rw [List.length_append, HLn.out]; rfl)
            have HLX := Lib.hid (show ((b.drop 11).take n).length + [x].length ≤ 140737488355328 by rw [HLn.out]; show n + 1 ≤ _; omega)
            go_wp2_with fail
            go_region_law (refine step_app_more (W := (wr.alloc (.cells #[.int .u8 (x.toNat : Int)] 5)).drew) w.heap.size (.slice A5 n c5) ((b.drop 11).take n) [x] (some ⟨wr.heap.size, 0, none⟩) 1 1 HOW.out HXB.out rfl HLX.out HWS.out rfl rfl ?_
                           intro v9 w9 k1 k2 _
                           have HAP := Lib.hid (HR.out.app x HWA.out k1 k2)
                           rw [HN1.out] at k1
                           obtain ⟨A9, c9, rfl, _, _⟩ := own_shape k1
                           obtain ⟨_, a4, af⟩ := HAP.out
                           clear k1 k2)
            all_goals
              have HF := Lib.hid (show RefSt w ⟨g, q, i, m, (b.drop 11).take (n + 1)⟩ w2.heap.size (.slice A9 (n + 1) c9) _ by rw [HTK.out]; exact HAP.out.1)
              clear hcx hcx2 b4 b42 bf a4 af hw1 hk11 hI1 hI2
              go_wp2_with fail
              go_roundw
              case rel => exact ⟨n + 1, A9, c9, rfl, hlt, HF⟩
              case measure => simp only [intOf]; omega
          · obtain rfl : n = k := by omega
            obtain ⟨b0, b1, b2, b3, b4⟩ := HR.out.st.box.part
            simp only at b0 b1 b2 b3 b4
            rw [HFI.out] at HGD
            have HSC := RefLay_any ⟨g, q, i, m, (b.drop 11).take n⟩ HGD.out A5 n c5 wr (BytesAt.own (n := n) (by have h := HR.out.st.row; rw [HLk.out] at h; exact h)) HLk.out
            unfold pv pcells at HSC
            simp only at HSC
            have HSC' := Lib.hid HSC
            clear HSC
            go_wp2_with fail
            go_at_call 26
            with_reducible refine HSC'.out.mono ?_
            rintro e w5 ⟨v, rfl, HO, HB5⟩
            have HL5 := Lib.hid (HR.out.on HB5)
            obtain ⟨A6, c6, rfl, _, _⟩ := own_shape HO
            have HBx := Lib.hid (BytesAt.own HO)
            have HBC5 := Lib.hid (HBB.out.below HL5.out.st.below)
            have hcv1 := conv_of (c := c6) rfl HBx.out
            have hcv2 := conv_of (c := c) HN.out.symm HBC5.out
            obtain ⟨d0, d1, d2, d3, d4⟩ := HL5.out.st.box.part
            simp only at d0 d1 d2 d3 d4
            obtain ⟨z0, z1, z2, z3, z4⟩ := HL5.out.zero.part
            simp only [Int.natCast_zero] at z0 z1 z2 z3 z4
            obtain ⟨⟨r0, r1, r2, r3, r4⟩, f0, f1, f2, f3, f4⟩ := HL5.out.st.resCells
            clear HO HB5 b0 b1 b2 b3 b4 HR
            by_cases he : b = SC.lay ⟨g, q, i, m, (b.drop 11).take n⟩
            · have HIS : Hid (SC.Is b ⟨g, q, i, m, (b.drop 11).take n⟩) := Lib.hid ⟨HGD.out, he.symm⟩
              have HPUT := Lib.hid (HL5.out.st.put (q := ⟨g, q, i, m, (b.drop 11).take n⟩) (u := .slice A5 n c5))
              have hE : ((SC.lay ⟨g, q, i, m, (b.drop 11).take n⟩) == b) = true := by rw [← he]; simp
              clear he
              go_wp2_with fail
              refine bodyPost_ret (v := .tuple #[pv ⟨g, q, i, m, (b.drop 11).take n⟩ (.slice A5 n c5), .int .i64 0]) (part_ret rfl HPUT.out.1 rfl rfl rfl) rfl ?_
              exact ⟨Lib.hid HPUT.out.2.2, .inl ⟨_, _, HIS, rfl, Lib.hid HPUT.out.2.1⟩⟩
            · have HNO := Lib.hid (show ∀ p, ¬ SC.Is b p from fun p hp => he (by
                have h := hp.2
                have hf := hp.fields
                rw [HFI.out] at hf
                subst hf
                exact h.symm))
              have HPUT := Lib.hid (HL5.out.st.put (q := ⟨0, 0, 0, 0, []⟩) (u := .slice none 0 0))
              have hE : ((SC.lay ⟨g, q, i, m, (b.drop 11).take n⟩) == b) = false := by simpa using fun e => he e.symm
              clear he
              go_wp2_with fail
              refine bodyPost_ret (v := .tuple #[none5, .int .i64 43]) (part_ret rfl HPUT.out.1 rfl rfl rfl) rfl ?_
              exact ⟨Lib.hid HPUT.out.2.2, .inr ⟨HNO, rfl⟩⟩
    · have HNO := Lib.hid (show ∀ p, ¬ SC.Is b p from fun p hp => hG (by
        have hgd := hp.1
        have hf := hp.fields
        rw [HFI.out] at hf
        subst hf
        obtain ⟨k1, k2, k3, k4, k5, k6, k7⟩ := hgd
        simp only [List.length_take, List.length_drop, HN.out] at k1 k2 k3 k4 k5 k6 k7
        omega))
      have HNG := Lib.hid hG
      have HPUT := Lib.hid (HL.out.st.put (q := ⟨0, 0, 0, 0, []⟩) (u := .slice none 0 0))
      clear hG
      go_wp2_with fail
      all_goals first
        | (refine bodyPost_ret (v := .tuple #[none5, .int .i64 43]) (part_ret rfl HPUT.out.1 rfl rfl rfl) rfl ?_
           exact ⟨Lib.hid HPUT.out.2.2, .inr ⟨HNO, rfl⟩⟩)
        | (exfalso
           apply HNG.out
           simp_all
           omega)
        | trace_state
theorem RefLook_any (A : Option Addr) (n c : Nat) (b : List UInt8) (w : World) (hB : BytesAt w A b) (hn : b.length = n) (hl : n ≤ c) (hc : c ≤ 9223372036854775807) :
    Calls Try.prog 16 #[.slice A n c] w (Told w b) := by
  by_cases h : n = 64
  · subst h
    exact RefLook_64 A c b w hn hB ⟨hl, hc⟩
  · exact RefLook_len A n c b w hn h (by omega)
end Go.Proofs.Ytlnahmgcjaodkaa
