/- Bytes that are handed in stay and are not kept, and packets that are answered share no memory; for every list of packets and every place. -/
import Derived.Test.YtnbfdgccaacdiaaRows
import Derived.Test.YtnbfdgccaacdiaaBagOwnD
import Derived.Test.YtnbfdgccaacdiaaLawBare
import Derived.JoinedCond
import Derived.OpenShut
import Derived.Deep.CutBlock
namespace Go.Proofs.Ytnbfdgccaacdiaa.lawBagOwn
open Go Go.RowKit Go.ChangeShapes Go.WideShapes Go.ChangeAt
set_option linter.unusedVariables false
set_option linter.unusedSimpArgs false
open By (BytesAt u8s)
open Own
/-- The list and the packet put together. -/
def All (F : List Nat) (n7 n8 n9 g gm : Nat) (w w9 : World) (d r : Bg) (Bm : Option Addr) (cm n : Nat) (B2 : Option Addr) (l2 : List Pk) (b1 pb : Nat) (cs1 : Array Value) (fr ds : Value) (A : Option Addr) (m c : Nat) (N : Nat) (s : Value) (cur : World) : Prop :=
  ∃ (AA : Option Addr) (cA : Nat) (xs : List Value), s = .slice AA N cA ∧ (N ≤ cA ∧ cA ≤ 9223372036854775807) ∧ Rg F n7 n8 n9 g gm w w9 d r Bm cm n B2 l2 b1 pb cs1 fr ds A m c cur ∧ cur.ownsRow n9 31 3 (.slice AA N cA) N xs ∧ Hd xs N 200 F n9 cur
set_option maxRecDepth 100000 in
set_option maxHeartbeats 32000000 in
theorem walk (A : Option Addr) (c : Nat) (l : List Pk) (kk : Int) (w : World) (hP : PksAt (fun x => x < w.heap.size) w A l) (hc : l.length ≤ c) (hm : c * 40 ≤ 140737488351232) (hl : ∀ p ∈ l, p.d.length ≤ 140737488351232) (hk : -9223372036854775808 ≤ kk ∧ kk ≤ 9223372036854775807) :
    Calls Try.prog 4 #[.slice A l.length c, .int .i64 kk] w (LK.True_ w) := by
  have HO := Lib.hid hP
  have HSL := Lib.hid hl
  clear hP hl
  go_enter Try.func4, Try.ntmps4
  go_wp2_with fail
  refine (awake_any w).mono ?_
  rintro e w1 ⟨rfl, hb⟩
  have HX1 := Lib.hid hb
  clear hb
  go_wp2_with fail
  refine (New_any w1).mono ?_
  rintro e w2 ⟨rfl, hw2⟩
  have HPL := Lib.hid (pl0 HX1.out hw2)
  have HG := Lib.hid (show w1.heap.size < w2.heap.size by rw [hw2]; simp)
  clear hw2
  unfold bagZ at HPL
  go_upto_region 5 with (fail)
  generalize w2.alloc (.cells _ 28) = w3 at HPL ⊢
  generalize w1.heap.size = g at HPL HG ⊢
  generalize w2.heap.size = gm at HPL HG ⊢
  go_wp2_with fail
  go_loopw [30] (fun i wx => ∃ (j : Nat) (b : Bg) (Bm : Option Addr) (cm : Nat), i = .int .i64 (j : Int) ∧ j ≤ l.length ∧ Hid (Pl (fun x => x ≠ g ∧ x ≠ gm) g gm w wx b b Bm cm j)) (fun i _ => l.length - (intOf i).toNat)
  case atStart => exact ⟨0, _, _, _, rfl, by omega, HPL⟩
  case round =>
    clear HPL
    obtain ⟨j, b, Bm, cm, rfl, hj, HP⟩ := hrel
    by_cases hlt : j < l.length
    · obtain ⟨bo, oo, e1, hbo, _, hxs⟩ := HO.out (by omega)
      as_aux_lemma =>
        -- BEGIN
        subst e1
        obtain ⟨B1, c1, t0, t1, t2, hD1⟩ := hxs j l[j] (List.getElem?_eq_getElem hlt)
        have a0 := (HP.out.below.cell (p := ⟨bo, oo + j * 3, none⟩) hbo).trans t0
        have a1 := (HP.out.below.cell (p := ⟨bo, oo + j * 3 + 1, none⟩) hbo).trans t1
        have a2 := (HP.out.below.cell (p := ⟨bo, oo + j * 3 + 2, none⟩) hbo).trans t2
        have HL1 := Lib.hid (HSL.out _ (List.getElem_mem hlt))
        have hD2 := hD1.below HP.out.below
        clear hxs hbo hD1 t0 t1 t2
        generalize l[j] = p at a0 a1 a2 HL1 hD2
        have hal := (Below.refl _ wr).alloc (Nat.le_refl _) (.cells #[.int .i64 p.frm, .int .i64 p.dst, .slice B1 p.d.length c1] 31)
        have HP4 := Lib.hid (HP.out.keep hal)
        have HOW := Lib.hid (Whole.new wr 31 #[.int .i64 p.frm, .int .i64 p.dst, .slice B1 p.d.length c1])
        have HD4 := Lib.hid (hD2.below hal)
        have HPB := Lib.hid (show wr.heap.size ≠ g ∧ wr.heap.size ≠ gm from ⟨HP.out.hz.1, HP.out.hz.2.1⟩)
        clear hal hD2
        go_upto_region 8 with (fail)
        clear a0 a1 a2 HP
        generalize wr.alloc (.cells #[.int .i64 p.frm, .int .i64 p.dst, .slice B1 p.d.length c1] 31) = w4 at HP4 HOW HD4 ⊢
        generalize wr.heap.size = pb at HOW HPB ⊢
        have HLX := Lib.hid (show p.d.length ≤ 140737488355328 ∧ p.d.length + 2 ≤ 140737488355328 by have := HL1.out; omega)
        have o2 : w4.cell? ⟨pb, 2, none⟩ = some (.slice B1 p.d.length c1) := HOW.out.cell 2
        have o2' : (w4.alloc (.cells #[] 5)).cell? ⟨pb, 2, none⟩ = some (.slice B1 p.d.length c1) := (Whole.alloc HOW.out _).cell 2
        obtain ⟨i0, hi, hz0, hz1, hz2⟩ := info_parts By.info_u8
        go_wp2_with (first
          | (at_builtin; refine By.app_all rfl (.tmp 34) (.tmp 36) rfl B1 c1 _ p.d rfl HD4.out.bytes _ rfl rfl rfl HLX.out.1 ?_; intro A5 n5 c5 w5 hm5; obtain ⟨HN5, -, HO5, HF5, -, -⟩ := hm5; have e5 := HN5.out; subst e5; have HZ5 := Lib.hid HF5.out.size)
          | (at_builtin; refine wpList_append_own_at _ rfl (.tmp 37) (.tmp 38) 29 rfl w4.heap.size 5 i0 (.int .u8 0) 1 1 Try.underlying29 hi hz0 hz1 hz2 rfl (by decide) (.slice A5 p.d.length c5) p.d.length (u8s p.d) rfl (HO5.out.alloc _) ⟨w5.heap.size, 0, none⟩ 2 2 (u8s [91, 92]) rfl rfl (World.news_of_block (cs := (u8s [91, 92]).toArray) (t := 5) (fr := (0, 0)) (heap_alloc_new w5 _)) By.one_u8 (by have := HLX.out; unfold maxLen; omega) (by have := HLX.out; omega) (by rw [World.size_alloc]; have := HZ5.out; omega) ?_; intro v6 w6 ho6 hg6 _ _; have HO6 := Lib.hid ho6; have HM6 := Lib.hid (((Mod.refl _ w5).alloc _).grown hg6 (F := (Value.slice A5 p.d.length c5).ownBlock.toList) (fun k hk => .inl (by rw [hk]; simp))); clear ho6 hg6))
        have hb6 : Below w4.heap.size w4 w6 := HF5.out.trans (HM6.out.below HZ5.out (fun k hk => (HO5.out.lt k (by simpa using hk)).1))
        have hL2 : (u8s p.d ++ u8s [91, 92]) = u8s (p.d ++ [91, 92]) := (By.u8s_append _ _).symm
        obtain ⟨f, cf, e6, hf1, hf2, hf3, hf4⟩ := own_full (n := p.d.length) (m := 1) HO6.out
        subst e6
        rw [show p.d.length + (1 + 1) = p.d.length + 2 from rfl]
        have HOF := Lib.hid (show w6.ownsRow w4.heap.size 5 1 (.slice (some ⟨f, 0, none⟩) (p.d.length + 2) cf) (p.d.length + 2) (u8s (p.d ++ [91, 92])) by have := HO6.out; rw [hL2] at this; exact this)
        have HFF := Lib.hid (show f ≠ g ∧ f ≠ gm ∧ f ≠ pb ∧ w.heap.size ≤ f by
          have h1 := HP4.out.bag.lt
          have h2 := HP4.out.blk.lt
          have h3 := HOW.out.lt
          have h4 := HP4.out.below.size
          omega)
        have HP6 := Lib.hid ((HP4.out.other (S' := fun x => (x ≠ g ∧ x ≠ gm) ∧ x ≠ f) (fun x hx hs => ⟨hs, by omega⟩) (fun h => h.1.1 rfl) (fun h => h.1.2 rfl)).keep hb6)
        have HW6 := Lib.hid ((Mod.of_below hb6 []).whole HOW.out (by simp))
        have HD6 := Lib.hid (HD4.out.below hb6)
        have HB6 := Lib.hid (show BytesAt w6 (some ⟨f, 0, none⟩) p.d from fun h0 => by
          obtain ⟨b', o', e, h1, h2⟩ := (BytesAt.own HOF.out) (by rw [List.length_append]; omega)
          exact ⟨b', o', e, h1, fun i x hi => h2 i x (by rw [List.getElem?_append_left (List.getElem?_eq_some_iff.1 hi).1]; exact hi)⟩)
        have HJ := Lib.hid (show j ≤ 4611686018427387904 ∧ j + 1 ≤ 4611686018427387904 by omega)
        have HS7 := Lib.hid (HP6.out.sound.sent p)
        have HSD := Lib.hid (Send_any HP6.out.drew.bag HP6.out.sound HJ.out.1 p (some ⟨f, 0, none⟩) cf HB6.out (fun x hx => ⟨HP6.out.hS x hx, by have h3 : w6.drew.heap.size = w6.heap.size := rfl; omega⟩))
        clear hb6 hL2 HO6 HO5 HM6 HF5 HZ5 HN5 HP4 HOW HD4 o2 o2' hf1 hf2
        have q0 : w6.drew.cell? ⟨pb, 0, none⟩ = some (.int .i64 p.frm) := HW6.out.cell 0
        have q1 : w6.drew.cell? ⟨pb, 1, none⟩ = some (.int .i64 p.dst) := HW6.out.cell 1
        have q2 : w6.drew.cell? ⟨pb, 2, none⟩ = some (.slice B1 p.d.length c1) := HW6.out.cell 2
        have hcf : p.d.length ≤ cf := by omega
        go_cut [30] (fun s wx => s = .int .i64 (j : Int) ∧ Hid (BagAt (fun x => (x ≠ g ∧ x ≠ gm) ∧ x ≠ f) wx g (sent b p).ps (sent b p).s (sent b p).q) ∧ Hid (Mod [g] w6 wx))
        case first =>
          go_region_with (go_at_call 19; refine HSD.out.mono ?_; rintro e w8 ⟨rfl, HB8, HM8⟩)
          all_goals
            go_wp2_with fail
            go_meet
            exact ⟨rfl, HB8, Lib.hid HM8.out.from_drew⟩
        case rest =>
          obtain ⟨rfl, hB7, hm7⟩ := hcut
          have HP7 := Lib.hid ((HP6.out.more (Nat.le_succ j)).bagged (b' := sent b p) hB7.out hm7.out HS7.out)
          have HW7 := Lib.hid (hm7.out.whole HW6.out (by simpa using HPB.out.1))
          have HF7 := Lib.hid (hm7.out.own HOF.out (far_f HFF.out.1))
          have HD7 := Lib.hid ((HD6.out.mod hm7.out (by intro x hx; rw [List.mem_singleton.1 hx]; have := HP6.out.far; omega)).mono (S' := fun x => (x ≠ g ∧ x ≠ gm) ∧ x ≠ f) (fun x _ hs => by have := HP6.out.far; have := HFF.out; exact ⟨⟨by omega, by omega⟩, by omega⟩))
          have HSB := Lib.hid HP6.out.sound
          clear q0 q1 q2 hB7 hm7 HP6 HW6 HOF HD6 HB6 HSD
          have q0 : wc.cell? ⟨pb, 0, none⟩ = some (.int .i64 p.frm) := HW7.out.cell 0
          have q1 : wc.cell? ⟨pb, 1, none⟩ = some (.int .i64 p.dst) := HW7.out.cell 1
          have q2 : wc.cell? ⟨pb, 2, none⟩ = some (.slice B1 p.d.length c1) := HW7.out.cell 2
          obtain ⟨m0, m1, m2⟩ := HP7.out.cells
          go_wp2_with fail
          refine (RefSend_raw HP7.out.pks HSB.out HJ.out.1 cm HP7.out.le p B1 c1 HD7.out (fun x hx => ⟨HP7.out.hS x hx, by have := (HF7.out.lt f (by simp [Value.ownBlock])).2; omega⟩)).mono ?_
          rintro e w8 ⟨B8, c8, rfl, hC8, hP8, hb⟩
          have HP8 := Lib.hid (HP7.out.keep hb)
          have HW8 := Lib.hid ((Mod.of_below hb []).whole HW7.out (by simp))
          have HF8 := Lib.hid ((Mod.of_below hb []).own HF7.out (by simp))
          have HD8 := Lib.hid (HD7.out.below hb)
          have HR8 := Lib.hid hP8.out
          have HC8 := Lib.hid hC8.out
          clear q0 q1 q2 m0 m1 m2 hb hP8 hC8 HP7 HW7 HF7 HD7
          obtain ⟨m0, m1, m2⟩ := HP8.out.cells
          have f0 := HP8.out.blk.frozen 0
          have f1 := HP8.out.blk.frozen 1
          have f2 := HP8.out.blk.frozen 2
          go_upto_region 11 with (fail)
          have hm9 := mod3 w8 gm 0 1 2 (.slice B8 (sent b p).ps.length c8) (.int .i64 (sent b p).s) (.int .i64 (sent b p).q)
          have HP9 := Lib.hid (HP8.out.put (r' := sent b p) HR8.out HC8.out HS7.out)
          have HW9 := Lib.hid (hm9.whole HW8.out (by simpa using HPB.out.2))
          have HF9 := Lib.hid (hm9.own HF8.out (far_f HFF.out.2.1))
          have HD9 := Lib.hid (HD8.out.mod hm9 (by intro x hx; rw [List.mem_singleton.1 hx]; exact fun h => h.1.2 rfl))
          clear m0 m1 m2 f0 f1 f2 hm9 HP8 HW8 HF8 HD8 HR8 HC8
          generalize ((w8.setCell _ _).setCell _ _).setCell _ _ = w9 at HP9 HW9 HF9 HD9 ⊢
          have q2 : w9.cell? ⟨pb, 2, none⟩ = some (.slice B1 p.d.length c1) := HW9.out.cell 2
          have hcv1 := By.conv_of (n := p.d.length + 2) (c := cf) (by simp) (BytesAt.own HF9.out)
          have hcv2 := By.conv_of (c := c1) rfl HD9.out.bytes
          have hcat := cat_no p.d
          go_wp2_with fail
          clear q2 hcv1 hcv2 hcat
          go_loopw [10, 67] (fun _ i wr => ∃ (k2 : Nat) (ys : List Value), i = .int .i64 (k2 : Int) ∧ k2 ≤ p.d.length + 2 ∧ Hid (wr.ownsRow w4.heap.size 5 1 (.slice (some ⟨f, 0, none⟩) (p.d.length + 2) cf) (p.d.length + 2) ys) ∧ Hid (Mod [f] w9 wr)) (fun _ i _ => p.d.length + 2 - (intOf i).toNat)
          case atStart => exact ⟨0, _, rfl, by omega, HF9, Lib.hid (Mod.refl _ _)⟩
          case round =>
            obtain ⟨k2, ys, rfl, hk2, HR, HM⟩ := hrel
            by_cases hkn : k2 < p.d.length + 2
            · have hys := HR.out.1
              rw [Nat.mul_one] at hys
              obtain ⟨y, c1⟩ : ∃ y, wr.cell? ⟨f, k2, none⟩ = some y := ⟨ys[k2]'(by omega), rowb_cell HR.out (List.getElem?_eq_getElem _)⟩
              have fz := rowb_frozen HR.out k2
              have HNX := Lib.hid ((HR.out.stored k2 (.int .u8 120)).1)
              have hp2 : k2 < p.d.length + 2 := hkn
              clear hys
              go_wp2_with fail
              go_roundw
              case rel => exact ⟨k2 + 1, _, rfl, by omega, HNX, Lib.hid (HM.out.store (p := ⟨f, k2, none⟩) (.inl (by simp)) _)⟩
              case measure => simp only [intOf]; omega
            · have HPN := Lib.hid ((HP9.out.mod1 HM.out (fun h => h.2 rfl) HFF.out.1 HFF.out.2.1 HFF.out.2.2.2).other (S' := fun x => x ≠ g ∧ x ≠ gm) (fun x _ hs => hs.1) (fun h => h.1 rfl) (fun h => h.2 rfl))
              go_wp2_with fail
              go_roundw
              case rel => exact ⟨j + 1, sent b p, B8, c8, rfl, by omega, HPN⟩
              case measure => simp only [intOf]; omega
        -- END
    · obtain ⟨wa, rfl⟩ : ∃ y, y = wr := ⟨_, rfl⟩
      have HPW := Lib.hid (HP.out.hS)
      go_wp2_with fail
      refine (Double_any HP.out.bag HP.out.sound kk HP.out.hS).mono ?_
      rintro e w5 ⟨er, rfl, hB, hm5⟩
      have HS5 := Lib.hid (dbl_sound HP.out.sound kk)
      have HSR := Lib.hid HP.out.soundr
      have HP5 := Lib.hid (HP.out.bagged (b' := dbl b kk) hB.out hm5.out HS5.out)
      clear hB hm5 HP HPW
      obtain ⟨m0, m1, m2⟩ := HP5.out.cells
      go_wp2_with fail
      refine (RefDouble_any HP5.out.pks HSR.out cm HP5.out.le kk HP5.out.hS).mono ?_
      rintro e w6 ⟨B6, c6, er2, rfl, hc6, hp6, hb⟩
      have HP6 := Lib.hid (HP5.out.keep hb)
      have HC6 := Lib.hid hc6.out
      have HK6 := Lib.hid hp6.out
      clear m0 m1 m2 hb hc6 hp6 HP5
      obtain ⟨m0, m1, m2⟩ := HP6.out.cells
      have f0 := HP6.out.blk.frozen 0
      have f1 := HP6.out.blk.frozen 1
      have f2 := HP6.out.blk.frozen 2
      go_upto_region 21 with (fail)
      have HP7 := Lib.hid (HP6.out.put (r' := dbl b kk) HK6.out HC6.out HS5.out)
      clear m0 m1 m2 f0 f1 f2 HP6 HK6 HC6
      generalize ((w6.setCell _ _).setCell _ _).setCell _ _ = w7 at HP7 ⊢
      generalize dbl b kk = d at *
      have HSH := Lib.hid (fun p hp => Nat.le_trans (HP7.out.sound.short p hp) (by decide : 200 ≤ 140737488355328))
      have HPR := Lib.hid (HP7.out.other (S' := fun x => (x ≠ g ∧ x ≠ gm) ∧ x < w7.heap.size) (fun x hx hs => ⟨hs, hx⟩) (fun h => h.1.1 rfl) (fun h => h.1.2 rfl))
      have HLW := Lib.hid (show g < w7.heap.size ∧ gm < w7.heap.size ∧ w.heap.size ≤ w7.heap.size from ⟨HP7.out.bag.lt, HP7.out.blk.lt, HP7.out.below.size⟩)
      have H48 := Lib.hid HP7.out.sound.le
      have H200 := Lib.hid HP7.out.sound.short
      go_wp2_with fail
      refine (List_own HP7.out.bag HSH.out).mono ?_
      rintro e w8 ⟨rfl, hO1, hb8⟩
      have HP8 := Lib.hid (HPR.out.keep hb8.out)
      have HQ8 := Lib.hid (HP7.out.keep hb8.out)
      obtain ⟨cs1, hw1, hz1, hput⟩ := hO1.out
      have HW8 := Lib.hid hw1
      have HZ1 := Lib.hid hz1
      have HU8 := Lib.hid hput
      clear hO1 hb8 hw1 hz1 hput HP7 HPR
      go_wp2_with fail
      refine (List_any HQ8.out.bag HSH.out).mono ?_
      rintro e w9 ⟨BL2, rfl, hO2, hb9⟩
      have HT9 := Lib.hid (hO2.out.at (S := fun x => w8.heap.size ≤ x ∧ x < w9.heap.size) (fun x h1 h2 => ⟨h1, h2⟩))
      have HP9 := Lib.hid (HP8.out.keep hb9.out)
      have HW9 := Lib.hid ((Mod.of_below hb9.out []).whole HW8.out (by simp))
      have HU9 := Lib.hid (HU8.out.mod (Mod.of_below hb9.out []) (by simp))
      have HLT := Lib.hid (show w7.heap.size < w8.heap.size ∧ w8.heap.size ≤ w9.heap.size from ⟨HW8.out.lt, hb9.out.size⟩)
      have HBW9 := Lib.hid hb9.out
      clear hO2 hb9 HP8 HQ8 HW8
      obtain ⟨F, HFS⟩ : ∃ F : List Nat, Hid (∀ x, x ∈ F ↔ w7.heap.size ≤ x ∧ x < w8.heap.size) := ⟨List.range' w7.heap.size (w8.heap.size - w7.heap.size), Lib.hid (fun x => by rw [List.mem_range'_1]; have := HLT.out; omega)⟩
      have HSN := Lib.hid (HS5.out.mono (show j ≤ l.length by omega))
      have HK9 := Lib.hid (show Kt F w7.heap.size w8.heap.size w9.heap.size g gm w w9 d d B6 c6 l.length BL2 d.ps w9 from ⟨(HP9.out.more (by omega)), HT9.out, Holds.refl _, Nat.le_refl _, HFS.out, ⟨HLW.out.1, HLW.out.2.1, HLT.out.1, HLT.out.2, HLW.out.2.2⟩⟩)
      have HONE := Lib.hid (Own.Put.one HU9.out HZ1.out)
      have HH9 := Lib.hid (show Hd cs1.toList d.ps.length 200 F w9.heap.size w9 from fun j hj => by
        obtain ⟨A', c', _, _, h2, h3⟩ := HU8.out j _ hj (List.getElem?_eq_getElem hj)
        exact ⟨A', _, c', by rw [Array.getElem?_toList]; exact h2, H200.out _ (List.getElem_mem hj), (GwB.own h3 (fun x h1 h4 => .inl ((HFS.out x).2 ⟨by omega, h4⟩))).holds (Holds.of HBW9.out)⟩)
      have HB1 := Lib.hid (show w7.heap.size ∈ F from (HFS.out _).2 ⟨Nat.le_refl _, HLT.out.1⟩)
      clear HP9 HT9 HLW HU8 HU9 HBW9
      generalize w7.heap.size = b1 at HK9 HB1 HW9 HFS HLT ⊢
      generalize w8.heap.size = n8 at HK9 HFS HLT
      go_wp2_with fail
      refine (Look_wide (F := F) (B := w9.heap.size) HK9.out.pl.bag H200.out kk (Nat.le_refl _)).mono ?_
      rintro e w10 ⟨fr, ds, A10, n10, c10, ok, rfl, hn10, HG10, HB10⟩
      have HK10 := Lib.hid (HK9.out.on HB10.out)
      have HW10 := Lib.hid ((Mod.of_below HB10.out []).whole HW9.out (by simp))
      have HH10 := Lib.hid (HH9.out.holds (Holds.of HB10.out))
      have HSP0 := Lib.hid HB10.out.size
      have HBP := Lib.hid (Whole.new w10 31 #[.int .i64 fr, .int .i64 ds, .slice A10 n10 c10])
      have hal := (Below.refl w10.heap.size w10).alloc (Nat.le_refl _) (.cells #[.int .i64 fr, .int .i64 ds, .slice A10 n10 c10] 31)
      have HK11 := Lib.hid (HK10.out.on hal)
      have HW11 := Lib.hid ((Mod.of_below hal []).whole HW10.out (by simp))
      have HH11 := Lib.hid (HH10.out.holds (Holds.of hal))
      have HSP := Lib.hid (show b1 < w9.heap.size ∧ w9.heap.size ≤ w10.heap.size ∧ w9.heap.size ≤ w9.heap.size from ⟨by have := HLT.out; omega, HSP0.out, Nat.le_refl _⟩)
      have HG11 := Lib.hid (HG10.out.holds (Holds.of hal))
      clear hal HK9 HK10 HW10 HH9 HH10 HSP0 HG10 HB10
      go_upto_region 23 with (fail)
      generalize w10.alloc (.cells #[.int .i64 fr, .int .i64 ds, .slice A10 n10 c10] 31) = w11 at HBP HK11 HW11 HH11 HG11 ⊢
      generalize w10.heap.size = pb at HBP HSP ⊢
      have HLC := Lib.hid (show cs1.toList.length = d.ps.length * 3 by rw [Array.length_toList]; exact HZ1.out)
      have HN10 := Lib.hid hn10
      have HR0 := Lib.hid (show Rg F b1 n8 w9.heap.size g gm w w9 d d B6 c6 l.length BL2 d.ps b1 pb cs1 (.int .i64 fr) (.int .i64 ds) A10 n10 c10 w11.drew from
        ⟨HK11.out.on (Below.drew (Below.refl _ w11)), HW11.out, HBP.out, HG11.out.holds (Holds.drew w11), HH11.out.holds (Holds.drew w11), HSP.out⟩)
      clear HBP HK11 HW11 HG11 HH11 hn10
      go_cut [15] (fun s wx => All F b1 n8 w9.heap.size g gm w w9 d d B6 c6 l.length BL2 d.ps b1 pb cs1 (.int .i64 fr) (.int .i64 ds) A10 n10 c10 (d.ps.length + 1) s wx)
      case first =>
        as_aux_lemma =>
          -- BEGIN
          refine wp_region_noPanic ?_
          refine wp_region_held_drew (S := fun y : World => y.cell? ⟨pb, 0, none⟩ = some (.int .i64 fr) ∧ y.cell? ⟨pb, 1, none⟩ = some (.int .i64 ds) ∧ y.cell? ⟨pb, 2, none⟩ = some (.slice A10 n10 c10)) (by kernel_rfl) (HR0.out.cells) (fun hHeld => ?_)
          generalize w11.drew = v0 at HR0 hHeld ⊢
          refine wpAnyH_take (i := 1) (oi := { dst := some 95, op := Op.move (Operand.tmp 11), type := 26, pos := _, after := _, guard := none }) (v := ?_) rfl (by kernel_rfl) (by kernel_rfl) (by kernel_rfl) (fun _ _ _ h => h) (Or.inl ⟨by rfl, ?_⟩) hHeld ?_
          rotate_left
          · (intro w hSw; (try dsimp only at hSw); obtain ⟨hS0, hS1, hS2⟩ := hSw; first | (go_simp; done) | (go_simp; with_reducible rfl))
          try simp only [Act.put, List.setIfInBounds_toArray, List.set_cons_zero, List.set_cons_succ]
          refine wpAnyH_take (i := 3) (oi := { dst := some 97, op := Op.load 31 (Operand.tmp 13), type := 31, pos := _, after := _, guard := none }) (v := ?_) rfl (by kernel_rfl) (by kernel_rfl) (by kernel_rfl) (fun _ _ _ h => h) (Or.inl ⟨by rfl, ?_⟩) hHeld ?_
          rotate_left
          · (intro w hSw; (try dsimp only at hSw); obtain ⟨hS0, hS1, hS2⟩ := hSw; first | (go_simp; done) | (go_simp; with_reducible rfl))
          try simp only [Act.put, List.setIfInBounds_toArray, List.set_cons_zero, List.set_cons_succ]
          refine wpAnyH_ready (rs := [0, 4]) (by kernel_rfl) (by simp) ?_
          refine AllReadyH.cons (o := { dst := some 94, op := Op.buildSlice 26 0 #[], type := 26, pos := _, after := _, guard := none }) rfl (fun K hK => ?_) (AllReadyH.cons (o := { dst := some 98, op := Op.buildSlice 26 1 #[(0, Operand.tmp 97)], type := 26, pos := _, after := _, guard := none }) rfl (fun K hK => ?_) (AllReadyH.nil))
          · skip
            go_simp
            have HR1 := Lib.hid (HR0.out.alloc (.cells #[] 31))
            have HL1 := Lib.hid (show pb < v0.heap.size ∧ w9.heap.size ≤ v0.heap.size from ⟨HR0.out.box.lt, HR0.out.kt.size⟩)
            have HE1 := Lib.hid (World.ownsRow_lit (size := 3) v0 #[] 0 (base := v0.heap.size) (e := 31) (Nat.le_refl _) (by decide) rfl)
            have HZZ1 := Lib.hid (show v0.heap.size ≤ (v0.alloc (.cells #[] 31)).heap.size by rw [World.size_alloc]; omega)
            generalize v0.alloc (.cells #[] 31) = v1 at HR1 HE1 HZZ1 ⊢
            generalize v0.heap.size = p1 at HL1 HE1 HZZ1 ⊢
            refine hK.out _ _ (HR1.out.cells) (fun hHeld => ?_)
            clear hK K
            try simp only [Act.put, List.setIfInBounds_toArray, List.set_cons_zero, List.set_cons_succ]
            refine wpAnyH_ready (rs := [2, 4]) (by kernel_rfl) (by simp) ?_
            refine AllReadyH.cons (o := { dst := some 96, op := Op.call { callee := Callee.builtin Builtin.append, args := #[Operand.tmp 94, Operand.tmp 95], argTypes := #[26, 26] }, type := 26, pos := _, after := _, guard := none }) rfl (fun K hK => ?_) (AllReadyH.cons (o := { dst := some 98, op := Op.buildSlice 26 1 #[(0, Operand.tmp 97)], type := 26, pos := _, after := _, guard := none }) rfl (fun K hK => ?_) (AllReadyH.nil))
            · skip
              refine step_app_pks (m := d.ps.length) HE1.out b1 cs1 HR1.out.one HZ1.out HONE.out _ (by have := H48.out; omega) (Nat.le_of_lt (HE1.out.lt _ rfl).2) rfl rfl ?_
              intro GA2 gc2 v2 k1 k2 k3 k4
              simp only [Nat.zero_add] at k1 k3 ⊢
              have HR2 := Lib.hid (HR1.out.app HL1.out HE1.out k4)
              have HA2 := Lib.hid k3
              have HZZ2 := Lib.hid (Nat.le_trans HZZ1.out k4.size)
              clear k1 k2 k3 k4
              refine hK.out _ _ (HR2.out.cells) (fun hHeld => ?_)
              clear hK K
              try simp only [Act.put, List.setIfInBounds_toArray, List.set_cons_zero, List.set_cons_succ]
              refine wpAnyH_ready (rs := [4]) (by kernel_rfl) (by simp) ?_
              refine AllReadyH.cons (o := { dst := some 98, op := Op.buildSlice 26 1 #[(0, Operand.tmp 97)], type := 26, pos := _, after := _, guard := none }) rfl (fun K hK => ?_) (AllReadyH.nil)
              · skip
                go_simp
                have HR3 := Lib.hid (HR2.out.alloc (.cells #[.int .i64 fr, .int .i64 ds, .slice A10 n10 c10] 31))
                have HA3 := Lib.hid (HA2.out.alloc (.cells #[.int .i64 fr, .int .i64 ds, .slice A10 n10 c10] 31))
                have HZZ3 := Lib.hid (Nat.le_trans HZZ2.out (show v2.heap.size ≤ (v2.alloc (.cells #[.int .i64 fr, .int .i64 ds, .slice A10 n10 c10] 31)).heap.size by rw [World.size_alloc]; omega))
                have HW3 := Lib.hid (Whole.new v2 31 #[.int .i64 fr, .int .i64 ds, .slice A10 n10 c10])
                generalize v2.alloc (.cells #[.int .i64 fr, .int .i64 ds, .slice A10 n10 c10] 31) = v3 at HR3 HA3 HZZ3 HW3 ⊢
                generalize v2.heap.size = p3 at HW3 ⊢
                refine hK.out _ _ (HR3.out.cells) (fun hHeld => ?_)
                clear hK K
                try simp only [Act.put, List.setIfInBounds_toArray, List.set_cons_zero, List.set_cons_succ]
                refine wpAnyH_ready (rs := [5]) (by kernel_rfl) (by simp) ?_
                refine AllReadyH.cons (o := { dst := some 99, op := Op.call { callee := Callee.builtin Builtin.append, args := #[Operand.tmp 96, Operand.tmp 98], argTypes := #[26, 26] }, type := 26, pos := _, after := _, guard := none }) rfl (fun K hK => ?_) (AllReadyH.nil)
                · skip
                  refine step_app_pks (m := 1) HA3.out p3 #[.int .i64 fr, .int .i64 ds, .slice A10 n10 c10] HW3.out rfl (by intro u hu; simp at hu; rcases hu with rfl | rfl | rfl <;> rfl) _ (by have := H48.out; omega) HZZ3.out rfl rfl ?_
                  intro AA cA v4 k1 k2 k3 k4
                  have HR4 := Lib.hid (HR3.out.app HL1.out HA3.out k4)
                  have HAL := Lib.hid (own_low k3 HL1.out.2)
                  have HCA := Lib.hid (And.intro k1 k2)
                  clear k1 k2 k3 k4
                  refine hK.out _ _ (HR4.out.cells) (fun hHeld => ?_)
                  clear hK K
                  try simp only [Act.put, List.setIfInBounds_toArray, List.set_cons_zero, List.set_cons_succ]
                  refine wpAnyH_take (i := 6) (oi := { dst := some 15, op := Op.assign (Operand.tmp 99), type := 26, pos := _, after := _, guard := none }) (v := ?_) rfl (by kernel_rfl) (by kernel_rfl) (by kernel_rfl) (fun _ _ _ h => h) (Or.inl ⟨by rfl, ?_⟩) hHeld ?_
                  rotate_left
                  · (intro w hSw; (try dsimp only at hSw); obtain ⟨hS0, hS1, hS2⟩ := hSw; first | (go_simp; done) | (go_simp; with_reducible rfl))
                  try simp only [Act.put, List.setIfInBounds_toArray, List.set_cons_zero, List.set_cons_succ]
                  refine wpAnyH_done (by kernel_rfl) ?_ _
                  refine NoPanic.normal ?_
                  go_wp2_with fail
                  go_meet
                  exact ⟨AA, cA, _, rfl, HCA.out, HR4.out, HAL.out, HR4.out.hd.snoc HLC.out HN10.out HR4.out.gw⟩
            · skip
              go_simp
              have HR5 := Lib.hid (HR1.out.alloc (.cells #[.int .i64 fr, .int .i64 ds, .slice A10 n10 c10] 31))
              have HE5 := Lib.hid (HE1.out.alloc (.cells #[.int .i64 fr, .int .i64 ds, .slice A10 n10 c10] 31))
              have HZZ5 := Lib.hid (Nat.le_trans HZZ1.out (show v1.heap.size ≤ (v1.alloc (.cells #[.int .i64 fr, .int .i64 ds, .slice A10 n10 c10] 31)).heap.size by rw [World.size_alloc]; omega))
              have HW5 := Lib.hid (Whole.new v1 31 #[.int .i64 fr, .int .i64 ds, .slice A10 n10 c10])
              have HN5 := Lib.hid (show v1.heap.size ≠ p1 from Ne.symm (Nat.ne_of_lt (HE1.out.lt _ rfl).2))
              generalize v1.alloc (.cells #[.int .i64 fr, .int .i64 ds, .slice A10 n10 c10] 31) = v5 at HR5 HE5 HZZ5 HW5 ⊢
              generalize v1.heap.size = p5 at HW5 HN5 ⊢
              refine hK.out _ _ (HR5.out.cells) (fun hHeld => ?_)
              clear hK K
              try simp only [Act.put, List.setIfInBounds_toArray, List.set_cons_zero, List.set_cons_succ]
              refine wpAnyH_ready (rs := [2]) (by kernel_rfl) (by simp) ?_
              refine AllReadyH.cons (o := { dst := some 96, op := Op.call { callee := Callee.builtin Builtin.append, args := #[Operand.tmp 94, Operand.tmp 95], argTypes := #[26, 26] }, type := 26, pos := _, after := _, guard := none }) rfl (fun K hK => ?_) (AllReadyH.nil)
              · skip
                refine step_app_pks (m := d.ps.length) HE5.out b1 cs1 HR5.out.one HZ1.out HONE.out _ (by have := H48.out; omega) (Nat.le_of_lt (HE5.out.lt _ rfl).2) rfl rfl ?_
                intro GA6 gc6 v6 k1 k2 k3 k4
                simp only [Nat.zero_add] at k1 k3 ⊢
                have HR6 := Lib.hid (HR5.out.app HL1.out HE5.out k4)
                have HA6 := Lib.hid k3
                have HZZ6 := Lib.hid (Nat.le_trans HZZ5.out k4.size)
                have HW6 := Lib.hid (k4.whole HW5.out (fun hx => HN5.out (blk_of (by simpa using hx))))
                clear k1 k2 k3 k4
                refine hK.out _ _ (HR6.out.cells) (fun hHeld => ?_)
                clear hK K
                try simp only [Act.put, List.setIfInBounds_toArray, List.set_cons_zero, List.set_cons_succ]
                refine wpAnyH_ready (rs := [5]) (by kernel_rfl) (by simp) ?_
                refine AllReadyH.cons (o := { dst := some 99, op := Op.call { callee := Callee.builtin Builtin.append, args := #[Operand.tmp 96, Operand.tmp 98], argTypes := #[26, 26] }, type := 26, pos := _, after := _, guard := none }) rfl (fun K hK => ?_) (AllReadyH.nil)
                · skip
                  refine step_app_pks (m := 1) HA6.out p5 #[.int .i64 fr, .int .i64 ds, .slice A10 n10 c10] HW6.out rfl (by intro u hu; simp at hu; rcases hu with rfl | rfl | rfl <;> rfl) _ (by have := H48.out; omega) HZZ6.out rfl rfl ?_
                  intro AA cA v7 k1 k2 k3 k4
                  have HR7 := Lib.hid (HR6.out.app HL1.out HA6.out k4)
                  have HAL := Lib.hid (own_low k3 HL1.out.2)
                  have HCA := Lib.hid (And.intro k1 k2)
                  clear k1 k2 k3 k4
                  refine hK.out _ _ (HR7.out.cells) (fun hHeld => ?_)
                  clear hK K
                  try simp only [Act.put, List.setIfInBounds_toArray, List.set_cons_zero, List.set_cons_succ]
                  refine wpAnyH_take (i := 6) (oi := { dst := some 15, op := Op.assign (Operand.tmp 99), type := 26, pos := _, after := _, guard := none }) (v := ?_) rfl (by kernel_rfl) (by kernel_rfl) (by kernel_rfl) (fun _ _ _ h => h) (Or.inl ⟨by rfl, ?_⟩) hHeld ?_
                  rotate_left
                  · (intro w hSw; (try dsimp only at hSw); obtain ⟨hS0, hS1, hS2⟩ := hSw; first | (go_simp; done) | (go_simp; with_reducible rfl))
                  try simp only [Act.put, List.setIfInBounds_toArray, List.set_cons_zero, List.set_cons_succ]
                  refine wpAnyH_done (by kernel_rfl) ?_ _
                  refine NoPanic.normal ?_
                  go_wp2_with fail
                  go_meet
                  exact ⟨AA, cA, _, rfl, HCA.out, HR7.out, HAL.out, HR7.out.hd.snoc HLC.out HN10.out HR7.out.gw⟩
          · skip
            go_simp
            have HR8 := Lib.hid (HR0.out.alloc (.cells #[.int .i64 fr, .int .i64 ds, .slice A10 n10 c10] 31))
            have HW8 := Lib.hid (Whole.new v0 31 #[.int .i64 fr, .int .i64 ds, .slice A10 n10 c10])
            generalize v0.alloc (.cells #[.int .i64 fr, .int .i64 ds, .slice A10 n10 c10] 31) = v8 at HR8 HW8 ⊢
            generalize v0.heap.size = p8 at HW8 ⊢
            refine hK.out _ _ (HR8.out.cells) (fun hHeld => ?_)
            clear hK K
            try simp only [Act.put, List.setIfInBounds_toArray, List.set_cons_zero, List.set_cons_succ]
            refine wpAnyH_ready (rs := [0]) (by kernel_rfl) (by simp) ?_
            refine AllReadyH.cons (o := { dst := some 94, op := Op.buildSlice 26 0 #[], type := 26, pos := _, after := _, guard := none }) rfl (fun K hK => ?_) (AllReadyH.nil)
            · skip
              go_simp
              have HR9 := Lib.hid (HR8.out.alloc (.cells #[] 31))
              have HW9 := Lib.hid (HW8.out.alloc (.cells #[] 31))
              have HL9 := Lib.hid (show pb < v8.heap.size ∧ w9.heap.size ≤ v8.heap.size from ⟨HR8.out.box.lt, HR8.out.kt.size⟩)
              have HE9 := Lib.hid (World.ownsRow_lit (size := 3) v8 #[] 0 (base := v8.heap.size) (e := 31) (Nat.le_refl _) (by decide) rfl)
              have HN9 := Lib.hid (show p8 ≠ v8.heap.size from Nat.ne_of_lt HW8.out.lt)
              have HZZ9 := Lib.hid (show v8.heap.size ≤ (v8.alloc (.cells #[] 31)).heap.size by rw [World.size_alloc]; omega)
              generalize v8.alloc (.cells #[] 31) = v9 at HR9 HW9 HE9 HZZ9 ⊢
              generalize v8.heap.size = p9 at HL9 HE9 HN9 HZZ9 ⊢
              refine hK.out _ _ (HR9.out.cells) (fun hHeld => ?_)
              clear hK K
              try simp only [Act.put, List.setIfInBounds_toArray, List.set_cons_zero, List.set_cons_succ]
              refine wpAnyH_ready (rs := [2]) (by kernel_rfl) (by simp) ?_
              refine AllReadyH.cons (o := { dst := some 96, op := Op.call { callee := Callee.builtin Builtin.append, args := #[Operand.tmp 94, Operand.tmp 95], argTypes := #[26, 26] }, type := 26, pos := _, after := _, guard := none }) rfl (fun K hK => ?_) (AllReadyH.nil)
              · skip
                refine step_app_pks (m := d.ps.length) HE9.out b1 cs1 HR9.out.one HZ1.out HONE.out _ (by have := H48.out; omega) (Nat.le_of_lt (HE9.out.lt _ rfl).2) rfl rfl ?_
                intro GA10 gc10 v10 k1 k2 k3 k4
                simp only [Nat.zero_add] at k1 k3 ⊢
                have HR10 := Lib.hid (HR9.out.app HL9.out HE9.out k4)
                have HA10 := Lib.hid k3
                have HZZ10 := Lib.hid (Nat.le_trans HZZ9.out k4.size)
                have HW10 := Lib.hid (k4.whole HW9.out (fun hx => HN9.out (blk_of (by simpa using hx))))
                clear k1 k2 k3 k4
                refine hK.out _ _ (HR10.out.cells) (fun hHeld => ?_)
                clear hK K
                try simp only [Act.put, List.setIfInBounds_toArray, List.set_cons_zero, List.set_cons_succ]
                refine wpAnyH_ready (rs := [5]) (by kernel_rfl) (by simp) ?_
                refine AllReadyH.cons (o := { dst := some 99, op := Op.call { callee := Callee.builtin Builtin.append, args := #[Operand.tmp 96, Operand.tmp 98], argTypes := #[26, 26] }, type := 26, pos := _, after := _, guard := none }) rfl (fun K hK => ?_) (AllReadyH.nil)
                · skip
                  refine step_app_pks (m := 1) HA10.out p8 #[.int .i64 fr, .int .i64 ds, .slice A10 n10 c10] HW10.out rfl (by intro u hu; simp at hu; rcases hu with rfl | rfl | rfl <;> rfl) _ (by have := H48.out; omega) HZZ10.out rfl rfl ?_
                  intro AA cA v11 k1 k2 k3 k4
                  have HR11 := Lib.hid (HR10.out.app HL9.out HA10.out k4)
                  have HAL := Lib.hid (own_low k3 HL9.out.2)
                  have HCA := Lib.hid (And.intro k1 k2)
                  clear k1 k2 k3 k4
                  refine hK.out _ _ (HR11.out.cells) (fun hHeld => ?_)
                  clear hK K
                  try simp only [Act.put, List.setIfInBounds_toArray, List.set_cons_zero, List.set_cons_succ]
                  refine wpAnyH_take (i := 6) (oi := { dst := some 15, op := Op.assign (Operand.tmp 99), type := 26, pos := _, after := _, guard := none }) (v := ?_) rfl (by kernel_rfl) (by kernel_rfl) (by kernel_rfl) (fun _ _ _ h => h) (Or.inl ⟨by rfl, ?_⟩) hHeld ?_
                  rotate_left
                  · (intro w hSw; (try dsimp only at hSw); obtain ⟨hS0, hS1, hS2⟩ := hSw; first | (go_simp; done) | (go_simp; with_reducible rfl))
                  try simp only [Act.put, List.setIfInBounds_toArray, List.set_cons_zero, List.set_cons_succ]
                  refine wpAnyH_done (by kernel_rfl) ?_ _
                  refine NoPanic.normal ?_
                  go_wp2_with fail
                  go_meet
                  exact ⟨AA, cA, _, rfl, HCA.out, HR11.out, HAL.out, HR11.out.hd.snoc HLC.out HN10.out HR11.out.gw⟩
          -- END
      case rest =>
        obtain ⟨AA, cA, xs, rfl, hcA, hRg, hrow, hHd⟩ := hcut
        have HCA := Lib.hid hcA
        have HRG := Lib.hid hRg
        have HRW := Lib.hid hrow
        have HHD := Lib.hid hHd
        clear hcA hRg hrow hHd HR0
        -- the list and the packet as one list: its block
        have HPOS := Lib.hid (show 0 < d.ps.length + 1 from Nat.succ_pos _)
        obtain ⟨gA, cA2, hvA, hgA1, hgA2⟩ := HRW.out.form HPOS.out
        injection hvA with eA1 _ eA2
        subst eA1
        clear eA2 cA2
        have HGA := Lib.hid hgA1
        have HXL := Lib.hid (show xs.length = (d.ps.length + 1) * 3 from HRW.out.1)
        have HK12 := Lib.hid HRG.out.kt
        have HO12 := Lib.hid HRG.out.one
        have H49 := Lib.hid (show d.ps.length + 1 ≤ 49 by have := H48.out; omega)
        clear HRG hgA1 hgA2
        generalize d.ps.length + 1 = N at HCA HRW HHD HPOS HXL H49 ⊢
        have HPA := Lib.hid (show Ph F b1 n8 w9.heap.size g gm w w9 d d B6 c6 l.length BL2 d.ps gA N cA 200 wc from ⟨HK12.out, xs, HRW.out, HXL.out, HHD.out⟩)
        clear HRW HHD HXL HK12 HSP HLC HN10 HONE
        clear xs
        go_wp2_with fail
        go_loopw [102] (fun i wx => ∃ j : Nat, i = .int .i64 (j : Int) ∧ j ≤ N ∧ Hid (Ph F b1 n8 w9.heap.size g gm w w9 d d B6 c6 l.length BL2 d.ps gA N cA 200 wx)) (fun i _ => N - (intOf i).toNat)
        case atStart => exact ⟨0, rfl, Nat.zero_le _, HPA⟩
        case round =>
          clear HPA
          obtain ⟨j, rfl, hj, HPA⟩ := hrel
          by_cases hlt : j < N
          · obtain ⟨DA, dn, dc, t0, HDN, HDG⟩ := HPA.out.hdr hlt
            have HT0 := Lib.hid t0
            have hj49 : j < 49 := by have := H49.out; omega
            go_wp2_with fail
            clear t0
            have HPJ := Lib.hid (show wr.cell? ⟨gA, j * 3 + 2, none⟩ = some (.slice DA dn dc) from HT0.out)
            go_loopw [111] (fun i wx => ∃ q : Nat, i = .int .i64 (q : Int) ∧ q ≤ dn ∧ Hid (Ph F b1 n8 w9.heap.size g gm w w9 d d B6 c6 l.length BL2 d.ps gA N cA 200 wx) ∧ Hid (wx.cell? ⟨gA, j * 3 + 2, none⟩ = some (.slice DA dn dc)) ∧ Hid (GwB wx F w9.heap.size DA dn dc)) (fun i _ => dn - (intOf i).toNat)
            case atStart => exact ⟨0, rfl, Nat.zero_le _, HPA, HPJ, HDG⟩
            case round =>
              clear HPA HPJ HDG HT0
              obtain ⟨q, rfl, hq, HPA, HPJ, HDG⟩ := hrel
              by_cases hqn : q < dn
              · obtain ⟨gd, u, cs, eD, z0, f0, HWD, HGD⟩ := HDG.out.cellW hqn
                subst eD
                have t0 := HPJ.out
                obtain ⟨csA, hA⟩ := HPA.out.row
                have HNA := Lib.hid (Whole.ne HWD.out hA (by decide))
                have hq200 : q < 9223372036854775807 := by have := HDN.out; omega
                clear hA
                go_wp2_with fail
                go_roundw
                case rel => exact ⟨q + 1, rfl, hqn, Lib.hid (HPA.out.byte HWD.out HGD.out _ _), Lib.hid ((World.cell?_setCell_far wr ⟨gd, q, none⟩ ⟨gA, j * 3 + 2, none⟩ _ HNA.out).trans HPJ.out), Lib.hid (HDG.out.holds (Holds.store wr ⟨gd, q, none⟩ rfl _))⟩
                case measure => simp only [intOf]; omega
              · obtain rfl : q = dn := by omega
                go_wp2_with fail
                go_roundw
                case rel => exact ⟨j + 1, rfl, hlt, HPA⟩
                case measure => simp only [intOf]; omega
          · obtain ⟨wb, rfl⟩ : ∃ y, y = wr := ⟨_, rfl⟩
            go_wp2_with fail
            go_loopw [128] (fun i wx => ∃ j : Nat, i = .int .i64 (j : Int) ∧ j ≤ N ∧ Hid (Ph F b1 n8 w9.heap.size g gm w w9 d d B6 c6 l.length BL2 d.ps gA N cA (200 + 9 * j) wx)) (fun i _ => N - (intOf i).toNat)
            case atStart => exact ⟨0, rfl, Nat.zero_le _, HPA⟩
            case round =>
              clear HPA
              obtain ⟨j, rfl, hj, HPA⟩ := hrel
              by_cases hlt : j < N
              · have hj49 : j < 49 := by have := H49.out; omega
                go_wp2_with fail
                go_loopw [19] (fun i wx => ∃ q : Nat, i = .int .i64 (q : Int) ∧ q ≤ 9 ∧ Hid (Ph F b1 n8 w9.heap.size g gm w w9 d d B6 c6 l.length BL2 d.ps gA N cA (200 + 9 * j + q) wx)) (fun i _ => 9 - (intOf i).toNat)
                case atStart => exact ⟨0, rfl, by omega, HPA⟩
                case round =>
                  clear HPA
                  obtain ⟨q, rfl, hq, HPA⟩ := hrel
                  by_cases hqn : q < 9
                  · obtain ⟨DA, dn, dc, t0, HDN, HDG⟩ := HPA.out.hdr hlt
                    have HNN := Lib.hid (show dn ≤ 1000 by have := HDN.out; have := H49.out; omega)
                    have hal := Holds.alloc wr (.cells #[.int .u8 200] 5)
                    have HDL := Lib.hid (HDG.out.holds hal)
                    have HPL := Lib.hid (HPA.out.mod (G := []) ((Mod.refl [] wr).alloc (.cells #[.int .u8 200] 5)) (by simp) (by simp) hal)
                    have HSZ := Lib.hid (show w9.heap.size ≤ (wr.alloc (.cells #[.int .u8 200] 5)).heap.size from HPL.out.kt.size)
                    clear hal
                    go_wp2_with (first
                      | (refine list_app_gwb rfl (.tmp 141) (.tmp 142) rfl HDL.out wr.heap.size (.int .u8 200) rfl (Whole.new wr _ _) HNN.out HSZ.out rfl rfl ?_
                         intro DB db w12 k1 k2 k3
                         obtain ⟨csA, hA⟩ := HPL.out.row
                         have HPB := Lib.hid (HPL.out.mod k2 HDL.out.blk (HDL.out.ne hA (by decide)) k3)
                         have HGB := Lib.hid k1
                         clear k1 k2 k3 hA
                         obtain ⟨DC, dn2, dc2, s0, _, _⟩ := HPB.out.hdr hlt
                         have s1 := HPB.out.frozen (j * 3 + 2))
                      | fail)
                    go_roundw
                    case rel => exact ⟨q + 1, rfl, hqn, Lib.hid (HPB.out.set hlt HGB.out (by have := HDN.out; omega) (by omega))⟩
                    case measure => simp only [intOf]; omega
                  · have HP9 := Lib.hid (show Ph F b1 n8 w9.heap.size g gm w w9 d d B6 c6 l.length BL2 d.ps gA N cA (200 + 9 * (j + 1)) wr by
                      have e : 200 + 9 * j + q = 200 + 9 * (j + 1) := by omega
                      rw [← e]
                      exact HPA.out)
                    have e9 : decide ((q : Int) < 9) = false := decide_eq_false (by omega)
                    have e9' : ¬ ((q : Int) < 9) := by omega
                    go_wp2_with fail
                    go_roundw
                    case rel => exact ⟨j + 1, rfl, hlt, HP9⟩
                    case measure => simp only [intOf]; omega
              · go_wp2_with fail
                go_loopw [149] (fun i wx => ∃ q : Nat, i = .int .i64 (q : Int) ∧ q ≤ d.ps.length ∧ Hid (Kt F b1 n8 w9.heap.size g gm w w9 d d B6 c6 l.length BL2 d.ps wx)) (fun i _ => d.ps.length - (intOf i).toNat)
                case atStart => exact ⟨0, rfl, Nat.zero_le _, Lib.hid HPA.out.kt⟩
                case round =>
                  clear HPA
                  obtain ⟨q, rfl, hq, HKT⟩ := hrel
                  by_cases hqn : q < d.ps.length
                  · obtain ⟨u0, z0, f0⟩ := HKT.out.hol.cellAt HW9.out (k := q * 3) (by have := HZ1.out; omega)
                    obtain ⟨u1, z1, f1⟩ := HKT.out.hol.cellAt HW9.out (k := q * 3 + 1) (by have := HZ1.out; omega)
                    obtain ⟨u2, z2, f2⟩ := HKT.out.hol.cellAt HW9.out (k := q * 3 + 2) (by have := HZ1.out; omega)
                    have hq48 : q < 48 := by have := H48.out; omega
                    go_wp2_with fail
                    go_roundw
                    case rel => exact ⟨q + 1, rfl, hqn, Lib.hid (((HKT.out.store (.inl HB1.out) _ _).store (.inl HB1.out) _ _).store (.inl HB1.out) _ _)⟩
                    case measure => simp only [intOf]; omega
                  · obtain rfl : q = d.ps.length := by omega
                    obtain ⟨wd, rfl⟩ : ∃ y, y = wr := ⟨_, rfl⟩
                    go_wp2_with fail
                    refine (Take_wide (F := F) (B := w9.heap.size) HKT.out.pl.bag H200.out kk HKT.out.size).mono ?_
                    rintro e w13 ⟨fr2, ds2, A13, n13, c13, ok2, rfl, hn13, HG13, HB13, HM13⟩
                    have hld := HKT.out.low
                    have HST := Lib.hid (tkn_sound HSN.out kk)
                    have HK13 := Lib.hid (show Kt F b1 n8 w9.heap.size g gm w w13 ⟨tkn d.ps kk, d.s, d.q⟩ d B6 c6 l.length BL2 d.ps w13 from
                      ⟨HKT.out.pl.bagged (b' := ⟨tkn d.ps kk, d.s, d.q⟩) HB13.out HM13.out HST.out, HKT.out.two.mod HM13.out (fun x hx hs => by rw [List.mem_singleton.1 hx] at hs; omega), Holds.refl _, Nat.le_trans HKT.out.size HM13.out.size, HKT.out.spec, hld⟩)
                    have HBQ := Lib.hid (Whole.new w13 31 #[.int .i64 fr2, .int .i64 ds2, .slice A13 n13 c13])
                    have hal := (Below.refl w13.heap.size w13).alloc (Nat.le_refl _) (.cells #[.int .i64 fr2, .int .i64 ds2, .slice A13 n13 c13] 31)
                    have HK14 := Lib.hid (HK13.out.on hal)
                    have HG14 := Lib.hid (HG13.out.holds (Holds.of hal))
                    have HN13 := Lib.hid hn13
                    clear hal HK13 HG13 HKT HB13 HM13 hld hn13
                    go_upto_region 47 with (fail)
                    generalize w13.alloc (.cells #[.int .i64 fr2, .int .i64 ds2, .slice A13 n13 c13] 31) = w14 at HBQ HK14 HG14 ⊢
                    generalize w13.heap.size = qb at HBQ ⊢
                    have t0 : w14.cell? ⟨qb, 2, none⟩ = some (.slice A13 n13 c13) := HBQ.out.cell 2
                    go_wp2_with fail
                    clear t0
                    go_loopw [166] (fun i wx => ∃ q : Nat, i = .int .i64 (q : Int) ∧ q ≤ n13 ∧ Hid (Kt F b1 n8 w9.heap.size g gm w w13 ⟨tkn d.ps kk, d.s, d.q⟩ d B6 c6 l.length BL2 d.ps wx) ∧ Hid (Whole wx qb 31 #[.int .i64 fr2, .int .i64 ds2, .slice A13 n13 c13]) ∧ Hid (GwB wx F w9.heap.size A13 n13 c13)) (fun i _ => n13 - (intOf i).toNat)
                    case atStart => exact ⟨0, rfl, Nat.zero_le _, HK14, HBQ, HG14⟩
                    case round =>
                      clear HK14 HBQ HG14
                      obtain ⟨q, rfl, hq, HKQ, HBQ, HDG⟩ := hrel
                      by_cases hqn : q < n13
                      · obtain ⟨gd, u, cs, eD, z0, f0, HWD, HGD⟩ := HDG.out.cellW hqn
                        subst eD
                        have t0 : wr.cell? ⟨qb, 2, none⟩ = some (.slice (some ⟨gd, 0, none⟩) n13 c13) := HBQ.out.cell 2
                        have HNA := Lib.hid (Whole.ne HWD.out HBQ.out (by decide))
                        have hq200 : q < 9223372036854775807 := by have := HN13.out; omega
                        go_wp2_with fail
                        go_roundw
                        case rel => exact ⟨q + 1, rfl, hqn, Lib.hid (HKQ.out.store HGD.out _ _), Lib.hid (HBQ.out.far (q := ⟨gd, q, none⟩) (Ne.symm HNA.out) _), Lib.hid (HDG.out.holds (Holds.store wr ⟨gd, q, none⟩ rfl _))⟩
                        case measure => simp only [intOf]; omega
                      · obtain rfl : q = n13 := by omega
                        obtain ⟨we, rfl⟩ : ∃ y, y = wr := ⟨_, rfl⟩
                        obtain ⟨m0, m1, m2⟩ := HKQ.out.pl.cells
                        have HLE := Lib.hid (show d.ps.length ≤ 9223372036854775807 by have := H48.out; omega)
                        go_wp2_with fail
                        clear m0 m1 m2
                        refine (RefSameAll_self HKQ.out.two HKQ.out.pl.pks d.ps.length c6 HLE.out).mono ?_
                        rintro e w15 ⟨rfl, hb15⟩
                        have HP15 := Lib.hid ((HKQ.out.pl.keep hb15).other (S' := fun x => x ≠ g ∧ x ≠ gm) (fun x _ hs => hs.1) (fun h => h.1 rfl) (fun h => h.2 rfl))
                        clear hb15 HKQ HBQ HDG
                        obtain ⟨m0, m1, m2⟩ := HP15.out.cells
                        go_wp2_with fail
                        clear m0 m1 m2
                        refine (RefTake_wide HP15.out.pks c6 HP15.out.le H48.out d.s d.q kk HP15.out.hS).mono ?_
                        rintro e w16 ⟨C16, c16, f16, g16, A16, n16, d16, k16, rfl, hC16, hP16, hb16⟩
                        have HP16 := Lib.hid (HP15.out.keep hb16.out)
                        have HC16 := Lib.hid hC16.out
                        have HR16 := Lib.hid hP16.out
                        clear hC16 hP16 hb16 HP15
                        obtain ⟨m0, m1, m2⟩ := HP16.out.cells
                        have f0 := HP16.out.blk.frozen 0
                        have f1 := HP16.out.blk.frozen 1
                        have f2 := HP16.out.blk.frozen 2
                        go_upto_region 55 with (fail)
                        have HP17 := Lib.hid (HP16.out.put (r' := ⟨tkn d.ps kk, d.s, d.q⟩) HR16.out HC16.out HST.out)
                        clear m0 m1 m2 f0 f1 f2 HP16 HR16 HC16
                        generalize ((w16.setCell _ _).setCell _ _).setCell _ _ = w17 at HP17 ⊢
                        have HSQ := Lib.hid (fun p hp => Nat.le_trans (HST.out.short p hp) (by decide : 200 ≤ 140737488355328))
                        have HQ48 := Lib.hid (show (tkn d.ps kk).length ≤ 48 from HST.out.le)
                        have HD := Lib.hid HP17.out.drew
                        have HS := HD.out.cells
                        go_region_held3 (fun v : World => v.cell? ⟨gm, 0, none⟩ = some (.slice C16 (tkn d.ps kk).length c16) ∧ v.cell? ⟨gm, 1, none⟩ = some (.int .i64 d.s) ∧ v.cell? ⟨gm, 2, none⟩ = some (.int .i64 d.q))
                          (first
                            | exact HS
                            | (go_keep; done))
                          (first
                            | (go_at_call 16; with_reducible refine (List_any HD.out.bag HSQ.out).mono ?_; rintro x v ⟨BL, rfl, hp, hb⟩; have HN := Lib.hid (hp.out.at (S := fun _ => True) (fun _ _ _ => trivial)); replace HD := Lib.hid (HD.out.keep hb.out); replace HS := HD.out.cells; clear hp hb)
                            | (go_at_call 15; with_reducible refine (RefSameAll_self HN.out HD.out.pks _ _ (by have := HQ48.out; omega)).mono ?_; rintro x v ⟨rfl, hb⟩; replace HD := Lib.hid (HD.out.keep hb); replace HS := HD.out.cells; clear hb))
                        all_goals
                          go_wp2_with fail
                          go_ret
                          exact ⟨rfl, HD.out.below⟩

theorem own : ownKnob Try.prog.godebug = none := by kernel_rfl
theorem laidOut : laidOutB Try.prog = true := by kernel_rfl
set_option maxRecDepth 100000 in
theorem lifted (os : Os) (started : os.Started) (H : Type) (enc : TypeId × Value → H) :
    ReturnsInHanded {} Try.checked os 4 .any (Rows.bagOwnSpec.pre6 enc Try.prog Try.f4 [] false) (Rows.bagOwnSpec.post enc Try.prog Try.f4 false true false false) := by
  refine LK.lifted_bare (C := Try.checked) (tb := 4) own started (by kernel_rfl) Try.func4 laidOut rfl (by kernel_rfl) (by kernel_rfl) Try.underlying4
    (fun ds h => by
      match ds, h with
      | [_, _], _ => rfl)
    (ChangeSpec.witness6 (enc := enc) (C := Try.checked) false ⟨#[], #[.slice none 0 0, .int .i64 0], []⟩ 8 (by kernel_rfl) (by kernel_rfl) (by kernel_rfl) (by kernel_rfl)) ?_
  intro W base args ds ps hval hA hwt _
  rw [show Try.f4.params.toList = [26, 3] by kernel_rfl] at hA hwt
  have hval' : ∀ (j : Nat) t v, (#[26, 3] : Array TypeId)[j]? = some t → args[j]? = some v → Value.okWide Try.prog W .any base t v := by
    rw [← Try.params4]; exact hval
  clear hval
  obtain ⟨v0, v1, d0, d1, pl0, pl1, rfl, rfl, rfl, h0, h1⟩ := trodAll_two hA
  obtain ⟨A0, c0, ps0, rfl, hP0, hc0, hm0, hl0⟩ := open_packets (hval' 0 26 v0 rfl rfl) h0 hwt (j := 0) rfl rfl
  obtain ⟨n1, rfl, rfl, rfl, hn1⟩ := open_int Try.underlying3 (hval' 1 3 v1 rfl rfl) h1
  have hr1 : -9223372036854775808 ≤ n1 ∧ n1 ≤ 9223372036854775807 := by simpa [Lit.wf, IntKind.min, IntKind.max, IntKind.signed, IntKind.bits] using hn1
  exact walk A0 c0 ps0 n1 W hP0 hc0 hm0 hl0 hr1

/-- The statement. -/
theorem proved : Rows.BagOwnSaid :=
  OpenClaim.holds_of_wide 4 Try.f4 rfl rfl rfl rfl rfl rfl rfl ⟨rfl, rfl, rfl, rfl, rfl⟩ rfl rfl rfl rfl rfl (by kernel_rfl) Try.func4 (by kernel_rfl)
    (of_decide_eq_true (by kernel_rfl)) (by unfold Func.isWrapper; first | (rw [if_pos (by decide +kernel)]; kernel_rfl) | (rw [if_neg (by decide +kernel)]; exact ⟨rfl, rfl⟩))
    (fun os started H enc _ => lifted os started H enc)

end Go.Proofs.Ytnbfdgccaacdiaa.lawBagOwn
