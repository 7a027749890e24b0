/- Without doubling each packet that was sent comes out at most once, unchanged, and what has not come out is still in, in order; for every list of calls of bulk at most 1048576 (the names of the packets are told apart up to 4294967296 calls). -/
import Derived.Test.YtnjgefpgpbodpaaRows
import Derived.Test.YtnjgefpgpbodpaaBagOMath
import Derived.Test.YtnjgefpgpbodpaaLawBare
import Derived.JoinedCond
import Derived.OpenShut
namespace Go.Proofs.Ytnjgefpgpbodpaa.lawBagOnce
open Go Go.RowKit Go.ChangeShapes Go.WideShapes Go.ChangeAt
set_option linter.unusedVariables false
set_option linter.unusedSimpArgs false
open By (BytesAt)
set_option maxRecDepth 100000 in
set_option maxHeartbeats 16000000 in
theorem walk (A : Option Addr) (c : Nat) (l : List Op) (w : World) (hO : OpsAt w A l) (hc : l.length ≤ c) (hm : c ≤ 140737488351232) (hl : l.length ≤ 1048576) :
    Calls Try.prog 4 #[.slice A l.length c] w (LK.True_ w) := by
  have HO := Lib.hid hO
  clear hO
  go_enter Try.func4, Try.ntmps4
  go_wp2_with fail
  refine (awake_any w).mono ?_
  rintro e w1 ⟨rfl, hb⟩
  have HX1 := Lib.hid hb
  clear hb
  go_wp2_with fail
  refine (New_any w1).mono ?_
  rintro e w2 ⟨rfl, hw2⟩
  have HP2 := Lib.hid (start_on HX1.out hw2)
  clear hw2 HX1
  generalize w1.heap.size = g at HP2 ⊢
  go_wp2_with fail
  go_loopw [4, 5, 6, 24] (fun V U n i wr => ∃ (j : Nat) (L : List (Nat × Bool)) (q : Int), i = .int .i64 (j : Int) ∧ j ≤ l.length ∧ n = .int .i64 (outs L : Int) ∧ Hid (On w wr g V U L q j)) (fun _ _ _ i _ => l.length - (intOf i).toNat)
  case atStart => exact ⟨0, [], 0, rfl, Nat.zero_le _, rfl, HP2⟩
  case round =>
    clear HP2
    obtain ⟨j, L, q, rfl, hj, rfl, HP⟩ := hrel
    obtain ⟨V, rfl⟩ : ∃ y, y = u4 := ⟨_, rfl⟩
    obtain ⟨U, rfl⟩ : ∃ y, y = u5 := ⟨_, rfl⟩
    by_cases hlt : j < l.length
    · obtain ⟨bo, oo, e1, hbo, hxs⟩ := HO.out (by omega)
      subst e1
      obtain ⟨B1, c1, t0, t1, t2, t3, t4, hB1, hl1⟩ := hxs j l[j] (List.getElem?_eq_getElem hlt)
      have a0 := (HP.out.bel.cell (p := ⟨bo, oo + j * 5, none⟩) hbo).trans t0
      have a1 := (HP.out.bel.cell (p := ⟨bo, oo + j * 5 + 1, none⟩) hbo).trans t1
      have a2 := (HP.out.bel.cell (p := ⟨bo, oo + j * 5 + 2, none⟩) hbo).trans t2
      have a3 := (HP.out.bel.cell (p := ⟨bo, oo + j * 5 + 3, none⟩) hbo).trans t3
      have a4 := (HP.out.bel.cell (p := ⟨bo, oo + j * 5 + 4, none⟩) hbo).trans t4
      clear hxs hbo hB1 hl1 t0 t1 t2 t3 t4
      generalize l[j] = o at a0 a1 a2 a3 a4
      obtain ⟨kd, kk, p⟩ := o
      have hal := (Below.refl _ wr).alloc (Nat.le_refl _) (.cells #[.int .i64 kd, .int .i64 kk, .int .i64 p.frm, .int .i64 p.dst, .slice B1 p.d.length c1] 33)
      have HP4 := Lib.hid (HP.out.keep hal)
      have HOW := Lib.hid (Whole.new wr 33 #[.int .i64 kd, .int .i64 kk, .int .i64 p.frm, .int .i64 p.dst, .slice B1 p.d.length c1])
      clear hal
      go_upto_region 10 with (fail)
      clear a0 a1 a2 a3 a4 HP
      generalize wr.alloc (.cells #[.int .i64 kd, .int .i64 kk, .int .i64 p.frm, .int .i64 p.dst, .slice B1 p.d.length c1] 33) = w4 at HP4 HOW ⊢
      generalize wr.heap.size = go at HOW ⊢
      have o0 : w4.cell? ⟨go, 0, none⟩ = some (.int .i64 kd) := HOW.out.cell 0
      have o1 : w4.cell? ⟨go, 1, none⟩ = some (.int .i64 kk) := HOW.out.cell 1
      by_cases hk0 : kd = 0
      · subst hk0
        -- BEGIN
        have HJ := Lib.hid (show j ≤ 1048576 by omega)
        have HNC := Lib.hid (nm_cells HJ.out)
        have hcv1 : (convert 29 9 (.slice (some ⟨w4.heap.size, 0, none⟩) 4 4)).run Try.prog (w4.alloc (.cells #[.int .u8 ((j : Int) % 256), .int .u8 ((j : Int) / 256 % 256), .int .u8 ((j : Int) / 65536), .int .u8 ((j : Int) / 16777216)] 5)) = .ok (.string ⟨(nm j).toArray⟩) (w4.alloc (.cells #[.int .u8 ((j : Int) % 256), .int .u8 ((j : Int) / 256 % 256), .int .u8 ((j : Int) / 65536), .int .u8 ((j : Int) / 16777216)] 5)) := by
          rw [HNC.out]
          exact By.conv_of (nm_len j).symm (nm_at w4 j)
        have HP5 := Lib.hid (HP4.out.keep ((Below.refl _ w4).alloc (Nat.le_refl _) (.cells #[.int .u8 ((j : Int) % 256), .int .u8 ((j : Int) / 256 % 256), .int .u8 ((j : Int) / 65536), .int .u8 ((j : Int) / 16777216)] 5)))
        have hcv2 := Lib.run_convert_string_bytes (P := Try.prog) (w4.alloc (.cells #[.int .u8 ((j : Int) % 256), .int .u8 ((j : Int) / 256 % 256), .int .u8 ((j : Int) / 65536), .int .u8 ((j : Int) / 16777216)] 5)) 9 29 5 ⟨(nm j).toArray⟩ Try.underlying9 Try.underlying29 Try.underlying5
        simp only [list_toBA, nm_len] at hcv2
        clear HP4 HOW
        go_upto_region 12 with (fail)
        clear hcv1
        generalize w4.alloc (.cells #[.int .u8 ((j : Int) % 256), .int .u8 ((j : Int) / 256 % 256), .int .u8 ((j : Int) / 65536), .int .u8 ((j : Int) / 16777216)] 5) = w5 at HP5 hcv2 ⊢
        obtain ⟨hB, hb⟩ := bytes_new w5 (nm j)
        have HB := Lib.hid hB
        have HP6 := Lib.hid (HP5.out.keep hb)
        clear hB hb HP5
        generalize Lib.bytesWorld w5 _ _ = w6 at hcv2 HB HP6
        go_wp2_with fail
        refine (Send_any (b := ⟨live L, (L.length : Int), q⟩) HP6.out.bag HP6.out.sound (by omega) (pkOf j) (some ⟨w5.heap.size, 0, none⟩) (grownCap w5 4 0 5) HB.out HP6.out.hS).mono ?_
        rintro e w7 ⟨rfl, hB7, hm7⟩
        by_cases h48 : (live L).length = 48
        · rw [(sent_full h48).2] at hB7
          rw [(sent_full h48).1]
          have HN := Lib.hid (HP6.out.lose h48 hB7.out hm7.out)
          clear hB7 hm7 HP6 h48 hcv2 HB
          go_wp2_with fail
          go_roundw
          case rel => exact ⟨j + 1, L, q + 1, rfl, by omega, rfl, HN⟩
          case measure => simp only [intOf]; omega
        · rw [(sent_room h48).2] at hB7
          rw [(sent_room h48).1]
          have H48 := Lib.hid h48
          have HB7 := Lib.hid hB7.out
          have HV7 := Lib.hid (hm7.out.own HP6.out.rows.nms (fun k hk hx => HP6.out.vg.1 (by rw [List.mem_singleton.1 hx] at hk; exact hk)))
          have HU7 := Lib.hid (hm7.out.own HP6.out.rows.out (fun k hk hx => HP6.out.vg.2 (by rw [List.mem_singleton.1 hx] at hk; exact hk)))
          have HX7 := Lib.hid (HP6.out.bel.trans (hm7.out.below HP6.out.bel.size (by intro x hx; rw [List.mem_singleton.1 hx]; exact HP6.out.gl)))
          have HLN := Lib.hid (show (L.length + 1) * 16 ≤ 140737488355328 ∧ (L.length + 1) * 1 ≤ 140737488355328 ∧ L.length ≤ 1048576 by have := HP6.out.sound.s1; simp only at this; omega)
          clear hB7 hm7 h48 hcv2 HB
          go_wp2_with (first
            | (at_builtin; refine app_row rfl (.tmp 52) (.tmp 54) 52 9 (.string ⟨#[]⟩) 16 Try.underlying52 info_str rfl rfl w.heap.size V L.length _ HV7.out HX7.out.size rfl (nmV j) rfl rfl HLN.out.1 HLN.out.2.2 ?_; intro V2 w8 ho8 hm8 hv8; have HG8 := Lib.hid (grow_V HB7.out HV7.out HU7.out (by decide) HP6.out.vg.1 hm8 hv8); have HV8 := Lib.hid ho8; have HX8 := Lib.hid (HX7.out.trans (hm8.below HX7.out.size (fun y hy => (HV7.out.lt y (by simpa using hy)).1))); clear ho8 hm8 hv8)
            | (at_builtin; refine app_row rfl (.tmp 56) (.tmp 57) 53 4 (.bool false) 1 Try.underlying53 info_bool rfl rfl w.heap.size U L.length _ HG8.out.2.1 HX8.out.size rfl (.bool false) rfl rfl HLN.out.2.1 HLN.out.2.2 ?_; intro U2 w9 ho9 hm9 hv9; have HG9 := Lib.hid (grow_U HG8.out.1 HV8.out HG8.out.2.1 (by decide) HP6.out.vg.2 hm9 hv9); have HU9 := Lib.hid ho9; have HX9 := Lib.hid (HX8.out.trans (hm9.below HX8.out.size (fun y hy => (HG8.out.2.1.lt y (by simpa using hy)).1))); clear ho9 hm9 hv9))
          have HN := Lib.hid (HP6.out.push H48.out HG9.out.1 HG9.out.2.1 HU9.out ⟨HG8.out.2.2, HG9.out.2.2⟩ HX9.out)
          have HOS := Lib.hid (outs_snoc L j)
          clear HP6 HG8 HV8 HX8 HG9 HU9 HX9 HB7 HV7 HU7 HX7 HLN H48
          go_roundw
          case rel => exact ⟨j + 1, L ++ [(j, false)], q, rfl, by omega, by rw [HOS.out], HN⟩
          case measure => simp only [intOf]; omega
        -- END
      · have hq0 : (kd == 0) = false := beq_eq_false_iff_ne.2 hk0
        go_wp2_with fail
        clear o0 o1
        by_cases hk : kk < 0 ∨ ((live L).length : Int) ≤ kk
        · refine (Take_no HP4.out.bag hk).mono ?_
          rintro e w5 ⟨rfl, hb⟩
          unfold zero3
          have HP6 := Lib.hid ((HP4.out.keep hb).keep ((Below.refl _ w5).alloc (Nat.le_refl _) (.cells #[Value.int .i64 0, Value.int .i64 0, Value.slice none 0 0] 31)))
          clear hb HP4 HOW
          go_upto_region 15 with (fail)
          generalize w5.alloc (.cells #[Value.int .i64 0, Value.int .i64 0, Value.slice none 0 0] 31) = w6 at HP6 ⊢
          go_wp2_with fail
          go_roundw
          case rel => exact ⟨j + 1, L, q, rfl, by omega, rfl, Lib.hid (HP6.out.more (Nat.le_succ j))⟩
          case measure => simp only [intOf]; omega
        · obtain ⟨k, rfl⟩ : ∃ k : Nat, kk = (k : Int) := ⟨kk.toNat, by omega⟩
          have hlt2 : k < (live L).length := by omega
          have HPK := Lib.hid (List.getElem?_eq_getElem hlt2)
          generalize (live L)[k] = pk at HPK
          obtain ⟨qx, i, hq1, hq2, hq3, hq4⟩ := live_take L k pk HPK.out
          have HPD := Lib.hid (show pk.d = nm i by rw [hq2]; rfl)
          have HQ1 := Lib.hid hq1
          have HQ3 := Lib.hid hq3
          have HQ4 := Lib.hid hq4
          have hqL : qx < L.length := (List.getElem?_eq_some_iff.1 hq1).1
          clear hk hq1 hq2 hq3 hq4
          refine (Take_yes HP4.out.bag HPK.out (by rw [HPD.out, nm_len]; decide)).mono ?_
          rintro e w5 ⟨A7, d7, rfl, hD, hB, hm⟩
          have hal := (Below.refl _ w5).alloc (Nat.le_refl _) (.cells #[.int .i64 pk.frm, .int .i64 pk.dst, .slice A7 pk.d.length d7] 31)
          have HB6 := Lib.hid (hB.out.below hal)
          have HD6 := Lib.hid (hD.out.below hal)
          have HV6 := Lib.hid ((Mod.of_below hal []).own (hm.out.own HP4.out.rows.nms (fun k hk hx => HP4.out.vg.1 (by rw [List.mem_singleton.1 hx] at hk; exact hk))) (by simp))
          have HU6 := Lib.hid ((Mod.of_below hal []).own (hm.out.own HP4.out.rows.out (fun k hk hx => HP4.out.vg.2 (by rw [List.mem_singleton.1 hx] at hk; exact hk))) (by simp))
          have HX6 := Lib.hid (below_on (HP4.out.bel.trans (hm.out.below HP4.out.bel.size (by intro x hx; rw [List.mem_singleton.1 hx]; exact HP4.out.gl))) hal)
          have HQ6 := Lib.hid (Whole.new w5 31 #[.int .i64 pk.frm, .int .i64 pk.dst, .slice A7 pk.d.length d7])
          obtain ⟨gV, cV, e1, _, _, _, _⟩ := own_addr1 HP4.out.rows.nms (by omega)
          obtain ⟨gU, cU, e2, _, hgU, _, _⟩ := own_addr1 HP4.out.rows.out (by omega)
          subst e1
          subst e2
          have HUN := Lib.hid (show gU < w4.heap.size from hgU)
          have HUV := Lib.hid (show gV ≠ gU from fun e => rows_apart HP4.out.rows.nms HP4.out.rows.out (by decide) (j := gV) (by simp [Value.ownBlock]) (by simp [Value.ownBlock, e]))
          have HUP := Lib.hid (show w5.heap.size ≠ gU by have := hm.out.size; omega)
          clear hm hB hD hal HOW
          unfold three
          go_upto_region 15 with (fail)
          generalize w5.alloc (.cells #[.int .i64 pk.frm, .int .i64 pk.dst, .slice A7 pk.d.length d7] 31) = w6 at HB6 HD6 HV6 HU6 HX6 HQ6 ⊢
          generalize w5.heap.size = pb at HQ6 HUP ⊢
          go_wp2_with fail
          go_loopw [12, 13, 70] (fun f _ i0 wr => ∃ k2 : Nat, i0 = .int .i64 (k2 : Int) ∧ k2 ≤ L.length ∧ f = .bool (decide (qx < k2)) ∧ Hid (wr.ownsRow w.heap.size 4 1 (.slice (some ⟨gU, 0, none⟩) L.length cU) L.length ((marks L qx i k2).map fun x => .bool x.2)) ∧ Hid (Mod [gU] w6 wr)) (fun _ _ i0 _ => L.length - (intOf i0).toNat)
          case atStart => exact ⟨0, rfl, Nat.zero_le _, by simp, HU6, Lib.hid (Mod.refl _ _)⟩
          case round =>
            obtain ⟨k2, rfl, hk2, rfl, HR, HM⟩ := hrel
            have HV7 := Lib.hid (HM.out.own HV6.out (fun y hy hx => by
              have e : gV = y := by simpa [Value.ownBlock] using hy
              subst e
              exact HUV.out (by simpa using hx)))
            by_cases hkL : k2 < L.length
            · have HQ7 := Lib.hid (HM.out.whole HQ6.out (by simpa using HUP.out))
              have c1 := row_cell HV7.out (q := k2) (x := nmV L[k2].1) (by rw [List.getElem?_map, List.getElem?_eq_getElem hkL]; rfl)
              have hkM : k2 < (marks L qx i k2).length := by rw [marks_len]; exact hkL
              have c2 := row_cell HR.out (q := k2) (x := .bool (marks L qx i k2)[k2].2) (by rw [List.getElem?_map, List.getElem?_eq_getElem hkM]; rfl)
              have c3 : wr.cell? ⟨pb, 2, none⟩ = some (.slice A7 pk.d.length d7) := HQ7.out.cell 2
              have fz := row_frozen HR.out k2
              have HDT := Lib.hid (HD6.out.mod HM.out (by intro x hx; rw [List.mem_singleton.1 hx]; have := HUN.out; omega))
              have hcv : (convert 29 9 (.slice A7 pk.d.length d7)).run Try.prog wr.drew = .ok (.string ⟨pk.d.toArray⟩) wr.drew := (show Data (fun x => w4.heap.size < x) wr.drew A7 pk.d from HDT.out.below (Below.drew (Below.refl _ _))).text d7
              have hiff := HP4.out.rise.one (by omega) hqL hkL
              have hLq : L[qx] = (i, false) := by have := HQ1.out; rw [List.getElem?_eq_getElem hqL] at this; exact Option.some.inj this
              rw [hLq] at hiff
              unfold nmV at c1
              by_cases e : k2 = qx
              · subst e
                have c1b : wr.cell? ⟨gV, k2, none⟩ = some (.string ⟨pk.d.toArray⟩) := by rw [c1, hLq, HPD.out]
                have hmk : (marks L k2 i k2)[k2].2 = false := by
                  have : (marks L k2 i k2)[k2] = L[k2] := by simp only [marks, Nat.lt_irrefl, if_false]
                  rw [this, hLq]
                rw [hmk] at c2
                have c1' : wr.drew.cell? ⟨gV, k2, none⟩ = some (.string ⟨pk.d.toArray⟩) := c1b
                have c2' : wr.drew.cell? ⟨gU, k2, none⟩ = some (.bool false) := c2
                have c3' : wr.drew.cell? ⟨pb, 2, none⟩ = some (.slice A7 pk.d.length d7) := c3
                have fz' : wr.drew.frozen? ⟨gU, k2, none⟩ = false := fz
                have HNX := Lib.hid (show (wr.setCell ⟨gU, k2, none⟩ (.bool true)).ownsRow w.heap.size 4 1 (.slice (some ⟨gU, 0, none⟩) L.length cU) L.length ((marks L k2 i (k2 + 1)).map fun x => .bool x.2) from by
                  have h1 := (HR.out.stored k2 (.bool true)).1
                  have h2 : ((marks L k2 i k2).map fun x => Value.bool x.2).set k2 (.bool true) = (marks L k2 i (k2 + 1)).map fun x => Value.bool x.2 := by
                    simp only [marks, Nat.lt_irrefl, if_false, Nat.lt_succ_self, if_true]
                    rw [List.map_set]
                  rw [h2] at h1
                  exact h1)
                clear hiff hLq c1 hmk
                go_wp2_with fail
                go_region
                all_goals
                  go_wp2_with fail
                  go_roundw
                  case rel => exact ⟨k2 + 1, rfl, by omega, by simp, HNX, Lib.hid (HM.out.store (p := ⟨gU, k2, none⟩) (.inl (by simp)) _).drew⟩
                  case measure => simp only [intOf]; omega
              · have hne : (nm L[k2].1 == pk.d) = false := beq_eq_false_iff_ne.2 (by rw [HPD.out]; exact fun h => e (hiff.1 h))
                generalize nm L[k2].1 = nk at c1 hne
                generalize (marks L qx i k2)[k2].2 = mk at c2
                have c1' : wr.drew.cell? ⟨gV, k2, none⟩ = some (.string ⟨nk.toArray⟩) := c1
                have c2' : wr.drew.cell? ⟨gU, k2, none⟩ = some (.bool mk) := c2
                have c3' : wr.drew.cell? ⟨pb, 2, none⟩ = some (.slice A7 pk.d.length d7) := c3
                clear hiff hLq
                go_wp2_with fail
                go_region
                all_goals
                  go_wp2_with fail
                  go_roundw
                  case rel => exact ⟨k2 + 1, rfl, by omega, by rw [show decide (qx < k2 + 1) = decide (qx < k2) from decide_eq_decide.2 (by omega)], Lib.hid (by rw [marks_next e]; exact HR.out.drew), Lib.hid HM.out.drew⟩
                  case measure => simp only [intOf]; omega
            · have hdt : decide (qx < k2) = true := decide_eq_true (by omega)
              have HNE := Lib.hid (HP4.out.mark HQ1.out HQ3.out (HB6.out.mod (by have := HB6.out.lt; have := HP4.out.vg.2; intro hx; exact this (by simpa [Value.ownBlock] using (List.mem_singleton.1 hx).symm)) HM.out (by intro x hx hs; exact hs.2.2 (by simpa [Value.ownBlock] using (List.mem_singleton.1 hx).symm))) HV7.out (by have := HR.out; rw [marks_end (show qx < k2 by omega)] at this; exact this) (HX6.out.trans (HM.out.below HX6.out.size (by intro x hx; rw [List.mem_singleton.1 hx]; exact (HU6.out.lt gU (by simp [Value.ownBlock])).1))))
              have hou := live_outs L
              have hs1 := HP4.out.sound.s1
              simp only at hs1
              have hw : IntKind.i64.wrap ((outs L : Int) + 1) = (outs L : Int) + 1 := by rw [IntKind.wrap_i64]; omega
              clear hou hs1
              go_wp2_with fail
              go_roundw
              case rel => exact ⟨j + 1, L.set qx (i, true), q, rfl, by omega, by rw [HQ4.out]; rfl, HNE⟩
              case measure => simp only [intOf]; omega
    · obtain ⟨AV, cV, e1, _, _⟩ := By.own_shape HP.out.rows.nms
      obtain ⟨AU, cU, e2, _, _⟩ := By.own_shape HP.out.rows.out
      subst e1
      subst e2
      have hou := live_outs L
      have h48 := HP.out.sound.le
      simp only at h48
      have HLL := Lib.hid (show ((live L).length : Int) = (L.length : Int) - (outs L : Int) by omega)
      have hs1 := HP.out.sound.s1
      simp only at hs1
      have hw : IntKind.i64.wrap ((L.length : Int) - (outs L : Int)) = (L.length : Int) - (outs L : Int) := by rw [IntKind.wrap_i64]; omega
      have hgt : decide (48 < (L.length : Int) - (outs L : Int)) = false := decide_eq_false (by omega)
      go_wp2_with fail
      refine (Sent_any HP.out.bag).mono ?_
      rintro e v ⟨rfl, rfl⟩
      go_wp2_with fail
      refine (Len_any HP.out.bag).mono ?_
      rintro e v ⟨rfl, rfl⟩
      rw [HLL.out]
      go_wp2_with fail
      refine (Len_any HP.out.bag).mono ?_
      rintro e v ⟨rfl, rfl⟩
      rw [HLL.out]
      go_wp2_with fail
      clear hou h48 hs1 hw hgt
      obtain ⟨wa, rfl⟩ : ∃ y, y = wr := ⟨_, rfl⟩
      go_loopw [14, 122] (fun _ i0 wr => ∃ k2 : Nat, i0 = .int .i64 (k2 : Int) ∧ k2 ≤ L.length ∧ Hid (BagAt (SO g (.slice AV L.length cV) (.slice AU L.length cU)) wr g (live (L.drop k2)) (L.length : Int) q) ∧ Hid (Mod [g] wa wr)) (fun _ i0 _ => L.length - (intOf i0).toNat)
      case atStart => exact ⟨0, rfl, Nat.zero_le _, Lib.hid (by rw [List.drop_zero]; exact HP.out.bag), Lib.hid (Mod.refl _ _)⟩
      case round =>
        obtain ⟨k2, rfl, hk2, HB, HM⟩ := hrel
        by_cases hkL : k2 < L.length
        · obtain ⟨gV, cV', e1, _, _, _, _⟩ := own_addr1 HP.out.rows.nms (by omega)
          obtain ⟨gU, cU', e2, _, _, _, _⟩ := own_addr1 HP.out.rows.out (by omega)
          injection e1 with e1 _ e3
          injection e2 with e2 _ e4
          subst e1
          subst e2
          subst e3
          subst e4
          have HV7 := Lib.hid (HM.out.own HP.out.rows.nms (fun k hk hx => HP.out.vg.1 (by rw [List.mem_singleton.1 hx] at hk; exact hk)))
          have HU7 := Lib.hid (HM.out.own HP.out.rows.out (fun k hk hx => HP.out.vg.2 (by rw [List.mem_singleton.1 hx] at hk; exact hk)))
          have c1 := row_cell HV7.out (q := k2) (x := nmV L[k2].1) (by rw [List.getElem?_map, List.getElem?_eq_getElem hkL]; rfl)
          have c2 := row_cell HU7.out (q := k2) (x := .bool L[k2].2) (by rw [List.getElem?_map, List.getElem?_eq_getElem hkL]; rfl)
          have hld := live_drop hkL
          unfold nmV at c1
          cases hm2 : L[k2].2 with
          | true =>
            rw [hm2] at c2
            rw [if_pos hm2] at hld
            have HLD := Lib.hid hld
            clear hld hm2 c1
            go_wp2_with fail
            go_roundw
            case rel => exact ⟨k2 + 1, rfl, by omega, Lib.hid (by rw [← HLD.out]; exact HB.out), HM⟩
            case measure => simp only [intOf]; omega
          | false =>
            rw [hm2] at c2
            rw [if_neg (by rw [hm2]; decide)] at hld
            have HB' := HB.out
            rw [hld] at HB'
            have HB8 := Lib.hid HB'
            clear HB' hld hm2
            generalize L[k2].1 = i at c1 HB8
            have hlen : (pkOf i).d.length = 4 := nm_len i
            have HTK := Lib.hid (Take_yes HB8.out (k := 0) (p := pkOf i) rfl (by rw [hlen]; decide))
            go_wp2_with fail
            refine HTK.out.mono ?_
            rintro e w5 ⟨A7, d7, rfl, hD, hB, hm⟩
            have hal := (Below.refl _ w5).alloc (Nat.le_refl _) (.cells #[.int .i64 (i : Int), .int .i64 0, .slice A7 4 d7] 31)
            have HB6 := Lib.hid (show BagAt (SO g (.slice (some ⟨gV, 0, none⟩) L.length cV) (.slice (some ⟨gU, 0, none⟩) L.length cU)) _ g (live (L.drop (k2 + 1))) (L.length : Int) q from hB.out.below hal)
            have HD6 := Lib.hid (hD.out.below hal)
            have HM6 := Lib.hid ((HM.out.trans hm.out (by simp)).trans (Mod.of_below hal [g]) (by simp))
            have HQ6 := Lib.hid (Whole.new w5 31 #[.int .i64 (i : Int), .int .i64 0, .slice A7 4 d7])
            have c1' := ((hm.out.trans (Mod.of_below hal [g]) (by simp)).cell (p := ⟨gV, k2, none⟩) (World.block_lt_of_cell? _ _ c1) (by intro hx; exact HP.out.vg.1 (by simpa [Value.ownBlock] using List.mem_singleton.1 hx))).trans c1
            clear hm hB hD hal c1 c2 HTK HB8 HV7 HU7
            rw [show three (pkOf i) A7 d7 = #[.int .i64 (i : Int), .int .i64 0, .slice A7 4 d7] from rfl]
            go_upto_region 34 with (fail)
            generalize w5.alloc (.cells #[.int .i64 (i : Int), .int .i64 0, .slice A7 4 d7] 31) = w6 at HB6 HD6 HM6 HQ6 c1' ⊢
            generalize w5.heap.size = pb at HQ6 ⊢
            have c3 : w6.drew.cell? ⟨pb, 2, none⟩ = some (.slice A7 4 d7) := HQ6.out.cell 2
            have c1d : w6.drew.cell? ⟨gV, k2, none⟩ = some (.string ⟨(nm i).toArray⟩) := c1'
            have hcv : (convert 29 9 (.slice A7 4 d7)).run Try.prog w6.drew = .ok (.string ⟨(nm i).toArray⟩) w6.drew := (HD6.out.below (Below.drew (Below.refl _ _))).text d7
            clear c1' hlen
            generalize nm i = nmi at c1d hcv
            go_region
            all_goals
              go_wp2_with fail
              go_roundw
              case rel => exact ⟨k2 + 1, rfl, by omega, Lib.hid (HB6.out.below (Below.drew (Below.refl _ _))), Lib.hid HM6.out.drew⟩
              case measure => simp only [intOf]; omega
        · have HB' := HB.out
          rw [List.drop_of_length_le (show L.length ≤ k2 by omega), live_nil] at HB'
          have HB8 := Lib.hid HB'
          have HX8 := Lib.hid (HP.out.bel.trans (HM.out.below HP.out.bel.size (by intro x hx; rw [List.mem_singleton.1 hx]; exact HP.out.gl)))
          clear HB'
          go_wp2_with fail
          refine (Take_no HB8.out (k := 0) (.inr (by simp))).mono ?_
          rintro e w5 ⟨rfl, hb⟩
          unfold zero3
          have hal := (Below.refl _ w5).alloc (Nat.le_refl _) (.cells #[Value.int .i64 0, Value.int .i64 0, Value.slice none 0 0] 31)
          have HB9 := Lib.hid ((HB8.out.below hb).below hal)
          have HX9 := Lib.hid (below_on (below_on HX8.out hb) hal)
          clear hb hal
          go_upto_region 38 with (fail)
          generalize w5.alloc (.cells #[Value.int .i64 0, Value.int .i64 0, Value.slice none 0 0] 31) = w6 at HB9 HX9 ⊢
          go_wp2_with fail
          refine (Len_any HB9.out).mono ?_
          rintro e v ⟨rfl, rfl⟩
          rw [show ((([] : List Pk).length : Nat) : Int) = 0 from rfl]
          go_wp2_with fail
          go_ret
          exact ⟨rfl, HX9.out⟩

theorem own : ownKnob Try.prog.godebug = none := by kernel_rfl
theorem laidOut : laidOutB Try.prog = true := by kernel_rfl
set_option maxRecDepth 100000 in
theorem lifted (os : Os) (started : os.Started) (H : Type) (enc : TypeId × Value → H) (F : Stop.Interp) :
    ReturnsInHanded {} Try.checked os 4 .any ((Rows.OpenSpec.upto Rows.bagOnceSpec).pre6 enc Try.prog Try.f4 Rows.bagOnceUptoRow.domain false) (((Rows.OpenSpec.upto Rows.bagOnceSpec).at F).post enc Try.prog Try.f4 false true false false) := by
  refine LK.lifted_upto (C := Try.checked) (s := Rows.OpenSpec.upto Rows.bagOnceSpec) (k := Rows.uptoSmall) rfl (F := F) (s0 := Rows.bagOnceSpec) (tb := 4) rfl own started (by kernel_rfl) Try.func4 laidOut rfl rfl rfl rfl (by kernel_rfl) (by kernel_rfl) Try.underlying4
    (fun ds h => by
      match ds, h with
      | [_], _ => rfl)
    (OpenSpec.witness (enc := enc) (C := Try.checked) (s := Rows.OpenSpec.upto Rows.bagOnceSpec) (k := Rows.uptoSmall) rfl false ⟨#[], #[.slice none 0 0], []⟩ 8 (by kernel_rfl) (by kernel_rfl) (by kernel_rfl)
      (x := ([.nil], [], [])) (by kernel_rfl) rfl (by kernel_rfl)) ?_
  intro W base args ds ps hval hA hwt hkk
  rw [show Try.f4.params.toList = [22] by kernel_rfl] at hA hwt
  have hval' : ∀ (j : Nat) t v, (#[22] : Array TypeId)[j]? = some t → args[j]? = some v → Value.okWide Try.prog W .any base t v := by
    rw [← Try.params4]; exact hval
  clear hval
  obtain ⟨v0, d0, rfl, rfl, h0⟩ := trodAll_one hA
  obtain ⟨A0, c0, xs0, rfl, hO0, hc0, hm0, hb0⟩ := open_ops (hval' 0 22 v0 rfl rfl) h0 hwt (j := 0) rfl rfl
  have hbulk : Rows.uptoBulkAll [d0] ≤ 1048576 := of_decide_eq_true hkk
  have hroom : xs0.length ≤ 1048576 := by
    simp only [Rows.uptoBulkAll] at hbulk
    omega
  exact walk A0 c0 xs0 W hO0 hc0 hm0 hroom

/-- The statement. -/
theorem proved : Rows.BagOnceUptoSaid :=
  OpenClaim.holds_of_cond 4 Try.f4 rfl rfl rfl rfl rfl rfl rfl ⟨rfl, rfl, rfl, rfl, rfl⟩ rfl rfl rfl rfl rfl (by kernel_rfl) Try.func4 (by kernel_rfl)
    (of_decide_eq_true (by kernel_rfl)) (by unfold Func.isWrapper; first | (rw [if_pos (by decide +kernel)]; kernel_rfl) | (rw [if_neg (by decide +kernel)]; exact ⟨rfl, rfl⟩))
    (fun os started H enc _ F => lifted os started H enc F)

end Go.Proofs.Ytnjgefpgpbodpaa.lawBagOnce
