/- What was put and is dropped leaves no trace: the walk, over any Sets. -/
import Derived.Test.YtfgilhcjfpfjbaaDoorPsTMath
namespace Go.Proofs.YtfgilhcjfpfjbaaDoor.ahead
open Go.RowKit
open SE (Ent)
set_option linter.unusedVariables false
set_option maxRecDepth 100000
/-- Two sets with one list, and an entry's box, as they stand. -/
def Both (S : Sets) (W w3 : World) (ga gb : Nat) (L : List Ent) (a : Ent) (box : Nat) (w' : World) : Prop := Mine S W ga L [] w' ∧ Mine S w3 gb L [] w' ∧ EntCells w' box 0 a ∧ box < w'.heap.size
theorem Both.below {S : Sets} {W w3 w1 w2 : World} {ga gb box : Nat} {L : List Ent} {a : Ent} (h : Both S W w3 ga gb L a box w1) (hb : Below w1.heap.size w1 w2) : Both S W w3 ga gb L a box w2 :=
  ⟨h.1.below hb, h.2.1.below hb, h.2.2.1.below h.2.2.2 hb, Nat.lt_of_lt_of_le h.2.2.2 hb.size⟩
theorem Both.asks {S : Sets} {W w3 w1 : World} {ga gb box : Nat} {L : List Ent} {a : Ent} (h : Both S W w3 ga gb L a box w1) : w1.cell? ⟨box, 1, none⟩ = some (.string a.path) ∧ w1.cell? ⟨box, 2, none⟩ = some (.int .i64 a.mode) ∧ w1.cell? ⟨box, 3, none⟩ = some (.int .i64 a.who) := by
  obtain ⟨_, h1, h2, h3⟩ := h.2.2.1
  rw [Nat.zero_add] at h1 h2 h3
  exact ⟨h1, h2, h3⟩
set_option maxHeartbeats 8000000 in
theorem turned_walk (S : Sets) (A : Option Addr) (c : Nat) (l : List Ent) (m a : Ent) (w : World) (hx : HasMax w) (hA : EntsAt w A l) (hl : l.length ≤ c) (hc : c ≤ 9223372036854775807) (hF : ∀ e ∈ l, Fair e) (hm : Fair m) (ha : Fair a) :
    Calls Tryd.prog 3 #[.slice A l.length c, agg m, agg a] w fun x w' => x = .returned (.bool true) ∧ Below w.heap.size w w' := by
  have HX0 := Lib.hid hx
  have HX := Lib.hid (fun o o2 => hx.below (((Below.refl _ w).alloc (Nat.le_refl _) o).alloc (by simp) o2)); clear hx
  have HA := Lib.hid hA; clear hA
  have HF := Lib.hid hF; clear hF
  have HFm := Lib.hid hm; have HFa := Lib.hid ha; clear hm ha
  have HBm := Lib.hid (fun w2 hb => boxed (w := w) (w2 := w2) m hb)
  have HBa := Lib.hid (fun w2 hb => boxed2 (w := w) (w2 := w2) (.cells (four m).toArray 25) a hb)
  obtain ⟨W, hW⟩ : ∃ W, (w.alloc (.cells (four m).toArray 25)).alloc (.cells (four a).toArray 25) = W := ⟨_, rfl⟩
  have HBx := Lib.hid (fun w2 (hb : Below W.heap.size W w2) => (show EntCells w2 w.heap.size 0 m ∧ EntCells w2 (w.heap.size + 1) 0 a ∧ Below w.heap.size w w2 by
    subst hW
    refine ⟨(HBm.out w2 (((Below.refl _ _).alloc (Nat.le_refl _) _).trans (hb.mono (by simp)))).1, (HBa.out w2 hb).1, (HBa.out w2 hb).2⟩))
  have HXW := Lib.hid (show HasMax W by rw [← hW]; exact HX.out _ _)
  have HWo := Lib.hid hW
  clear HX HBm HBa
  unfold four at hW
  unfold agg
  go_enter Tryd.func3, Tryd.ntmps3
  go_wp2_with fail
  clear hW
  refine (awake_any S _ HXW.out).mono ?_
  rintro x w1 ⟨rfl, hb⟩
  have HB1 := Lib.hid hb; clear hb
  by_cases h60 : 60 < l.length
  · go_wp2_with fail
    go_ret
    exact ⟨rfl, (HBx.out _ HB1.out).2.2⟩
  · go_wp2_with fail
    go_loopw [7, 8, 20] (fun _ _ i wx => ∃ k : Nat, i = .int .i64 (k : Int) ∧ k ≤ l.length ∧ Hid (∀ i j (hj : j < l.length) (hi : i < j), j < k → (l[i]'(by omega)).id ≠ l[j].id) ∧ Hid (∀ j (hj : j < l.length), j < k → l[j].id ≠ m.id) ∧ Hid (Below W.heap.size W wx)) (fun _ _ i _ => l.length - (intOf i).toNat)
    case atStart => exact ⟨0, rfl, by omega, Lib.hid (fun i j hj hi h => by omega), Lib.hid (fun j hj h => by omega), HB1⟩
    case round =>
      obtain ⟨k, rfl, hk, HD, HN, HB⟩ := hrel
      by_cases hlt : k < l.length
      · obtain ⟨b, o, eA, hbl, hca⟩ := HA.out (by omega)
        subst eA
        have HBw := Lib.hid (HBx.out _ HB.out).2.2
        have hkc : k ≤ c := by omega
        have HCa := Lib.hid (fun j (hj : j < l.length) => hca j l[j] (List.getElem?_eq_getElem hj))
        clear hca
        go_wp2_with fail
        go_loopw [8, 27] (fun _ i wx => ∃ j : Nat, i = .int .i64 (j : Int) ∧ j ≤ k ∧ Hid (∀ t (htl : t < l.length), t < j → l[t].id ≠ l[k].id) ∧ Hid (Below W.heap.size W wx)) (fun _ i _ => k - (intOf i).toNat)
        case atStart => exact ⟨0, rfl, by omega, Lib.hid (fun t htl h => by omega), HB⟩
        case round =>
          obtain ⟨j, rfl, hj, HJ, HBj⟩ := hrel
          have HBw2 := Lib.hid (HBx.out _ HBj.out).2.2
          obtain ⟨x0, _, _, _⟩ := (HCa.out k hlt).below hbl HBw2.out
          by_cases hjk : j < k
          · have hjl : j < l.length := by omega
            obtain ⟨y0, _, _, _⟩ := (HCa.out j hjl).below hbl HBw2.out
            by_cases he : l[k].id = l[j].id
            · rw [he] at x0
              generalize l[j].id = v at x0 y0
              go_wp2_with fail
              go_region
              go_wp2_with fail
              go_ret
              exact ⟨rfl, HBw2.out.drew⟩
            · have HNe := Lib.hid (show l[j].id ≠ l[k].id from fun h => he h.symm)
              generalize hu : l[k].id = u at x0 he
              generalize hv : l[j].id = v at y0 he
              have HU := Lib.hid hu
              clear hu hv
              have dv : (u == v) = false := by simpa using he
              go_wp2_with fail
              go_region
              go_wp2_with fail
              go_roundw
              case rel =>
                refine ⟨j + 1, rfl, by omega, Lib.hid (fun t htl h => ?_), Lib.hid HBj.out.drew⟩
                by_cases e1 : t = j
                · subst e1; rw [← HU.out]; exact HNe.out
                · rw [← HU.out]; exact HJ.out t htl (by omega)
              case measure => simp only [intOf]; omega
          · have hjk2 : j = k := by omega
            obtain ⟨⟨m0, _, _, _⟩, _, _⟩ := HBx.out _ HBj.out
            by_cases he : l[k].id = m.id
            · rw [he] at x0
              go_wp2_with fail
              go_region
              go_wp2_with fail
              go_ret
              exact ⟨rfl, HBw2.out.drew⟩
            · have HNm := Lib.hid he
              have HJk := Lib.hid (fun t (htl : t < l.length) (h : t < k) => HJ.out t htl (by omega))
              have dv : (l[k].id == m.id) = false := by simpa using he
              go_wp2_with fail
              go_region
              go_wp2_with fail
              go_roundw
              case rel =>
                refine ⟨k + 1, rfl, by omega, Lib.hid (fun i j hj hi h => ?_), Lib.hid (fun j hj h => ?_), Lib.hid HBj.out.drew⟩
                · by_cases e1 : j = k
                  · subst e1; exact HJk.out i (by omega) hi
                  · exact HD.out i j hj hi (by omega)
                · by_cases e1 : j = k
                  · subst e1; exact HNm.out
                  · exact HN.out j hj (by omega)
              case measure => simp only [intOf]; omega
      · have hkl : k = l.length := by omega
        have h60' : l.length ≤ 60 := by omega
        have HT := Lib.hid (no_trace (l := l) (m := m) (by
          rw [List.nodup_iff_pairwise_ne, List.pairwise_iff_getElem]
          intro i j hi hj hij
          rw [List.length_map] at hi hj
          rw [List.getElem_map, List.getElem_map]
          exact HD.out i j hj hij (by omega)) (fun e he => by
          obtain ⟨j, hj, rfl⟩ := List.getElem_of_mem he
          exact HN.out j hj (by omega)) h60')
        clear HD HN hlt hk
        have HAW := Lib.hid (show EntsAt W A l from HA.out.below (HBx.out W (Below.refl _ W)).2.2)
        go_wp2_with fail
        refine (filled_any S W A c l wr HXW.out HAW.out hl hc HF.out HB.out).mono ?_
        rintro x w3 ⟨ga, rfl, HMa⟩
        unfold ptr
        go_wp2_with fail
        refine (Mine.new S HMa.out.max (Below.refl _ w3)).mono ?_
        rintro x w4 ⟨gb, rfl, HMb, _⟩
        unfold ptr
        obtain ⟨m0, m1, m2, m3⟩ := (HBx.out _ (below_on HMa.out.on HMb.out.on)).1
        rw [Nat.zero_add] at m1 m2 m3
        go_wp2_with fail
        refine (HMb.out.put m HFm.out).mono ?_
        rintro x w5 ⟨rfl, HMb5, _⟩
        clear m0 m1 m2 m3
        generalize hp : SE.put [] m = pm at HT HMb5
        obtain ⟨L1, n⟩ := pm
        simp only at HT HMb5
        clear hp
        go_wp2_with fail
        go_loopw [12] (fun i wx => ∃ k : Nat, k ≤ l.length ∧ i = .int .i64 ((l.length : Int) - 1 - (k : Int)) ∧ Hid (Mine S w3 gb (fillOn L1 (l.reverse.take k)) [] wx)) (fun i _ => (intOf i + 1).toNat)
        case atStart => exact ⟨0, by omega, by go_num, HMb5⟩
        case round =>
          obtain ⟨k2, hk2, rfl, HMk⟩ := hrel
          have HBk := Lib.hid (below_on HMa.out.on HMk.out.on)
          by_cases hlt : k2 < l.length
          · obtain ⟨j, hj⟩ : ∃ j : Nat, l.length = k2 + 1 + j := ⟨l.length - (k2 + 1), by omega⟩
            have hjl : j < l.length := by omega
            have e1 : (l.length : Int) - 1 - (k2 : Int) = (j : Int) := by omega
            rw [e1]
            have HS := Lib.hid (show (SE.put (fillOn L1 (l.reverse.take k2)) l[j]).1 = fillOn L1 (l.reverse.take (k2 + 1)) by
              unfold fillOn
              rw [List.take_add_one, List.getElem?_reverse hlt, show l.length - 1 - k2 = j by omega, List.getElem?_eq_getElem hjl, Option.toList_some, List.foldl_append]
              rfl)
            obtain ⟨b, o, eA, hbl, hca⟩ := HA.out (by omega)
            subst eA
            obtain ⟨x0, x1, x2, x3⟩ := (hca j l[j] (List.getElem?_eq_getElem hjl)).below hbl (HBx.out _ HBk.out).2.2
            have HE := Lib.hid (HF.out l[j] (List.getElem_mem hjl))
            have HJ := Lib.hid hj
            clear hca e1 hj
            generalize l[j] = e at x0 x1 x2 x3 HE HS
            go_wp2_with fail
            refine (HMk.out.put e HE.out).mono ?_
            rintro x w6 ⟨rfl, HM6, _⟩
            rw [HS.out] at HM6
            clear x0 x1 x2 x3
            go_wp2_with fail
            go_roundw
            case rel => exact ⟨k2 + 1, by omega, by have := HJ.out; go_num, HM6⟩
            case measure =>
              have := HJ.out
              simp only [intOf]
              omega
          · have hk3 : k2 = l.length := by omega
            subst hk3
            rw [show l.reverse.take l.length = l.reverse from List.take_of_length_le (by simp)] at HMk
            have e1 : (l.length : Int) - 1 - (l.length : Int) = -1 := by omega
            rw [e1]
            clear e1
            obtain ⟨⟨m0, _, _, _⟩, _, _⟩ := HBx.out _ HBk.out
            have HD := Lib.hid (HMk.out.drop m.id)
            rw [HT.out.1, HT.out.2, show decide (n = 0) = (n == 0) from rfl] at HD
            go_wp2_with fail
            refine HD.out.mono ?_
            rintro x w7 ⟨rfl, HM7, _⟩
            clear m0
            go_wp2_with fail
            have HP := Lib.hid (show Both S W w3 ga gb (fill l) a (w.heap.size + 1) w7.drew from by
              have hb7 := below_on HMa.out.on HM7.out.on
              exact Both.below (w1 := w7) ⟨HMa.out.below HM7.out.on, HM7.out, (HBx.out _ hb7).2.1, Nat.lt_of_lt_of_le (by rw [← HWo.out]; simp) hb7.size⟩ ((Below.refl _ w7).drew))
            have HLen := Lib.hid (show (fill l).length ≤ 9223372036854775807 by have := HMa.out.inv.len; omega)
            have hqa := HFa.out.2.1
            have HSK := HP.out.asks
            generalize fill l = L at HP HLen
            clear HT HMb5 HMk HM7 HMa HMb HD
            refine wp_region_noPanic ?_
            refine wp_region_held_drew (S := fun y : World => y.cell? ⟨w.heap.size + 1, 1, none⟩ = some (.string a.path) ∧ y.cell? ⟨w.heap.size + 1, 2, none⟩ = some (.int .i64 a.mode) ∧ y.cell? ⟨w.heap.size + 1, 3, none⟩ = some (.int .i64 a.who)) (by kernel_rfl) (HSK) (fun hHeld => ?_)
            refine wpAnyH_take (i := 0) (oi := { dst := some 77, op := Op.move (Operand.tmp 9), type := 27, pos := _, after := _, guard := none }) (v := ?_) rfl (by kernel_rfl) (by kernel_rfl) (by kernel_rfl) (fun _ _ _ h => h) (Or.inl ⟨by rfl, ?_⟩) hHeld ?_
            rotate_left
            · (intro w hSw; (try dsimp only at hSw); obtain ⟨hS0, hS1, hS2⟩ := hSw; first | (go_simp; done) | (go_simp; with_reducible rfl))
            try simp only [Act.put, List.setIfInBounds_toArray, List.set_cons_zero, List.set_cons_succ]
            refine wpAnyH_take (i := 2) (oi := { dst := some 79, op := Op.move (Operand.tmp 10), type := 27, pos := _, after := _, guard := none }) (v := ?_) rfl (by kernel_rfl) (by kernel_rfl) (by kernel_rfl) (fun _ _ _ h => h) (Or.inl ⟨by rfl, ?_⟩) hHeld ?_
            rotate_left
            · (intro w hSw; (try dsimp only at hSw); obtain ⟨hS0, hS1, hS2⟩ := hSw; first | (go_simp; done) | (go_simp; with_reducible rfl))
            try simp only [Act.put, List.setIfInBounds_toArray, List.set_cons_zero, List.set_cons_succ]
            refine wpAnyH_ready (rs := [1]) (by kernel_rfl) (by simp) (AllReadyH.cons (o := { dst := some 78, op := Op.call { callee := Callee.value (Operand.func 11), args := #[Operand.tmp 77], argTypes := #[27] }, type := 22, pos := _, after := _, guard := none }) rfl (fun K hK => ?_) AllReadyH.nil)
            go_simp
            refine (HP.out.1.list).mono ?_
            rintro x y1a ⟨A1, c1, rfl, HI1, hl1, hc1, _, HB1⟩
            replace HP := Lib.hid (HP.out.below HB1.out)
            have hK1a := HP.out.asks
            go_simp
            refine hK.out _ _ (hK1a) (fun hHeld => ?_)
            clear hK K
            try simp only [Act.put, List.setIfInBounds_toArray, List.set_cons_zero, List.set_cons_succ]
            refine wpAnyH_ready (rs := [3]) (by kernel_rfl) (by simp) (AllReadyH.cons (o := { dst := some 80, op := Op.call { callee := Callee.value (Operand.func 11), args := #[Operand.tmp 79], argTypes := #[27] }, type := 22, pos := _, after := _, guard := none }) rfl (fun K hK => ?_) AllReadyH.nil)
            go_simp
            refine (HP.out.2.1.list).mono ?_
            rintro x y1b ⟨B1, d1, rfl, HJ1, hm1, hd1, _, HC1⟩
            replace HP := Lib.hid (HP.out.below HC1.out)
            replace HI1 := Lib.hid (HI1.out.below HC1.out)
            have hK1b := HP.out.asks
            go_simp
            refine hK.out _ _ (hK1b) (fun hHeld => ?_)
            clear hK K
            try simp only [Act.put, List.setIfInBounds_toArray, List.set_cons_zero, List.set_cons_succ]
            refine wpAnyH_ready (rs := [4]) (by kernel_rfl) (by simp) (AllReadyH.cons (o := { dst := some 81, op := Op.call { callee := Callee.value (Operand.func 10), args := #[Operand.tmp 78, Operand.tmp 80], argTypes := #[22, 22] }, type := 4, pos := _, after := _, guard := none }) rfl (fun K hK => ?_) AllReadyH.nil)
            go_simp
            refine (Same_any A1 B1 c1 d1 _ _ _ HI1.out HJ1.out hl1 hm1 hc1 hd1).mono ?_
            rintro x y1c ⟨rfl, h1⟩
            rw [decide_eq_true (rfl : _ = _)]
            replace HP := Lib.hid (HP.out.below h1)
            clear h1
            have hK1c := HP.out.asks
            go_simp
            refine hK.out _ _ (hK1c) (fun hHeld => ?_)
            clear hK K
            try simp only [Act.put, List.setIfInBounds_toArray, List.set_cons_zero, List.set_cons_succ]
            refine wpAnyH_take (i := 5) (oi := { dst := some 82, op := Op.move (Operand.tmp 81), type := 4, pos := _, after := _, guard := none }) (v := ?_) rfl (by kernel_rfl) (by kernel_rfl) (by kernel_rfl) (fun _ _ _ h => h) (Or.inl ⟨by rfl, ?_⟩) hHeld ?_
            rotate_left
            · (intro w hSw; (try dsimp only at hSw); obtain ⟨hS0, hS1, hS2⟩ := hSw; first | (go_simp; done) | (go_simp; with_reducible rfl))
            try simp only [Act.put, List.setIfInBounds_toArray, List.set_cons_zero, List.set_cons_succ]
            refine wpAnyH_take (i := 6) (oi := { dst := some 83, op := Op.move (Operand.tmp 9), type := 27, pos := _, after := _, guard := some (5, true) }) (v := ?_) rfl (by kernel_rfl) (by kernel_rfl) (by kernel_rfl) (fun _ _ _ h => h) (Or.inl ⟨by rfl, ?_⟩) hHeld ?_
            rotate_left
            · (intro w hSw; (try dsimp only at hSw); obtain ⟨hS0, hS1, hS2⟩ := hSw; first | (go_simp; done) | (go_simp; with_reducible rfl))
            try simp only [Act.put, List.setIfInBounds_toArray, List.set_cons_zero, List.set_cons_succ]
            refine wpAnyH_take (i := 7) (oi := { dst := some 84, op := Op.fieldAddr 25 (Operand.tmp 5) 1, type := 0, pos := _, after := _, guard := some (5, true) }) (v := ?_) rfl (by kernel_rfl) (by kernel_rfl) (by kernel_rfl) (fun _ _ _ h => h) (Or.inl ⟨by rfl, ?_⟩) hHeld ?_
            rotate_left
            · (intro w hSw; (try dsimp only at hSw); obtain ⟨hS0, hS1, hS2⟩ := hSw; first | (go_simp; done) | (go_simp; with_reducible rfl))
            try simp only [Act.put, List.setIfInBounds_toArray, List.set_cons_zero, List.set_cons_succ]
            refine wpAnyH_take (i := 8) (oi := { dst := some 85, op := Op.load 9 (Operand.tmp 84), type := 9, pos := _, after := _, guard := some (5, true) }) (v := ?_) rfl (by kernel_rfl) (by kernel_rfl) (by kernel_rfl) (fun _ _ _ h => h) (Or.inl ⟨by rfl, ?_⟩) hHeld ?_
            rotate_left
            · (intro w hSw; (try dsimp only at hSw); obtain ⟨hS0, hS1, hS2⟩ := hSw; first | (go_simp; done) | (go_simp; with_reducible rfl))
            try simp only [Act.put, List.setIfInBounds_toArray, List.set_cons_zero, List.set_cons_succ]
            refine wpAnyH_take (i := 9) (oi := { dst := some 86, op := Op.fieldAddr 25 (Operand.tmp 5) 2, type := 0, pos := _, after := _, guard := some (5, true) }) (v := ?_) rfl (by kernel_rfl) (by kernel_rfl) (by kernel_rfl) (fun _ _ _ h => h) (Or.inl ⟨by rfl, ?_⟩) hHeld ?_
            rotate_left
            · (intro w hSw; (try dsimp only at hSw); obtain ⟨hS0, hS1, hS2⟩ := hSw; first | (go_simp; done) | (go_simp; with_reducible rfl))
            try simp only [Act.put, List.setIfInBounds_toArray, List.set_cons_zero, List.set_cons_succ]
            refine wpAnyH_take (i := 10) (oi := { dst := some 87, op := Op.load 23 (Operand.tmp 86), type := 23, pos := _, after := _, guard := some (5, true) }) (v := ?_) rfl (by kernel_rfl) (by kernel_rfl) (by kernel_rfl) (fun _ _ _ h => h) (Or.inl ⟨by rfl, ?_⟩) hHeld ?_
            rotate_left
            · (intro w hSw; (try dsimp only at hSw); obtain ⟨hS0, hS1, hS2⟩ := hSw; first | (go_simp; done) | (go_simp; with_reducible rfl))
            try simp only [Act.put, List.setIfInBounds_toArray, List.set_cons_zero, List.set_cons_succ]
            refine wpAnyH_take (i := 11) (oi := { dst := some 88, op := Op.fieldAddr 25 (Operand.tmp 5) 3, type := 0, pos := _, after := _, guard := some (5, true) }) (v := ?_) rfl (by kernel_rfl) (by kernel_rfl) (by kernel_rfl) (fun _ _ _ h => h) (Or.inl ⟨by rfl, ?_⟩) hHeld ?_
            rotate_left
            · (intro w hSw; (try dsimp only at hSw); obtain ⟨hS0, hS1, hS2⟩ := hSw; first | (go_simp; done) | (go_simp; with_reducible rfl))
            try simp only [Act.put, List.setIfInBounds_toArray, List.set_cons_zero, List.set_cons_succ]
            refine wpAnyH_take (i := 12) (oi := { dst := some 89, op := Op.load 3 (Operand.tmp 88), type := 3, pos := _, after := _, guard := some (5, true) }) (v := ?_) rfl (by kernel_rfl) (by kernel_rfl) (by kernel_rfl) (fun _ _ _ h => h) (Or.inl ⟨by rfl, ?_⟩) hHeld ?_
            rotate_left
            · (intro w hSw; (try dsimp only at hSw); obtain ⟨hS0, hS1, hS2⟩ := hSw; first | (go_simp; done) | (go_simp; with_reducible rfl))
            try simp only [Act.put, List.setIfInBounds_toArray, List.set_cons_zero, List.set_cons_succ]
            refine wpAnyH_take (i := 14) (oi := { dst := some 91, op := Op.move (Operand.tmp 10), type := 27, pos := _, after := _, guard := some (5, true) }) (v := ?_) rfl (by kernel_rfl) (by kernel_rfl) (by kernel_rfl) (fun _ _ _ h => h) (Or.inl ⟨by rfl, ?_⟩) hHeld ?_
            rotate_left
            · (intro w hSw; (try dsimp only at hSw); obtain ⟨hS0, hS1, hS2⟩ := hSw; first | (go_simp; done) | (go_simp; with_reducible rfl))
            try simp only [Act.put, List.setIfInBounds_toArray, List.set_cons_zero, List.set_cons_succ]
            refine wpAnyH_take (i := 15) (oi := { dst := some 92, op := Op.fieldAddr 25 (Operand.tmp 5) 1, type := 0, pos := _, after := _, guard := some (5, true) }) (v := ?_) rfl (by kernel_rfl) (by kernel_rfl) (by kernel_rfl) (fun _ _ _ h => h) (Or.inl ⟨by rfl, ?_⟩) hHeld ?_
            rotate_left
            · (intro w hSw; (try dsimp only at hSw); obtain ⟨hS0, hS1, hS2⟩ := hSw; first | (go_simp; done) | (go_simp; with_reducible rfl))
            try simp only [Act.put, List.setIfInBounds_toArray, List.set_cons_zero, List.set_cons_succ]
            refine wpAnyH_take (i := 16) (oi := { dst := some 93, op := Op.load 9 (Operand.tmp 92), type := 9, pos := _, after := _, guard := some (5, true) }) (v := ?_) rfl (by kernel_rfl) (by kernel_rfl) (by kernel_rfl) (fun _ _ _ h => h) (Or.inl ⟨by rfl, ?_⟩) hHeld ?_
            rotate_left
            · (intro w hSw; (try dsimp only at hSw); obtain ⟨hS0, hS1, hS2⟩ := hSw; first | (go_simp; done) | (go_simp; with_reducible rfl))
            try simp only [Act.put, List.setIfInBounds_toArray, List.set_cons_zero, List.set_cons_succ]
            refine wpAnyH_take (i := 17) (oi := { dst := some 94, op := Op.fieldAddr 25 (Operand.tmp 5) 2, type := 0, pos := _, after := _, guard := some (5, true) }) (v := ?_) rfl (by kernel_rfl) (by kernel_rfl) (by kernel_rfl) (fun _ _ _ h => h) (Or.inl ⟨by rfl, ?_⟩) hHeld ?_
            rotate_left
            · (intro w hSw; (try dsimp only at hSw); obtain ⟨hS0, hS1, hS2⟩ := hSw; first | (go_simp; done) | (go_simp; with_reducible rfl))
            try simp only [Act.put, List.setIfInBounds_toArray, List.set_cons_zero, List.set_cons_succ]
            refine wpAnyH_take (i := 18) (oi := { dst := some 95, op := Op.load 23 (Operand.tmp 94), type := 23, pos := _, after := _, guard := some (5, true) }) (v := ?_) rfl (by kernel_rfl) (by kernel_rfl) (by kernel_rfl) (fun _ _ _ h => h) (Or.inl ⟨by rfl, ?_⟩) hHeld ?_
            rotate_left
            · (intro w hSw; (try dsimp only at hSw); obtain ⟨hS0, hS1, hS2⟩ := hSw; first | (go_simp; done) | (go_simp; with_reducible rfl))
            try simp only [Act.put, List.setIfInBounds_toArray, List.set_cons_zero, List.set_cons_succ]
            refine wpAnyH_take (i := 19) (oi := { dst := some 96, op := Op.fieldAddr 25 (Operand.tmp 5) 3, type := 0, pos := _, after := _, guard := some (5, true) }) (v := ?_) rfl (by kernel_rfl) (by kernel_rfl) (by kernel_rfl) (fun _ _ _ h => h) (Or.inl ⟨by rfl, ?_⟩) hHeld ?_
            rotate_left
            · (intro w hSw; (try dsimp only at hSw); obtain ⟨hS0, hS1, hS2⟩ := hSw; first | (go_simp; done) | (go_simp; with_reducible rfl))
            try simp only [Act.put, List.setIfInBounds_toArray, List.set_cons_zero, List.set_cons_succ]
            refine wpAnyH_take (i := 20) (oi := { dst := some 97, op := Op.load 3 (Operand.tmp 96), type := 3, pos := _, after := _, guard := some (5, true) }) (v := ?_) rfl (by kernel_rfl) (by kernel_rfl) (by kernel_rfl) (fun _ _ _ h => h) (Or.inl ⟨by rfl, ?_⟩) hHeld ?_
            rotate_left
            · (intro w hSw; (try dsimp only at hSw); obtain ⟨hS0, hS1, hS2⟩ := hSw; first | (go_simp; done) | (go_simp; with_reducible rfl))
            try simp only [Act.put, List.setIfInBounds_toArray, List.set_cons_zero, List.set_cons_succ]
            refine wpAnyH_ready (rs := [13]) (by kernel_rfl) (by simp) (AllReadyH.cons (o := { dst := some 90, op := Op.call { callee := Callee.value (Operand.func 13), args := #[Operand.tmp 83, Operand.tmp 85, Operand.tmp 87, Operand.tmp 89], argTypes := #[27, 9, 23, 3] }, type := 36, pos := _, after := _, guard := some (5, true) }) rfl (fun K hK => ?_) AllReadyH.nil)
            go_simp
            refine (HP.out.1.clash a.path a.mode a.who hqa).mono ?_
            rintro x y2a ⟨A2, c2, rfl, HI2, hl2, hc2, _, HB2⟩
            replace HP := Lib.hid (HP.out.below HB2.out)
            have hK2a := HP.out.asks
            go_simp
            refine hK.out _ _ (hK2a) (fun hHeld => ?_)
            clear hK K
            try simp only [Act.put, List.setIfInBounds_toArray, List.set_cons_zero, List.set_cons_succ]
            refine wpAnyH_ready (rs := [21]) (by kernel_rfl) (by simp) (AllReadyH.cons (o := { dst := some 98, op := Op.call { callee := Callee.value (Operand.func 13), args := #[Operand.tmp 91, Operand.tmp 93, Operand.tmp 95, Operand.tmp 97], argTypes := #[27, 9, 23, 3] }, type := 36, pos := _, after := _, guard := some (5, true) }) rfl (fun K hK => ?_) AllReadyH.nil)
            go_simp
            refine (HP.out.2.1.clash a.path a.mode a.who hqa).mono ?_
            rintro x y2b ⟨B2, d2, rfl, HJ2, hm2, hd2, _, HC2⟩
            replace HP := Lib.hid (HP.out.below HC2.out)
            replace HI2 := Lib.hid (HI2.out.below HC2.out)
            have hK2b := HP.out.asks
            go_simp
            refine hK.out _ _ (hK2b) (fun hHeld => ?_)
            clear hK K
            try simp only [Act.put, List.setIfInBounds_toArray, List.set_cons_zero, List.set_cons_succ]
            refine wpAnyH_ready (rs := [22]) (by kernel_rfl) (by simp) (AllReadyH.cons (o := { dst := some 99, op := Op.call { callee := Callee.value (Operand.func 12), args := #[Operand.tmp 90, Operand.tmp 98], argTypes := #[36, 36] }, type := 4, pos := _, after := _, guard := some (5, true) }) rfl (fun K hK => ?_) AllReadyH.nil)
            go_simp
            refine (SameInts_any A2 B2 c2 d2 _ _ _ HI2.out HJ2.out hl2 hm2 hc2 hd2).mono ?_
            rintro x y2c ⟨rfl, h2⟩
            rw [decide_eq_true (rfl : _ = _)]
            replace HP := Lib.hid (HP.out.below h2)
            clear h2
            have hK2c := HP.out.asks
            go_simp
            refine hK.out _ _ (hK2c) (fun hHeld => ?_)
            clear hK K
            try simp only [Act.put, List.setIfInBounds_toArray, List.set_cons_zero, List.set_cons_succ]
            refine wpAnyH_take (i := 23) (oi := { dst := some 100, op := Op.pick (Operand.tmp 82) (Operand.tmp 99) (Operand.const (Value.bool false)), type := 4, pos := _, after := _, guard := none }) (v := ?_) rfl (by kernel_rfl) (by kernel_rfl) (by kernel_rfl) (fun _ _ _ h => h) (Or.inl ⟨by rfl, ?_⟩) hHeld ?_
            rotate_left
            · (intro w hSw; (try dsimp only at hSw); obtain ⟨hS0, hS1, hS2⟩ := hSw; first | (go_simp; done) | (go_simp; with_reducible rfl))
            try simp only [Act.put, List.setIfInBounds_toArray, List.set_cons_zero, List.set_cons_succ]
            refine wpAnyH_take (i := 24) (oi := { dst := some 101, op := Op.move (Operand.tmp 100), type := 4, pos := _, after := _, guard := none }) (v := ?_) rfl (by kernel_rfl) (by kernel_rfl) (by kernel_rfl) (fun _ _ _ h => h) (Or.inl ⟨by rfl, ?_⟩) hHeld ?_
            rotate_left
            · (intro w hSw; (try dsimp only at hSw); obtain ⟨hS0, hS1, hS2⟩ := hSw; first | (go_simp; done) | (go_simp; with_reducible rfl))
            try simp only [Act.put, List.setIfInBounds_toArray, List.set_cons_zero, List.set_cons_succ]
            refine wpAnyH_take (i := 25) (oi := { dst := some 102, op := Op.move (Operand.tmp 9), type := 27, pos := _, after := _, guard := some (24, true) }) (v := ?_) rfl (by kernel_rfl) (by kernel_rfl) (by kernel_rfl) (fun _ _ _ h => h) (Or.inl ⟨by rfl, ?_⟩) hHeld ?_
            rotate_left
            · (intro w hSw; (try dsimp only at hSw); obtain ⟨hS0, hS1, hS2⟩ := hSw; first | (go_simp; done) | (go_simp; with_reducible rfl))
            try simp only [Act.put, List.setIfInBounds_toArray, List.set_cons_zero, List.set_cons_succ]
            refine wpAnyH_take (i := 26) (oi := { dst := some 103, op := Op.fieldAddr 25 (Operand.tmp 5) 1, type := 0, pos := _, after := _, guard := some (24, true) }) (v := ?_) rfl (by kernel_rfl) (by kernel_rfl) (by kernel_rfl) (fun _ _ _ h => h) (Or.inl ⟨by rfl, ?_⟩) hHeld ?_
            rotate_left
            · (intro w hSw; (try dsimp only at hSw); obtain ⟨hS0, hS1, hS2⟩ := hSw; first | (go_simp; done) | (go_simp; with_reducible rfl))
            try simp only [Act.put, List.setIfInBounds_toArray, List.set_cons_zero, List.set_cons_succ]
            refine wpAnyH_take (i := 27) (oi := { dst := some 104, op := Op.load 9 (Operand.tmp 103), type := 9, pos := _, after := _, guard := some (24, true) }) (v := ?_) rfl (by kernel_rfl) (by kernel_rfl) (by kernel_rfl) (fun _ _ _ h => h) (Or.inl ⟨by rfl, ?_⟩) hHeld ?_
            rotate_left
            · (intro w hSw; (try dsimp only at hSw); obtain ⟨hS0, hS1, hS2⟩ := hSw; first | (go_simp; done) | (go_simp; with_reducible rfl))
            try simp only [Act.put, List.setIfInBounds_toArray, List.set_cons_zero, List.set_cons_succ]
            refine wpAnyH_take (i := 29) (oi := { dst := some 106, op := Op.move (Operand.tmp 10), type := 27, pos := _, after := _, guard := some (24, true) }) (v := ?_) rfl (by kernel_rfl) (by kernel_rfl) (by kernel_rfl) (fun _ _ _ h => h) (Or.inl ⟨by rfl, ?_⟩) hHeld ?_
            rotate_left
            · (intro w hSw; (try dsimp only at hSw); obtain ⟨hS0, hS1, hS2⟩ := hSw; first | (go_simp; done) | (go_simp; with_reducible rfl))
            try simp only [Act.put, List.setIfInBounds_toArray, List.set_cons_zero, List.set_cons_succ]
            refine wpAnyH_take (i := 30) (oi := { dst := some 107, op := Op.fieldAddr 25 (Operand.tmp 5) 1, type := 0, pos := _, after := _, guard := some (24, true) }) (v := ?_) rfl (by kernel_rfl) (by kernel_rfl) (by kernel_rfl) (fun _ _ _ h => h) (Or.inl ⟨by rfl, ?_⟩) hHeld ?_
            rotate_left
            · (intro w hSw; (try dsimp only at hSw); obtain ⟨hS0, hS1, hS2⟩ := hSw; first | (go_simp; done) | (go_simp; with_reducible rfl))
            try simp only [Act.put, List.setIfInBounds_toArray, List.set_cons_zero, List.set_cons_succ]
            refine wpAnyH_take (i := 31) (oi := { dst := some 108, op := Op.load 9 (Operand.tmp 107), type := 9, pos := _, after := _, guard := some (24, true) }) (v := ?_) rfl (by kernel_rfl) (by kernel_rfl) (by kernel_rfl) (fun _ _ _ h => h) (Or.inl ⟨by rfl, ?_⟩) hHeld ?_
            rotate_left
            · (intro w hSw; (try dsimp only at hSw); obtain ⟨hS0, hS1, hS2⟩ := hSw; first | (go_simp; done) | (go_simp; with_reducible rfl))
            try simp only [Act.put, List.setIfInBounds_toArray, List.set_cons_zero, List.set_cons_succ]
            refine wpAnyH_ready (rs := [28]) (by kernel_rfl) (by simp) (AllReadyH.cons (o := { dst := some 105, op := Op.call { callee := Callee.value (Operand.func 14), args := #[Operand.tmp 102, Operand.tmp 104], argTypes := #[27, 9] }, type := 36, pos := _, after := _, guard := some (24, true) }) rfl (fun K hK => ?_) AllReadyH.nil)
            go_simp
            refine (HP.out.1.over a.path hqa).mono ?_
            rintro x y3a ⟨A3, c3, rfl, HI3, hl3, hc3, _, HB3⟩
            replace HP := Lib.hid (HP.out.below HB3.out)
            have hK3a := HP.out.asks
            go_simp
            refine hK.out _ _ (hK3a) (fun hHeld => ?_)
            clear hK K
            try simp only [Act.put, List.setIfInBounds_toArray, List.set_cons_zero, List.set_cons_succ]
            refine wpAnyH_ready (rs := [32]) (by kernel_rfl) (by simp) (AllReadyH.cons (o := { dst := some 109, op := Op.call { callee := Callee.value (Operand.func 14), args := #[Operand.tmp 106, Operand.tmp 108], argTypes := #[27, 9] }, type := 36, pos := _, after := _, guard := some (24, true) }) rfl (fun K hK => ?_) AllReadyH.nil)
            go_simp
            refine (HP.out.2.1.over a.path hqa).mono ?_
            rintro x y3b ⟨B3, d3, rfl, HJ3, hm3, hd3, _, HC3⟩
            replace HP := Lib.hid (HP.out.below HC3.out)
            replace HI3 := Lib.hid (HI3.out.below HC3.out)
            have hK3b := HP.out.asks
            go_simp
            refine hK.out _ _ (hK3b) (fun hHeld => ?_)
            clear hK K
            try simp only [Act.put, List.setIfInBounds_toArray, List.set_cons_zero, List.set_cons_succ]
            refine wpAnyH_ready (rs := [33]) (by kernel_rfl) (by simp) (AllReadyH.cons (o := { dst := some 110, op := Op.call { callee := Callee.value (Operand.func 12), args := #[Operand.tmp 105, Operand.tmp 109], argTypes := #[36, 36] }, type := 4, pos := _, after := _, guard := some (24, true) }) rfl (fun K hK => ?_) AllReadyH.nil)
            go_simp
            refine (SameInts_any A3 B3 c3 d3 _ _ _ HI3.out HJ3.out hl3 hm3 hc3 hd3).mono ?_
            rintro x y3c ⟨rfl, h3⟩
            rw [decide_eq_true (rfl : _ = _)]
            replace HP := Lib.hid (HP.out.below h3)
            clear h3
            have hK3c := HP.out.asks
            go_simp
            refine hK.out _ _ (hK3c) (fun hHeld => ?_)
            clear hK K
            try simp only [Act.put, List.setIfInBounds_toArray, List.set_cons_zero, List.set_cons_succ]
            refine wpAnyH_take (i := 34) (oi := { dst := some 111, op := Op.pick (Operand.tmp 101) (Operand.tmp 110) (Operand.const (Value.bool false)), type := 4, pos := _, after := _, guard := none }) (v := ?_) rfl (by kernel_rfl) (by kernel_rfl) (by kernel_rfl) (fun _ _ _ h => h) (Or.inl ⟨by rfl, ?_⟩) hHeld ?_
            rotate_left
            · (intro w hSw; (try dsimp only at hSw); obtain ⟨hS0, hS1, hS2⟩ := hSw; first | (go_simp; done) | (go_simp; with_reducible rfl))
            try simp only [Act.put, List.setIfInBounds_toArray, List.set_cons_zero, List.set_cons_succ]
            refine wpAnyH_take (i := 35) (oi := { dst := some 112, op := Op.move (Operand.tmp 111), type := 4, pos := _, after := _, guard := none }) (v := ?_) rfl (by kernel_rfl) (by kernel_rfl) (by kernel_rfl) (fun _ _ _ h => h) (Or.inl ⟨by rfl, ?_⟩) hHeld ?_
            rotate_left
            · (intro w hSw; (try dsimp only at hSw); obtain ⟨hS0, hS1, hS2⟩ := hSw; first | (go_simp; done) | (go_simp; with_reducible rfl))
            try simp only [Act.put, List.setIfInBounds_toArray, List.set_cons_zero, List.set_cons_succ]
            refine wpAnyH_take (i := 36) (oi := { dst := some 113, op := Op.move (Operand.tmp 9), type := 27, pos := _, after := _, guard := some (35, true) }) (v := ?_) rfl (by kernel_rfl) (by kernel_rfl) (by kernel_rfl) (fun _ _ _ h => h) (Or.inl ⟨by rfl, ?_⟩) hHeld ?_
            rotate_left
            · (intro w hSw; (try dsimp only at hSw); obtain ⟨hS0, hS1, hS2⟩ := hSw; first | (go_simp; done) | (go_simp; with_reducible rfl))
            try simp only [Act.put, List.setIfInBounds_toArray, List.set_cons_zero, List.set_cons_succ]
            refine wpAnyH_take (i := 37) (oi := { dst := some 114, op := Op.fieldAddr 25 (Operand.tmp 5) 1, type := 0, pos := _, after := _, guard := some (35, true) }) (v := ?_) rfl (by kernel_rfl) (by kernel_rfl) (by kernel_rfl) (fun _ _ _ h => h) (Or.inl ⟨by rfl, ?_⟩) hHeld ?_
            rotate_left
            · (intro w hSw; (try dsimp only at hSw); obtain ⟨hS0, hS1, hS2⟩ := hSw; first | (go_simp; done) | (go_simp; with_reducible rfl))
            try simp only [Act.put, List.setIfInBounds_toArray, List.set_cons_zero, List.set_cons_succ]
            refine wpAnyH_take (i := 38) (oi := { dst := some 115, op := Op.load 9 (Operand.tmp 114), type := 9, pos := _, after := _, guard := some (35, true) }) (v := ?_) rfl (by kernel_rfl) (by kernel_rfl) (by kernel_rfl) (fun _ _ _ h => h) (Or.inl ⟨by rfl, ?_⟩) hHeld ?_
            rotate_left
            · (intro w hSw; (try dsimp only at hSw); obtain ⟨hS0, hS1, hS2⟩ := hSw; first | (go_simp; done) | (go_simp; with_reducible rfl))
            try simp only [Act.put, List.setIfInBounds_toArray, List.set_cons_zero, List.set_cons_succ]
            refine wpAnyH_take (i := 40) (oi := { dst := some 117, op := Op.move (Operand.tmp 10), type := 27, pos := _, after := _, guard := some (35, true) }) (v := ?_) rfl (by kernel_rfl) (by kernel_rfl) (by kernel_rfl) (fun _ _ _ h => h) (Or.inl ⟨by rfl, ?_⟩) hHeld ?_
            rotate_left
            · (intro w hSw; (try dsimp only at hSw); obtain ⟨hS0, hS1, hS2⟩ := hSw; first | (go_simp; done) | (go_simp; with_reducible rfl))
            try simp only [Act.put, List.setIfInBounds_toArray, List.set_cons_zero, List.set_cons_succ]
            refine wpAnyH_take (i := 41) (oi := { dst := some 118, op := Op.fieldAddr 25 (Operand.tmp 5) 1, type := 0, pos := _, after := _, guard := some (35, true) }) (v := ?_) rfl (by kernel_rfl) (by kernel_rfl) (by kernel_rfl) (fun _ _ _ h => h) (Or.inl ⟨by rfl, ?_⟩) hHeld ?_
            rotate_left
            · (intro w hSw; (try dsimp only at hSw); obtain ⟨hS0, hS1, hS2⟩ := hSw; first | (go_simp; done) | (go_simp; with_reducible rfl))
            try simp only [Act.put, List.setIfInBounds_toArray, List.set_cons_zero, List.set_cons_succ]
            refine wpAnyH_take (i := 42) (oi := { dst := some 119, op := Op.load 9 (Operand.tmp 118), type := 9, pos := _, after := _, guard := some (35, true) }) (v := ?_) rfl (by kernel_rfl) (by kernel_rfl) (by kernel_rfl) (fun _ _ _ h => h) (Or.inl ⟨by rfl, ?_⟩) hHeld ?_
            rotate_left
            · (intro w hSw; (try dsimp only at hSw); obtain ⟨hS0, hS1, hS2⟩ := hSw; first | (go_simp; done) | (go_simp; with_reducible rfl))
            try simp only [Act.put, List.setIfInBounds_toArray, List.set_cons_zero, List.set_cons_succ]
            refine wpAnyH_ready (rs := [39]) (by kernel_rfl) (by simp) (AllReadyH.cons (o := { dst := some 116, op := Op.call { callee := Callee.value (Operand.func 15), args := #[Operand.tmp 113, Operand.tmp 115], argTypes := #[27, 9] }, type := 36, pos := _, after := _, guard := some (35, true) }) rfl (fun K hK => ?_) AllReadyH.nil)
            go_simp
            refine (HP.out.1.under a.path hqa).mono ?_
            rintro x y4a ⟨A4, c4, rfl, HI4, hl4, hc4, _, HB4⟩
            replace HP := Lib.hid (HP.out.below HB4.out)
            have hK4a := HP.out.asks
            go_simp
            refine hK.out _ _ (hK4a) (fun hHeld => ?_)
            clear hK K
            try simp only [Act.put, List.setIfInBounds_toArray, List.set_cons_zero, List.set_cons_succ]
            refine wpAnyH_ready (rs := [43]) (by kernel_rfl) (by simp) (AllReadyH.cons (o := { dst := some 120, op := Op.call { callee := Callee.value (Operand.func 15), args := #[Operand.tmp 117, Operand.tmp 119], argTypes := #[27, 9] }, type := 36, pos := _, after := _, guard := some (35, true) }) rfl (fun K hK => ?_) AllReadyH.nil)
            go_simp
            refine (HP.out.2.1.under a.path hqa).mono ?_
            rintro x y4b ⟨B4, d4, rfl, HJ4, hm4, hd4, _, HC4⟩
            replace HP := Lib.hid (HP.out.below HC4.out)
            replace HI4 := Lib.hid (HI4.out.below HC4.out)
            have hK4b := HP.out.asks
            go_simp
            refine hK.out _ _ (hK4b) (fun hHeld => ?_)
            clear hK K
            try simp only [Act.put, List.setIfInBounds_toArray, List.set_cons_zero, List.set_cons_succ]
            refine wpAnyH_ready (rs := [44]) (by kernel_rfl) (by simp) (AllReadyH.cons (o := { dst := some 121, op := Op.call { callee := Callee.value (Operand.func 12), args := #[Operand.tmp 116, Operand.tmp 120], argTypes := #[36, 36] }, type := 4, pos := _, after := _, guard := some (35, true) }) rfl (fun K hK => ?_) AllReadyH.nil)
            go_simp
            refine (SameInts_any A4 B4 c4 d4 _ _ _ HI4.out HJ4.out hl4 hm4 hc4 hd4).mono ?_
            rintro x y4c ⟨rfl, h4⟩
            rw [decide_eq_true (rfl : _ = _)]
            replace HP := Lib.hid (HP.out.below h4)
            clear h4
            have hK4c := HP.out.asks
            go_simp
            refine hK.out _ _ (hK4c) (fun hHeld => ?_)
            clear hK K
            try simp only [Act.put, List.setIfInBounds_toArray, List.set_cons_zero, List.set_cons_succ]
            refine wpAnyH_take (i := 45) (oi := { dst := some 122, op := Op.pick (Operand.tmp 112) (Operand.tmp 121) (Operand.const (Value.bool false)), type := 4, pos := _, after := _, guard := none }) (v := ?_) rfl (by kernel_rfl) (by kernel_rfl) (by kernel_rfl) (fun _ _ _ h => h) (Or.inl ⟨by rfl, ?_⟩) hHeld ?_
            rotate_left
            · (intro w hSw; (try dsimp only at hSw); obtain ⟨hS0, hS1, hS2⟩ := hSw; first | (go_simp; done) | (go_simp; with_reducible rfl))
            try simp only [Act.put, List.setIfInBounds_toArray, List.set_cons_zero, List.set_cons_succ]
            refine wpAnyH_take (i := 46) (oi := { dst := some 123, op := Op.move (Operand.tmp 122), type := 4, pos := _, after := _, guard := none }) (v := ?_) rfl (by kernel_rfl) (by kernel_rfl) (by kernel_rfl) (fun _ _ _ h => h) (Or.inl ⟨by rfl, ?_⟩) hHeld ?_
            rotate_left
            · (intro w hSw; (try dsimp only at hSw); obtain ⟨hS0, hS1, hS2⟩ := hSw; first | (go_simp; done) | (go_simp; with_reducible rfl))
            try simp only [Act.put, List.setIfInBounds_toArray, List.set_cons_zero, List.set_cons_succ]
            refine wpAnyH_take (i := 47) (oi := { dst := some 124, op := Op.move (Operand.tmp 9), type := 27, pos := _, after := _, guard := some (46, true) }) (v := ?_) rfl (by kernel_rfl) (by kernel_rfl) (by kernel_rfl) (fun _ _ _ h => h) (Or.inl ⟨by rfl, ?_⟩) hHeld ?_
            rotate_left
            · (intro w hSw; (try dsimp only at hSw); obtain ⟨hS0, hS1, hS2⟩ := hSw; first | (go_simp; done) | (go_simp; with_reducible rfl))
            try simp only [Act.put, List.setIfInBounds_toArray, List.set_cons_zero, List.set_cons_succ]
            refine wpAnyH_take (i := 49) (oi := { dst := some 126, op := Op.move (Operand.tmp 10), type := 27, pos := _, after := _, guard := some (46, true) }) (v := ?_) rfl (by kernel_rfl) (by kernel_rfl) (by kernel_rfl) (fun _ _ _ h => h) (Or.inl ⟨by rfl, ?_⟩) hHeld ?_
            rotate_left
            · (intro w hSw; (try dsimp only at hSw); obtain ⟨hS0, hS1, hS2⟩ := hSw; first | (go_simp; done) | (go_simp; with_reducible rfl))
            try simp only [Act.put, List.setIfInBounds_toArray, List.set_cons_zero, List.set_cons_succ]
            refine wpAnyH_ready (rs := [48]) (by kernel_rfl) (by simp) (AllReadyH.cons (o := { dst := some 125, op := Op.call { callee := Callee.value (Operand.func 16), args := #[Operand.tmp 124], argTypes := #[27] }, type := 3, pos := _, after := _, guard := some (46, true) }) rfl (fun K hK => ?_) AllReadyH.nil)
            go_simp
            refine (HP.out.1.len).mono ?_
            rintro x y5a ⟨rfl, _, HB5⟩
            replace HP := Lib.hid (HP.out.below HB5.out)
            have hK5a := HP.out.asks
            go_simp
            refine hK.out _ _ (hK5a) (fun hHeld => ?_)
            clear hK K
            try simp only [Act.put, List.setIfInBounds_toArray, List.set_cons_zero, List.set_cons_succ]
            refine wpAnyH_ready (rs := [50]) (by kernel_rfl) (by simp) (AllReadyH.cons (o := { dst := some 127, op := Op.call { callee := Callee.value (Operand.func 16), args := #[Operand.tmp 126], argTypes := #[27] }, type := 3, pos := _, after := _, guard := some (46, true) }) rfl (fun K hK => ?_) AllReadyH.nil)
            go_simp
            refine (HP.out.2.1.len).mono ?_
            rintro x y5b ⟨rfl, _, HB6⟩
            replace HP := Lib.hid (HP.out.below HB6.out)
            have hK5b := HP.out.asks
            go_simp
            refine hK.out _ _ (hK5b) (fun hHeld => ?_)
            clear hK K
            try simp only [Act.put, List.setIfInBounds_toArray, List.set_cons_zero, List.set_cons_succ]
            refine wpAnyH_take (i := 51) (oi := { dst := some 128, op := Op.binOp BinOp.eql 3 (Operand.tmp 125) (Operand.tmp 127) 3, type := 4, pos := _, after := _, guard := some (46, true) }) (v := ?_) rfl (by kernel_rfl) (by kernel_rfl) (by kernel_rfl) (fun _ _ _ h => h) (Or.inl ⟨by rfl, ?_⟩) hHeld ?_
            rotate_left
            · (intro w hSw; (try dsimp only at hSw); obtain ⟨hS0, hS1, hS2⟩ := hSw; first | (go_simp; done) | (go_simp; with_reducible rfl))
            try simp only [Act.put, List.setIfInBounds_toArray, List.set_cons_zero, List.set_cons_succ]
            refine wpAnyH_take (i := 52) (oi := { dst := some 129, op := Op.pick (Operand.tmp 123) (Operand.tmp 128) (Operand.const (Value.bool false)), type := 4, pos := _, after := _, guard := none }) (v := ?_) rfl (by kernel_rfl) (by kernel_rfl) (by kernel_rfl) (fun _ _ _ h => h) (Or.inl ⟨by rfl, ?_⟩) hHeld ?_
            rotate_left
            · (intro w hSw; (try dsimp only at hSw); obtain ⟨hS0, hS1, hS2⟩ := hSw; first | (go_simp; done) | (go_simp; with_reducible rfl))
            try simp only [Act.put, List.setIfInBounds_toArray, List.set_cons_zero, List.set_cons_succ]
            refine wpAnyH_take (i := 53) (oi := { dst := some 6, op := Op.assign (Operand.tmp 129), type := 4, pos := _, after := _, guard := none }) (v := ?_) rfl (by kernel_rfl) (by kernel_rfl) (by kernel_rfl) (fun _ _ _ h => h) (Or.inl ⟨by rfl, ?_⟩) hHeld ?_
            rotate_left
            · (intro w hSw; (try dsimp only at hSw); obtain ⟨hS0, hS1, hS2⟩ := hSw; first | (go_simp; done) | (go_simp; with_reducible rfl))
            try simp only [Act.put, List.setIfInBounds_toArray, List.set_cons_zero, List.set_cons_succ]
            refine wpAnyH_done (by kernel_rfl) ?_ _
            refine NoPanic.normal ?_
            have hend := (HBx.out _ HP.out.1.on).2.2
            go_wp2_with fail
            go_ret
            exact ⟨rfl, hend⟩
end Go.Proofs.YtfgilhcjfpfjbaaDoor.ahead
