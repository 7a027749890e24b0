/- The document's own answers of layer 5: what is put in. -/
import Derived.Test.YtbgcjbekbeobnaaGreatDoorPsR2
import Derived.StillTailTactics
namespace Go.Proofs.YtbgcjbekbeobnaaGreatDoor
open Go.RowKit
open SE (Ent)
set_option linter.unusedVariables false
set_option maxRecDepth 100000
/-- A list of entries and an answer beside it. -/
def TwoE (A0 : Option Addr) (w : World) (r : List Ent) (x : Value) (e : Ending) (w' : World) : Prop := ∃ A n c, e = .returned (.tuple #[.slice A n c, x]) ∧ n = r.length ∧ EntsAt w' A r ∧ n ≤ c ∧ c ≤ 9223372036854775807 ∧ Below w.heap.size w w' ∧ (A = A0 ∨ ∀ ad, A = some ad → w.heap.size ≤ ad.block ∧ ad.block < w'.heap.size)
theorem own_fresh {w : World} {base : Nat} {e : TypeId} {A : Option Addr} {n m c size : Nat} {xs : List Value} (h : w.ownsRow base e size (.slice A m c) n xs) {ad : Addr} (ha : A = some ad) : base ≤ ad.block ∧ ad.block < w.heap.size := by
  rcases h.2 with ⟨h1, _⟩ | ⟨g, cap, cur, hv, hb, hh, _⟩
  · injection h1 with h1
    rw [h1] at ha; cases ha
  · injection hv with hA
    rw [hA] at ha
    injection ha with ha
    subst ha
    exact ⟨hb, (Array.getElem?_eq_some_iff.1 hh).1⟩
theorem put_path {l : List Ent} {e : Ent} (h : PM.okB (SE.p e) = false) : SE.put l e = (l, 10) := by unfold SE.put; rw [if_pos h]
theorem put_mode {l : List Ent} {e : Ent} (h : PM.okB (SE.p e) = true) (h2 : SE.okMode e.mode = false) : SE.put l e = (l, 11) := by unfold SE.put; rw [if_neg (by rw [h]; decide), if_pos h2]
theorem put_twice {l : List Ent} {e : Ent} (h : PM.okB (SE.p e) = true) (h2 : SE.okMode e.mode = true) (h3 : SE.has l e.id = true) : SE.put l e = (l, 50) := by unfold SE.put; rw [if_neg (by rw [h]; decide), if_neg (by rw [h2]; decide), if_pos h3]
theorem put_full {l : List Ent} {e : Ent} (h : PM.okB (SE.p e) = true) (h2 : SE.okMode e.mode = true) (h3 : SE.has l e.id = false) (h4 : l.length = 64) : SE.put l e = (l, 51) := by unfold SE.put; rw [if_neg (by rw [h]; decide), if_neg (by rw [h2]; decide), if_neg (by rw [h3]; decide), if_pos h4]
theorem put_in {l : List Ent} {e : Ent} (h : PM.okB (SE.p e) = true) (h2 : SE.okMode e.mode = true) (h3 : SE.has l e.id = false) (h4 : l.length ≠ 64) : SE.put l e = (SE.ins l e, 0) := by unfold SE.put; rw [if_neg (by rw [h]; decide), if_neg (by rw [h2]; decide), if_neg (by rw [h3]; decide), if_neg h4]
theorem find_has {l : List Ent} {id : Int} : (SE.has l id = true ∧ 0 ≤ SE.find l id ∧ SE.find l id < l.length) ∨ (SE.has l id = false ∧ SE.find l id = -1) := by
  unfold SE.find
  cases h : l.findIdx? (fun e => decide (e.id = id)) with
  | some i =>
    left
    obtain ⟨hi, hp, _⟩ := List.findIdx?_eq_some_iff_getElem.1 h
    refine ⟨SE.has_iff.2 ⟨l[i], List.getElem_mem hi, by simpa using hp⟩, by simp only; omega, by simp only; omega⟩
  | none =>
    right
    refine ⟨?_, rfl⟩
    cases hh : SE.has l id with
    | false => rfl
    | true =>
      obtain ⟨e, he, h2⟩ := SE.has_iff.1 hh
      have := List.findIdx?_eq_none_iff.1 h e he
      simp [h2] at this
theorem ins_all {l : List Ent} {e : Ent} {k : Nat} (h : ∀ j (hj : j < l.length), j < k → SE.before l[j] e = true) (hk : k ≤ l.length) (hs : ∀ (hk : k < l.length), SE.before l[k] e = false) : SE.ins l e = l.take k ++ e :: l.drop k := by
  have e1 : l = l.take k ++ l.drop k := (List.take_append_drop k l).symm
  have ht : ∀ x ∈ l.take k, SE.before x e = true := fun x hx => by
    obtain ⟨j, hj, rfl⟩ := List.getElem_of_mem hx
    rw [List.length_take] at hj
    rw [List.getElem_take]
    exact h j (by omega) (by omega)
  have hd : (l.drop k).takeWhile (fun x => SE.before x e) = [] := by
    cases hd : l.drop k with
    | nil => rfl
    | cons x r =>
      have hlt : k < l.length := by
        refine Nat.lt_of_not_le fun hle => ?_
        rw [List.drop_of_length_le hle] at hd
        cases hd
      have hx := hs hlt
      rw [List.drop_eq_getElem_cons hlt] at hd
      injection hd with hd _
      rw [hd] at hx
      rw [List.takeWhile_cons, hx]
      rfl
  have hd2 : (l.drop k).dropWhile (fun x => SE.before x e) = l.drop k := by
    have h3 := List.takeWhile_append_dropWhile (p := fun x => SE.before x e) (l := l.drop k)
    rw [hd, List.nil_append] at h3
    exact h3
  unfold SE.ins
  conv => lhs; rw [e1]
  rw [List.takeWhile_append_of_pos ht, List.dropWhile_append_of_pos ht, hd, hd2, List.append_nil]
theorem boxed {w w2 : World} (e : Ent) (hb : Below (w.alloc (.cells (four e).toArray 29)).heap.size (w.alloc (.cells (four e).toArray 29)) w2) : EntCells w2 w.heap.size 0 e ∧ Below w.heap.size w w2 ∧ w.heap.size < w2.heap.size := by
  have key : ∀ k, w2.cell? ⟨w.heap.size, k, none⟩ = (four e).toArray[k]? := fun k =>
    (hb.cell (p := ⟨w.heap.size, k, none⟩) (by rw [World.size_alloc]; show w.heap.size < _; omega)).trans (World.cell?_alloc_new _ _ _ k)
  have hs := hb.size
  rw [World.size_alloc] at hs
  exact ⟨⟨key 0, key 1, key 2, key 3⟩, ((Below.refl _ w).alloc (Nat.le_refl _) _).trans (hb.mono (by rw [World.size_alloc]; omega)), by omega⟩
theorem EntCells.below {w w2 : World} {b k : Nat} {e : Ent} (h : EntCells w b k e) (hb : b < w.heap.size) (hw : Below w.heap.size w w2) : EntCells w2 b k e :=
  ⟨(hw.cell (p := ⟨b, k, none⟩) hb).trans h.1, (hw.cell (p := ⟨b, k + 1, none⟩) hb).trans h.2.1, (hw.cell (p := ⟨b, k + 2, none⟩) hb).trans h.2.2.1, (hw.cell (p := ⟨b, k + 3, none⟩) hb).trans h.2.2.2⟩
set_option maxHeartbeats 4000000 in
theorem RefPut_any (A : Option Addr) (c : Nat) (l : List Ent) (e : Ent) (w : World) (hA : EntsAt w A l) (hl : l.length ≤ c) (hc : c ≤ 9223372036854775807) (h64 : l.length ≤ 64) (hF : ∀ x ∈ l, Fair x) (hE : Fair e) :
    Calls Tryz.prog 22 #[.slice A l.length c, agg e] w (TwoE A w (SE.put l e).1 (.int .i64 (SE.put l e).2)) := by
  have HA := Lib.hid hA
  have HF := Lib.hid hF
  have HFd := Lib.hid (fun w (hA : EntsAt w A l) => Find_any A c l e.id w hA hl hc)
  clear hA hF
  obtain ⟨q1, q2, q3, q4⟩ := hE
  have HV := Lib.hid (fun w => RValid_any e.path w q2)
  have HM := Lib.hid (fun w => Mode_any e.mode w)
  have hfh := find_has (l := l) (id := e.id)
  have HBX := Lib.hid (fun w w2 => boxed (w := w) (w2 := w2) e)
  cases h1 : PM.okB e.path.data.toList with
  | false =>
    have HE := Lib.hid (put_path (l := l) (e := e) h1)
    rw [h1] at HV
    rw [HE.out]
    clear h1 hfh
    unfold agg
    go_enter Tryz.func22, Tryz.ntmps22
    go_wp2_with fail
    refine (HV.out _).mono ?_
    rintro x w2 ⟨rfl, hb⟩
    have HB := Lib.hid (HBX.out _ _ hb); clear hb
    go_wp2_with fail
    go_ret2
    exact ⟨_, _, _, rfl, rfl, HA.out.below HB.out.2.1, hl, hc, HB.out.2.1, .inl rfl⟩
  | true =>
    rw [h1] at HV
    cases h2 : SE.okMode e.mode with
    | false =>
      have HE := Lib.hid (put_mode (l := l) (e := e) h1 h2)
      rw [h2] at HM
      rw [HE.out]
      clear h1 h2 hfh
      unfold agg
      go_enter Tryz.func22, Tryz.ntmps22
      go_wp2_with fail
      refine (HV.out _).mono ?_
      rintro x w2 ⟨rfl, hb⟩
      have HB := Lib.hid (HBX.out _ _ hb); clear hb
      have b2 : w2.cell? ⟨w.heap.size, 2, none⟩ = some (.int .i64 e.mode) := HB.out.1.2.2.1
      go_wp2_with fail
      refine (HM.out _).mono ?_
      rintro x w3 ⟨rfl, rfl⟩
      go_wp2_with fail
      go_ret2
      exact ⟨_, _, _, rfl, rfl, HA.out.below HB.out.2.1, hl, hc, HB.out.2.1, .inl rfl⟩
    | true =>
      rw [h2] at HM
      rcases hfh with ⟨h3, f1, f2⟩ | ⟨h3, f1⟩
      · have HE := Lib.hid (put_twice (l := l) (e := e) h1 h2 h3)
        rw [HE.out]
        clear h1 h2 h3
        generalize SE.find l e.id = z at HFd f1 f2
        unfold agg
        go_enter Tryz.func22, Tryz.ntmps22
        go_wp2_with fail
        refine (HV.out _).mono ?_
        rintro x w2 ⟨rfl, hb⟩
        have HB := Lib.hid (HBX.out _ _ hb); clear hb
        have b2 : w2.cell? ⟨w.heap.size, 2, none⟩ = some (.int .i64 e.mode) := HB.out.1.2.2.1
        have b0 : w2.cell? ⟨w.heap.size, 0, none⟩ = some (.int .i64 e.id) := HB.out.1.1
        go_wp2_with fail
        refine (HM.out _).mono ?_
        rintro x w3 ⟨rfl, rfl⟩
        go_wp2_with fail
        refine (HFd.out _ (HA.out.below HB.out.2.1)).mono ?_
        rintro x w3 ⟨rfl, rfl⟩
        go_wp2_with fail
        go_ret2
        exact ⟨_, _, _, rfl, rfl, HA.out.below HB.out.2.1, hl, hc, HB.out.2.1, .inl rfl⟩
      · rw [f1] at HFd
        by_cases h4 : l.length = 64
        · have HE := Lib.hid (put_full (l := l) (e := e) h1 h2 h3 h4)
          rw [HE.out]
          have d4 : ((l.length : Int) == 64) = true := by simpa using (show (l.length : Int) = 64 by omega)
          clear h1 h2 h3 f1 h4
          unfold agg
          go_enter Tryz.func22, Tryz.ntmps22
          go_wp2_with fail
          refine (HV.out _).mono ?_
          rintro x w2 ⟨rfl, hb⟩
          have HB := Lib.hid (HBX.out _ _ hb); clear hb
          have b2 : w2.cell? ⟨w.heap.size, 2, none⟩ = some (.int .i64 e.mode) := HB.out.1.2.2.1
          have b0 : w2.cell? ⟨w.heap.size, 0, none⟩ = some (.int .i64 e.id) := HB.out.1.1
          go_wp2_with fail
          refine (HM.out _).mono ?_
          rintro x w3 ⟨rfl, rfl⟩
          go_wp2_with fail
          refine (HFd.out _ (HA.out.below HB.out.2.1)).mono ?_
          rintro x w3 ⟨rfl, rfl⟩
          go_wp2_with fail
          go_ret2
          exact ⟨_, _, _, rfl, rfl, HA.out.below HB.out.2.1, hl, hc, HB.out.2.1, .inl rfl⟩
        · have HE := Lib.hid (put_in (l := l) (e := e) h1 h2 h3 h4)
          rw [HE.out]
          have d4 : ((l.length : Int) == 64) = false := by
            have : ¬ (l.length : Int) = 64 := by omega
            simpa using this
          clear h1 h2 h3 f1 h4
          unfold agg
          go_enter Tryz.func22, Tryz.ntmps22
          go_wp2_with fail
          refine (HV.out _).mono ?_
          rintro x w2 ⟨rfl, hb⟩
          have HB := Lib.hid (HBX.out _ _ hb); clear hb
          have b2 : w2.cell? ⟨w.heap.size, 2, none⟩ = some (.int .i64 e.mode) := HB.out.1.2.2.1
          have b0 : w2.cell? ⟨w.heap.size, 0, none⟩ = some (.int .i64 e.id) := HB.out.1.1
          go_wp2_with fail
          refine (HM.out _).mono ?_
          rintro x w3 ⟨rfl, rfl⟩
          go_wp2_with fail
          refine (HFd.out _ (HA.out.below HB.out.2.1)).mono ?_
          rintro x w3 ⟨rfl, rfl⟩
          go_wp2_with fail
          have HA2 := Lib.hid (HA.out.below HB.out.2.1)
          have hw2 := HB.out.2.2
          go_loopw [6, 7] (fun v i wx => ∃ k : Nat, i = .int .i64 (k : Int) ∧ k ≤ l.length ∧ Hid (∀ j (hj : j < l.length), j < k → SE.before l[j] e = true) ∧ Hid (GrewE w2 (l.take k) v wx)) (fun _ i _ => l.length - (intOf i).toNat)
          case atStart => exact ⟨0, rfl, by omega, Lib.hid (fun j _ hj => by omega), Lib.hid (by rw [List.take_zero]; exact GrewE.nil w2)⟩
          case round =>
            obtain ⟨k, rfl, hk, HT, HG⟩ := hrel
            by_cases hlt : k < l.length
            · obtain ⟨b, o, eA, hb, hca⟩ := HA2.out (by omega)
              subst eA
              have hx := hca k l[k] (List.getElem?_eq_getElem hlt)
              have hx0 := hx
              obtain ⟨x0, x1, x2, x3⟩ := hx.below hb HG.out.2
              have hy0 := HB.out.1
              obtain ⟨y0, y1, y2, y3⟩ := hy0.below hw2 HG.out.2
              have hfx := (HF.out l[k] (List.getElem_mem hlt)).2.1
              have HBF := Lib.hid (fun w => before_any l[k] e w hfx)
              unfold agg at HBF
              replace y1 : wr.cell? ⟨w.heap.size, 1, none⟩ = some (.string e.path) := y1
              replace y2 : wr.cell? ⟨w.heap.size, 2, none⟩ = some (.int .i64 e.mode) := y2
              replace y3 : wr.cell? ⟨w.heap.size, 3, none⟩ = some (.int .i64 e.who) := y3
              clear hca hx b0 b2
              go_wp2_with fail
              have hdk : decide ((k : Int) < (l.length : Int)) = true := decide_eq_true (by omega)
              have HX := Lib.hid hx0
              have HY := Lib.hid hy0
              clear hx0 hy0
              cases hbf : SE.before l[k] e with
              | true =>
                have HS := Lib.hid (show ∀ j (hj : j < l.length), j < k + 1 → SE.before l[j] e = true from fun j hj h => by
                  by_cases e1 : j = k
                  · subst e1; exact hbf
                  · exact HT.out j hj (by omega))
                have HTK := Lib.hid (show l.take k ++ [l[k]] = l.take (k + 1) by rw [List.take_add_one, List.getElem?_eq_getElem hlt]; rfl)
                rw [hbf] at HBF
                clear hbf hfx
                generalize l[k] = x at x0 x1 x2 x3 HBF HX HTK
                go_still_tail 10, (by kernel_rfl)
                change wpList _ _ _ _ _ wr.drew
                go_wp2_with fail
                refine (HBF.out _).mono ?_
                rintro z w3 ⟨rfl, hb3⟩
                have HG3 := Lib.hid (HG.out.keep (w2 := w3) (Below.trans (Below.drew (Below.refl _ wr)) hb3))
                obtain ⟨z0, z1, z2, z3⟩ := HX.out.below hb HG3.out.2
                clear hb3 x0 x1 x2 x3 y0 y1 y2 y3
                go_wp2_with (at_builtin; refine app_ent rfl (.tmp 44) (.tmp 49) rfl _ _ HG3.out rfl x rfl (by rw [List.length_take]; omega) ?_; intro v2 w4 hg2; rw [HTK.out] at hg2; have HG4 := Lib.hid hg2; clear hg2)
                go_wp2_with fail
                go_roundw
                case rel => exact ⟨k + 1, rfl, by omega, HS, HG4⟩
                case measure => simp only [intOf]; omega
              | false =>
                have HNK := (show ∀ (hk : k < l.length), SE.before l[k] e = false from fun _ => hbf)
                rw [hbf] at HBF
                clear hbf hfx
                generalize l[k] = x at x0 x1 x2 x3 HBF
                go_still_tail 10, (by kernel_rfl)
                change wpList _ _ _ _ _ wr.drew
                go_wp2_with fail
                refine (HBF.out _).mono ?_
                rintro z w3 ⟨rfl, hb3⟩
                have HG3 := Lib.hid (HG.out.keep (w2 := w3) (Below.trans (Below.drew (Below.refl _ wr)) hb3))
                clear hb3 x0 x1 x2 x3 y0 y1 y2 y3 HX HY HG
                have HIN := Lib.hid (ins_all (fun j hj h => HT.out j hj h) hk HNK)
                obtain ⟨y0, y1, y2, y3⟩ := HB.out.1.below hw2 HG3.out.2
                replace y1 : w3.cell? ⟨w.heap.size, 1, none⟩ = some (.string e.path) := y1
                replace y2 : w3.cell? ⟨w.heap.size, 2, none⟩ = some (.int .i64 e.mode) := y2
                replace y3 : w3.cell? ⟨w.heap.size, 3, none⟩ = some (.int .i64 e.who) := y3
                go_wp2_with (at_builtin; refine app_ent rfl (.tmp 53) (.tmp 55) rfl _ _ HG3.out rfl e rfl (by rw [List.length_take]; omega) ?_; intro v2 w4 hg2; have HG4 := Lib.hid hg2; clear hg2)
                clear y0 y1 y2 y3
                go_wp2_with fail
                go_loopw [6, 7] (fun v i wx => ∃ j : Nat, i = .int .i64 (j : Int) ∧ k ≤ j ∧ j ≤ l.length ∧ Hid (GrewE w2 ((l.take k ++ [e]) ++ (l.take j).drop k) v wx)) (fun _ i _ => l.length - (intOf i).toNat)
                case atStart => exact ⟨k, rfl, Nat.le_refl _, hk, Lib.hid (by rw [List.drop_of_length_le (by rw [List.length_take]; omega), List.append_nil]; exact HG4.out)⟩
                case round =>
                  obtain ⟨j, rfl, hkj, hj, HG⟩ := hrel
                  by_cases hltj : j < l.length
                  · obtain ⟨b, o, eA, hb, hca⟩ := HA2.out (by omega)
                    first | subst eA | (injection eA with eA; injection eA with eA1 eA2; subst eA1; subst eA2)
                    have hx := hca j l[j] (List.getElem?_eq_getElem hltj)
                    obtain ⟨x0, x1, x2, x3⟩ := hx.below hb HG.out.2
                    have HTK := Lib.hid (show ((l.take k ++ [e]) ++ (l.take j).drop k) ++ [l[j]] = (l.take k ++ [e]) ++ (l.take (j + 1)).drop k by
                      rw [List.append_assoc, List.take_add_one, List.getElem?_eq_getElem hltj, List.drop_append_of_le_length (by rw [List.length_take]; omega)]; rfl)
                    have HLN := Lib.hid (show (((l.take k ++ [e]) ++ (l.take j).drop k).length + 1) * 40 ≤ 140737488355328 by
                      simp only [List.length_append, List.length_take, List.length_drop, List.length_singleton]; omega)
                    clear hx hca
                    generalize l[j] = x at x0 x1 x2 x3 HTK
                    go_wp2_with (at_builtin; refine app_ent rfl (.tmp 61) (.tmp 66) rfl _ _ HG.out rfl x rfl HLN.out ?_; intro v2 w5 hg2; rw [HTK.out] at hg2; have HG5 := Lib.hid hg2; clear hg2)
                    go_wp2_with fail
                    go_roundw
                    case rel => exact ⟨j + 1, rfl, by omega, by omega, HG5⟩
                    case measure => simp only [intOf]; omega
                  · have hG := HG.out
                    rw [List.take_of_length_le (show l.length ≤ j by omega), List.append_assoc, show [e] ++ l.drop k = e :: l.drop k from rfl, ← HIN.out] at hG
                    obtain ⟨C, cc, rfl, k1, k2⟩ := own_shapeE hG.1
                    have HGF := Lib.hid hG
                    clear hG HG
                    go_wp2_with fail
                    go_ret2
                    exact ⟨_, _, _, rfl, rfl, EntsAt.own HGF.out.1, k1, k2, HB.out.2.1.trans (HGF.out.2.mono HB.out.2.1.size), .inr fun ad h => ⟨Nat.le_trans HB.out.2.1.size (own_fresh HGF.out.1 h).1, (own_fresh HGF.out.1 h).2⟩⟩
            · have HNK := (show ∀ (hk : k < l.length), SE.before l[k] e = false from fun h => absurd h hlt)
              have hdk : decide ((k : Int) < (l.length : Int)) = false := decide_eq_false (by omega)
              clear b0 b2
              go_wp2_with fail
              go_quiet (fail)
              have HG3 := Lib.hid (HG.out.keep (Below.refl _ wr |> fun h => below_drewN h nq))
              generalize wr.drewN nq = w3 at HG3 ⊢
              clear HG
              have HIN := Lib.hid (ins_all (fun j hj h => HT.out j hj h) hk HNK)
              obtain ⟨y0, y1, y2, y3⟩ := HB.out.1.below hw2 HG3.out.2
              replace y1 : w3.cell? ⟨w.heap.size, 1, none⟩ = some (.string e.path) := y1
              replace y2 : w3.cell? ⟨w.heap.size, 2, none⟩ = some (.int .i64 e.mode) := y2
              replace y3 : w3.cell? ⟨w.heap.size, 3, none⟩ = some (.int .i64 e.who) := y3
              go_wp2_with (at_builtin; refine app_ent rfl (.tmp 53) (.tmp 55) rfl _ _ HG3.out rfl e rfl (by rw [List.length_take]; omega) ?_; intro v2 w4 hg2; have HG4 := Lib.hid hg2; clear hg2)
              clear y0 y1 y2 y3
              go_wp2_with fail
              go_loopw [6, 7] (fun v i wx => ∃ j : Nat, i = .int .i64 (j : Int) ∧ k ≤ j ∧ j ≤ l.length ∧ Hid (GrewE w2 ((l.take k ++ [e]) ++ (l.take j).drop k) v wx)) (fun _ i _ => l.length - (intOf i).toNat)
              case atStart => exact ⟨k, rfl, Nat.le_refl _, hk, Lib.hid (by rw [List.drop_of_length_le (by rw [List.length_take]; omega), List.append_nil]; exact HG4.out)⟩
              case round =>
                obtain ⟨j, rfl, hkj, hj, HG⟩ := hrel
                by_cases hltj : j < l.length
                · exact absurd hltj (by omega)
                · have hG := HG.out
                  rw [List.take_of_length_le (show l.length ≤ j by omega), List.append_assoc, show [e] ++ l.drop k = e :: l.drop k from rfl, ← HIN.out] at hG
                  obtain ⟨C, cc, rfl, k1, k2⟩ := own_shapeE hG.1
                  have HGF := Lib.hid hG
                  clear hG HG
                  go_wp2_with fail
                  go_ret2
                  exact ⟨_, _, _, rfl, rfl, EntsAt.own HGF.out.1, k1, k2, HB.out.2.1.trans (HGF.out.2.mono HB.out.2.1.size), .inr fun ad h => ⟨Nat.le_trans HB.out.2.1.size (own_fresh HGF.out.1 h).1, (own_fresh HGF.out.1 h).2⟩⟩
end Go.Proofs.YtbgcjbekbeobnaaGreatDoor
