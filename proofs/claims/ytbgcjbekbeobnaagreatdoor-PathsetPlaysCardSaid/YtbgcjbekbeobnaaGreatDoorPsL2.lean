/- The statements' own helper: one call on a set and on a list. -/
import Derived.Test.YtbgcjbekbeobnaaGreatDoorPsL1
namespace Go.Proofs.YtbgcjbekbeobnaaGreatDoor
open Go.RowKit
open SE (Ent)
set_option linter.unusedVariables false
set_option maxRecDepth 100000
/-- One call. -/
structure Opr where
  kind : Int
  ent : Ent
def opv (o : Opr) : Value := .agg #[.int .i64 o.kind, .int .i64 o.ent.id, .string o.ent.path, .int .i64 o.ent.mode, .int .i64 o.ent.who]
def blk (A : Option Addr) : List Nat := A.toList.map (·.block)
theorem blk_mem {A : Option Addr} : ∀ ad, A = some ad → ad.block ∈ blk A := by
  rintro ad rfl
  simp [blk]
theorem blk_of {A : Option Addr} {b : Nat} (h : b ∈ blk A) : ∃ ad, A = some ad ∧ ad.block = b := by
  cases A with
  | none => simp [blk] at h
  | some ad => exact ⟨ad, rfl, by simp [blk] at h; exact h.symm⟩
theorem boxed2 {w w2 : World} (o : Obj) (e : Ent) (hb : Below ((w.alloc o).alloc (.cells (four e).toArray 29)).heap.size ((w.alloc o).alloc (.cells (four e).toArray 29)) w2) : EntCells w2 (w.heap.size + 1) 0 e ∧ Below w.heap.size w w2 := by
  obtain ⟨h1, h2, _⟩ := boxed e hb
  rw [World.size_alloc] at h1 h2
  exact ⟨h1, ((Below.refl _ w).alloc (Nat.le_refl _) o).trans (h2.mono (by omega))⟩
theorem find_get {L : List Ent} {id : Int} (h : SE.has L id = true) : ∃ k : Nat, ∃ hk : k < L.length, SE.find L id = (k : Int) ∧ L[k] = getE L id := by
  have h0 := h
  unfold SE.has at h
  rw [List.any_eq_true] at h
  obtain ⟨x, hx, hd⟩ := h
  cases hf : L.findIdx? (fun e => decide (e.id = id)) with
  | none => exact absurd (List.findIdx?_eq_none_iff.1 hf x hx) (by simpa using hd)
  | some i =>
    obtain ⟨hi, h1, h2⟩ := List.findIdx?_eq_some_iff_getElem.1 hf
    refine ⟨i, hi, by unfold SE.find; rw [hf], ?_⟩
    unfold getE
    have : L.find? (fun e => decide (e.id = id)) = some L[i] := by
      rw [List.find?_eq_some_iff_getElem]
      exact ⟨h1, i, hi, rfl, fun j hj => by simpa using h2 j hj⟩
    rw [this]
    rfl
theorem get_none {L : List Ent} {id : Int} (h : SE.has L id = false) : SE.find L id = -1 ∧ getE L id = noEnt := by
  have hn := SE.has_no h
  refine ⟨SE.find_none (fun j hj => hn _ (List.getElem_mem hj)), ?_⟩
  unfold getE
  rw [List.find?_eq_none.2 (fun x hx => by simpa using hn x hx)]
  rfl
/-- The list after a call. -/
def nextL (L : List Ent) (o : Opr) : List Ent := if o.kind = 1 then SE.drop L o.ent.id else if o.kind = 2 ∨ o.kind = 3 ∨ o.kind = 4 ∨ o.kind = 5 then L else (SE.put L o.ent).1
set_option maxHeartbeats 4000000 in
theorem one_drop (S : Sets) (w0 : World) (g : Nat) (A : Option Addr) (c : Nat) (L : List Ent)  (e : Ent) (w : World) (hM : Mine S w0 g L (blk A) w) (hA : EntsAt w A L) (hl : L.length ≤ c) (hc : c ≤ 9223372036854775807) (hO : Fair e) :
    Calls Tryz.prog 6 #[ptr g, .slice A L.length c, opv ⟨1, e⟩] w fun x w' => ∃ A' c', x = .returned (.tuple #[.slice A' (SE.drop L e.id).length c', .bool true]) ∧ Hid (Mine S w0 g (SE.drop L e.id) (blk A') w') ∧ Hid (EntsAt w' A' (SE.drop L e.id)) ∧ (SE.drop L e.id).length ≤ c' ∧ c' ≤ 9223372036854775807 := by
  have h64 := hM.inv.len
  have HM := Lib.hid hM; clear hM
  have HA := Lib.hid hA; clear hA
  have HO := Lib.hid hO; clear hO
  have HBX := Lib.hid (fun w w2 o => boxed2 (w := w) (w2 := w2) o e)
  unfold opv ptr
  simp only
  go_enter Tryz.func6, Tryz.ntmps6
  go_wp2_with fail
  refine (RefDrop_any A c L e.id _ (HA.out.below ((((Below.refl _ w).alloc (Nat.le_refl _) _).alloc (by rw [World.size_alloc]; omega) _))) hl hc h64).mono ?_
  rintro x w2 ⟨A', n, c', rfl, hn, h1, h2, h3, h4, h5⟩
  subst hn
  have HX := Lib.hid (HBX.out _ _ _ h4)
  have H1 := Lib.hid h1
  have HM2 := Lib.hid (HM.out.also HX.out.2 (K' := blk A') (fun b hb => by
    obtain ⟨ad, ha, rfl⟩ := blk_of hb
    rcases h5 with h5 | h5
    · exact .inl (blk_mem ad (h5 ▸ ha))
    · have := h5 ad ha
      rw [World.size_alloc, World.size_alloc] at this
      exact .inr ⟨by omega, this.2⟩))
  obtain ⟨y0, y1, y2, y3⟩ := HX.out.1
  clear h1 h4 h5
  go_wp2_with fail
  refine (HM2.out.drop e.id).mono ?_
  rintro x w3 ⟨rfl, HM3, HK⟩
  go_wp2_with fail
  go_ret2
  exact ⟨A', c', rfl, HM3, Lib.hid (H1.out.kept HK.out blk_mem), h2, h3⟩
set_option maxHeartbeats 4000000 in
theorem one_put (S : Sets) (w0 : World) (g : Nat) (A : Option Addr) (c : Nat) (L : List Ent) (k : Int) (e : Ent) (w : World) (hM : Mine S w0 g L (blk A) w) (hA : EntsAt w A L) (hl : L.length ≤ c) (hc : c ≤ 9223372036854775807) (hO : Fair e) (k1 : ¬ k = 1) (k2 : ¬ k = 2) (k3 : ¬ k = 3) (k4 : ¬ k = 4) (k5 : ¬ k = 5) :
    Calls Tryz.prog 6 #[ptr g, .slice A L.length c, opv ⟨k, e⟩] w fun x w' => ∃ A' c', x = .returned (.tuple #[.slice A' ((SE.put L e).1).length c', .bool true]) ∧ Hid (Mine S w0 g ((SE.put L e).1) (blk A') w') ∧ Hid (EntsAt w' A' ((SE.put L e).1)) ∧ ((SE.put L e).1).length ≤ c' ∧ c' ≤ 9223372036854775807 := by
  have h64 := hM.inv.len
  have HM := Lib.hid hM; clear hM
  have HA := Lib.hid hA; clear hA
  have HO := Lib.hid hO; clear hO
  have HBX := Lib.hid (fun w w2 o => boxed2 (w := w) (w2 := w2) o e)
  unfold opv ptr
  simp only
  have HFA := Lib.hid HM.out.fair
  go_enter Tryz.func6, Tryz.ntmps6
  go_wp2_with fail
  refine (RefPut_any A c L e _ (HA.out.below ((((Below.refl _ w).alloc (Nat.le_refl _) _).alloc (by rw [World.size_alloc]; omega) _))) hl hc h64 HFA.out HO.out).mono ?_
  rintro x w2 ⟨A', n, c', rfl, hn, h1, h2, h3, h4, h5⟩
  subst hn
  have HX := Lib.hid (HBX.out _ _ _ h4)
  have H1 := Lib.hid h1
  have HM2 := Lib.hid (HM.out.also HX.out.2 (K' := blk A') (fun b hb => by
    obtain ⟨ad, ha, rfl⟩ := blk_of hb
    rcases h5 with h5 | h5
    · exact .inl (blk_mem ad (h5 ▸ ha))
    · have := h5 ad ha
      rw [World.size_alloc, World.size_alloc] at this
      exact .inr ⟨by omega, this.2⟩))
  obtain ⟨y0, y1, y2, y3⟩ := HX.out.1
  rw [Nat.zero_add] at y1 y2 y3
  clear h1 h4 h5
  go_wp2_with fail
  refine (HM2.out.put e HO.out).mono ?_
  rintro x w3 ⟨rfl, HM3, HK⟩
  go_wp2_with fail
  go_ret2
  exact ⟨A', c', rfl, HM3, Lib.hid (H1.out.kept HK.out blk_mem), h2, h3⟩
set_option maxHeartbeats 4000000 in
theorem one_get (S : Sets) (w0 : World) (g : Nat) (A : Option Addr) (c : Nat) (L : List Ent)  (e : Ent) (w : World) (hM : Mine S w0 g L (blk A) w) (hA : EntsAt w A L) (hl : L.length ≤ c) (hc : c ≤ 9223372036854775807) (hO : Fair e) :
    Calls Tryz.prog 6 #[ptr g, .slice A L.length c, opv ⟨2, e⟩] w fun x w' => ∃ A' c', x = .returned (.tuple #[.slice A' (L).length c', .bool true]) ∧ Hid (Mine S w0 g (L) (blk A') w') ∧ Hid (EntsAt w' A' (L)) ∧ (L).length ≤ c' ∧ c' ≤ 9223372036854775807 := by
  have h64 := hM.inv.len
  have HM := Lib.hid hM; clear hM
  have HA := Lib.hid hA; clear hA
  have HO := Lib.hid hO; clear hO
  have HBX := Lib.hid (fun w w2 o => boxed2 (w := w) (w2 := w2) o e)
  unfold opv ptr
  simp only
  go_enter Tryz.func6, Tryz.ntmps6
  go_wp2_with fail
  have HMA := Lib.hid (fun w2 hb => HM.out.below (w' := w2) hb)
  refine ((HM.out.below (((Below.refl w.heap.size w).alloc (Nat.le_refl _) _).alloc (by rw [World.size_alloc]; omega) _)).get e.id).mono ?_
  rintro x w2 ⟨rfl, HM2, HB2⟩
  have HX := Lib.hid (HBX.out _ _ _ HB2.out)
  obtain ⟨y0, y1, y2, y3⟩ := HX.out.1
  have HA2 := Lib.hid (HA.out.below HX.out.2)
  have HFD := Lib.hid (fun w hA => Find_any A c L e.id w hA hl hc)
  cases hh : SE.has L e.id with
  | false =>
    have HG := Lib.hid (get_none hh)
    rw [HG.out.2]
    rw [HG.out.1] at HFD
    clear hh
    unfold agg noEnt
    have y0' : (w2.alloc (Obj.cells #[.int .i64 0, .string ByteArray.empty, .int .i64 0, .int .i64 0] 29)).cell? ⟨w.heap.size + 1, 0, none⟩ = some (.int .i64 e.id) := ((Below.refl w2.heap.size w2).alloc (Nat.le_refl _) _).cell (p := ⟨w.heap.size + 1, 0, none⟩) (World.block_lt_of_cell? _ _ y0) |>.trans y0
    have HA3 := Lib.hid (HA2.out.below ((Below.refl w2.heap.size w2).alloc (Nat.le_refl _) (Obj.cells #[.int .i64 0, .string ByteArray.empty, .int .i64 0, .int .i64 0] 29)))
    have HM3 := Lib.hid (HM2.out.below ((Below.refl w2.heap.size w2).alloc (Nat.le_refl _) (Obj.cells #[.int .i64 0, .string ByteArray.empty, .int .i64 0, .int .i64 0] 29)))
    go_wp2_with fail
    refine (HFD.out _ HA3.out).mono ?_
    rintro x w4 ⟨rfl, rfl⟩
    go_wp2_with fail
    go_region
    all_goals
      go_wp2
      go_ret2
      exact ⟨A, c, rfl, Lib.hid HM3.out.drew, Lib.hid HA3.out, hl, hc⟩
  | true =>
    obtain ⟨k, hk, hf, hg⟩ := find_get hh
    rw [hf] at HFD
    rw [← hg]
    clear hh hf hg
    obtain ⟨b, o, eA, hb, hca⟩ := HA2.out (by omega)
    subst eA
    have hx := hca k L[k] (List.getElem?_eq_getElem hk)
    clear hca
    generalize L[k] = x at hx
    unfold agg
    have HB3 := Lib.hid ((Below.refl w2.heap.size w2).alloc (Nat.le_refl _) (Obj.cells (four x).toArray 29))
    have y0' : (w2.alloc (Obj.cells #[.int .i64 x.id, .string x.path, .int .i64 x.mode, .int .i64 x.who] 29)).cell? ⟨w.heap.size + 1, 0, none⟩ = some (.int .i64 e.id) := HB3.out.cell (p := ⟨w.heap.size + 1, 0, none⟩) (World.block_lt_of_cell? _ _ y0) |>.trans y0
    obtain ⟨x0, x1, x2, x3⟩ : EntCells (w2.alloc (Obj.cells #[.int .i64 x.id, .string x.path, .int .i64 x.mode, .int .i64 x.who] 29)) b (o + k * 4) x := hx.below hb HB3.out
    have HA3 := Lib.hid (show EntsAt (w2.alloc (Obj.cells #[.int .i64 x.id, .string x.path, .int .i64 x.mode, .int .i64 x.who] 29)) (some ⟨b, o, none⟩) L from HA2.out.below HB3.out)
    have HM3 := Lib.hid (show Mine S w0 g L (blk (some ⟨b, o, none⟩)) (w2.alloc (Obj.cells #[.int .i64 x.id, .string x.path, .int .i64 x.mode, .int .i64 x.who] 29)) from HM2.out.below HB3.out)
    have hkd : decide ((k : Int) < 0) = false := decide_eq_false (by omega)
    go_wp2_with fail
    refine (HFD.out _ HA3.out).mono ?_
    rintro x w4 ⟨rfl, rfl⟩
    go_wp2_with fail
    go_region
    all_goals
      go_wp2
      go_ret2
      exact ⟨_, c, rfl, Lib.hid HM3.out.drew, Lib.hid HA3.out, hl, hc⟩
end Go.Proofs.YtbgcjbekbeobnaaGreatDoor
