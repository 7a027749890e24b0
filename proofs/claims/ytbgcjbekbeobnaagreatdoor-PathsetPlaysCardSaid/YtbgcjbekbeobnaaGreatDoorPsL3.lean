/- The statements' own helper: one call on a set and on a list, where numbers are answered. -/
import Derived.Test.YtbgcjbekbeobnaaGreatDoorPsL2
import Derived.Deep.RegionHeld3
namespace Go.Proofs.YtbgcjbekbeobnaaGreatDoor
open Go.RowKit
open SE (Ent)
set_option linter.unusedVariables false
set_option maxRecDepth 100000
theorem SameInts_self (A B : Option Addr) (c d : Nat) (a : List Int) (w : World) (hA : IntsAt w A a) (hB : IntsAt w B a) (ha : a.length ≤ c) (hb : a.length ≤ d) (hc : c ≤ 9223372036854775807) (hd : d ≤ 9223372036854775807) :
    Calls Tryz.prog 12 #[.slice A a.length c, .slice B a.length d] w fun e w' => e = .returned (.bool true) ∧ Below w.heap.size w w' :=
  (SameInts_any A B c d a a w hA hB ha hb hc hd).mono fun e w' ⟨h1, h2⟩ => ⟨by rw [h1, decide_eq_true rfl], h2⟩
theorem OneI.since {w w' : World} {xs : List Int} {x : Ending} (k : OneI w xs x w') : ∃ A c, x = .returned (.slice A xs.length c) ∧ Hid (IntsAt w' A xs) ∧ xs.length ≤ c ∧ c ≤ 9223372036854775807 ∧ Hid (Below w.heap.size w w') := by
  obtain ⟨A, n, c, rfl, k1, k2, _, k4, k5, k6⟩ := k
  have := k1.out
  subst this
  exact ⟨A, c, rfl, k2, k5, k6, k4⟩
theorem sof {w a b : World} {e : Ent} (h : a.cell? ⟨w.heap.size + 1, 1, none⟩ = some (.string e.path)) (hl : w.heap.size + 1 < a.heap.size) (hb : Below a.heap.size a b) : b.cell? ⟨w.heap.size + 1, 1, none⟩ = some (.string e.path) := (hb.cell (p := ⟨w.heap.size + 1, 1, none⟩) hl).trans h
theorem sof3 {w a b : World} {e : Ent} (h : a.cell? ⟨w.heap.size + 1, 1, none⟩ = some (.string e.path) ∧ a.cell? ⟨w.heap.size + 1, 2, none⟩ = some (.int .i64 e.mode) ∧ a.cell? ⟨w.heap.size + 1, 3, none⟩ = some (.int .i64 e.who)) (hl : w.heap.size + 1 < a.heap.size) (hb : Below a.heap.size a b) : b.cell? ⟨w.heap.size + 1, 1, none⟩ = some (.string e.path) ∧ b.cell? ⟨w.heap.size + 1, 2, none⟩ = some (.int .i64 e.mode) ∧ b.cell? ⟨w.heap.size + 1, 3, none⟩ = some (.int .i64 e.who) := ⟨(hb.cell (p := ⟨w.heap.size + 1, 1, none⟩) hl).trans h.1, (hb.cell (p := ⟨w.heap.size + 1, 2, none⟩) hl).trans h.2.1, (hb.cell (p := ⟨w.heap.size + 1, 3, none⟩) hl).trans h.2.2⟩
set_option maxHeartbeats 4000000 in
theorem one_over (S : Sets) (w0 : World) (g : Nat) (A : Option Addr) (c : Nat) (L : List Ent)  (e : Ent) (w : World) (hM : Mine S w0 g L (blk A) w) (hA : EntsAt w A L) (hl : L.length ≤ c) (hc : c ≤ 9223372036854775807) (hO : Fair e) :
    Calls Tryz.prog 6 #[ptr g, .slice A L.length c, opv ⟨4, e⟩] w fun x w' => ∃ A' c', x = .returned (.tuple #[.slice A' (L).length c', .bool true]) ∧ Hid (Mine S w0 g (L) (blk A') w') ∧ Hid (EntsAt w' A' (L)) ∧ (L).length ≤ c' ∧ c' ≤ 9223372036854775807 := by
  have h64 := hM.inv.len
  have HM := Lib.hid hM; clear hM
  have HA := Lib.hid hA; clear hA
  have HO := Lib.hid hO; clear hO
  have HBX := Lib.hid (fun w w2 o => boxed2 (w := w) (w2 := w2) o e)
  unfold opv ptr
  simp only
  have HFA := Lib.hid HM.out.fair
  have hq := HO.out.2.1
  have HX1 := Lib.hid (show Below w.heap.size w ((w.alloc (Obj.cells #[.int .i64 4, .int .i64 e.id, .string e.path, .int .i64 e.mode, .int .i64 e.who] 31)).alloc (Obj.cells #[.int .i64 e.id, .string e.path, .int .i64 e.mode, .int .i64 e.who] 29)) from (((Below.refl w.heap.size w).alloc (Nat.le_refl _) _).alloc (by rw [World.size_alloc]; omega) _))
  have hx : EntCells ((w.alloc (Obj.cells #[.int .i64 4, .int .i64 e.id, .string e.path, .int .i64 e.mode, .int .i64 e.who] 31)).alloc (Obj.cells #[.int .i64 e.id, .string e.path, .int .i64 e.mode, .int .i64 e.who] 29)) (w.heap.size + 1) 0 e := (HBX.out w _ (Obj.cells #[.int .i64 4, .int .i64 e.id, .string e.path, .int .i64 e.mode, .int .i64 e.who] 31) (Below.refl _ _)).1
  obtain ⟨y0, y1, y2, y3⟩ := hx
  rw [Nat.zero_add] at y1 y2 y3
  have hlt1 : w.heap.size + 1 < ((w.alloc (Obj.cells #[.int .i64 4, .int .i64 e.id, .string e.path, .int .i64 e.mode, .int .i64 e.who] 31)).alloc (Obj.cells #[.int .i64 e.id, .string e.path, .int .i64 e.mode, .int .i64 e.who] 29)).heap.size := by rw [World.size_alloc, World.size_alloc]; omega
  have HM1 := Lib.hid (show Mine S w0 g L (blk A) ((w.alloc (Obj.cells #[.int .i64 4, .int .i64 e.id, .string e.path, .int .i64 e.mode, .int .i64 e.who] 31)).alloc (Obj.cells #[.int .i64 e.id, .string e.path, .int .i64 e.mode, .int .i64 e.who] 29)).drew from (HM.out.below HX1.out).drew)
  have HA1 := Lib.hid (show EntsAt ((w.alloc (Obj.cells #[.int .i64 4, .int .i64 e.id, .string e.path, .int .i64 e.mode, .int .i64 e.who] 31)).alloc (Obj.cells #[.int .i64 e.id, .string e.path, .int .i64 e.mode, .int .i64 e.who] 29)).drew A L from HA.out.below HX1.out.drew)
  have HL1 := Lib.hid (show w.heap.size + 1 < ((w.alloc (Obj.cells #[.int .i64 4, .int .i64 e.id, .string e.path, .int .i64 e.mode, .int .i64 e.who] 31)).alloc (Obj.cells #[.int .i64 e.id, .string e.path, .int .i64 e.mode, .int .i64 e.who] 29)).drew.heap.size from hlt1)
  have HS1 := Lib.hid (show ((w.alloc (Obj.cells #[.int .i64 4, .int .i64 e.id, .string e.path, .int .i64 e.mode, .int .i64 e.who] 31)).alloc (Obj.cells #[.int .i64 e.id, .string e.path, .int .i64 e.mode, .int .i64 e.who] 29)).drew.cell? ⟨w.heap.size + 1, 1, none⟩ = some (.string e.path) from y1)
  go_enter Tryz.func6, Tryz.ntmps6
  go_wp2_with fail
  go_region_held3 (fun w' => w'.cell? ⟨w.heap.size + 1, 1, none⟩ = some (.string e.path))
    (first
      | (go_keep; done)
      | exact HSK)
    (first
      | (go_at_call 12; refine (SameInts_self _ _ _ _ _ _ HI6.out HI7.out hl6 hl7 hc6 hc7).mono ?_; rintro x8 w8 ⟨rfl, h8⟩; have HM8 := Lib.hid ((HMK.out.below h8)); have HA8 := Lib.hid (HAK.out.below h8); replace HSK := sof HSK HLK.out h8; clear h8)
      | (go_at_call 14; first
          | (refine (HM7.out.over e.path hq).mono ?_; rintro x6 w6 ⟨A6, c6, rfl, HI6, hl6, hc6, HMK, HB6⟩; replace HI7 := Lib.hid (HI7.out.below HB6.out); have HAK := Lib.hid (HA7.out.below HB6.out); have HSK : w6.cell? ⟨w.heap.size + 1, 1, none⟩ = some (.string e.path) := sof HS7.out HL7.out HB6.out; have HLK := Lib.hid (Nat.lt_of_lt_of_le HL7.out HB6.out.size))
          | (refine (HM1.out.over e.path hq).mono ?_; rintro x6 w6 ⟨A6, c6, rfl, HI6, hl6, hc6, HM6, HB6⟩; have HA6 := Lib.hid (HA1.out.below HB6.out); have HSK : w6.cell? ⟨w.heap.size + 1, 1, none⟩ = some (.string e.path) := sof HS1.out HL1.out HB6.out; have HS6 := Lib.hid HSK; have HL6 := Lib.hid (Nat.lt_of_lt_of_le HL1.out HB6.out.size)))
      | (go_at_call 20; first
          | (refine (RefOver_any A c L e.path _ HA6.out hl hc h64 HFA.out hq).mono ?_; rintro x7 w7 k7; obtain ⟨A7, c7, rfl, HI7, hl7, hc7, HB7⟩ := k7.since; clear k7; replace HI6 := Lib.hid (HI6.out.below HB7.out); have HMK := Lib.hid (HM6.out.below HB7.out); have HAK := Lib.hid (HA6.out.below HB7.out); have HSK : w7.cell? ⟨w.heap.size + 1, 1, none⟩ = some (.string e.path) := sof HS6.out HL6.out HB7.out; have HLK := Lib.hid (Nat.lt_of_lt_of_le HL6.out HB7.out.size))
          | (refine (RefOver_any A c L e.path _ HA1.out hl hc h64 HFA.out hq).mono ?_; rintro x7 w7 k7; obtain ⟨A7, c7, rfl, HI7, hl7, hc7, HB7⟩ := k7.since; clear k7; have HM7 := Lib.hid (HM1.out.below HB7.out); have HA7 := Lib.hid (HA1.out.below HB7.out); have HSK : w7.cell? ⟨w.heap.size + 1, 1, none⟩ = some (.string e.path) := sof HS1.out HL1.out HB7.out; have HS7 := Lib.hid HSK; have HL7 := Lib.hid (Nat.lt_of_lt_of_le HL1.out HB7.out.size))))
  all_goals
    go_wp2_with fail
    go_ret2
    exact ⟨A, c, rfl, HM8, HA8, hl, hc⟩
set_option maxHeartbeats 4000000 in
theorem one_under (S : Sets) (w0 : World) (g : Nat) (A : Option Addr) (c : Nat) (L : List Ent)  (e : Ent) (w : World) (hM : Mine S w0 g L (blk A) w) (hA : EntsAt w A L) (hl : L.length ≤ c) (hc : c ≤ 9223372036854775807) (hO : Fair e) :
    Calls Tryz.prog 6 #[ptr g, .slice A L.length c, opv ⟨5, e⟩] w fun x w' => ∃ A' c', x = .returned (.tuple #[.slice A' (L).length c', .bool true]) ∧ Hid (Mine S w0 g (L) (blk A') w') ∧ Hid (EntsAt w' A' (L)) ∧ (L).length ≤ c' ∧ c' ≤ 9223372036854775807 := by
  have h64 := hM.inv.len
  have HM := Lib.hid hM; clear hM
  have HA := Lib.hid hA; clear hA
  have HO := Lib.hid hO; clear hO
  have HBX := Lib.hid (fun w w2 o => boxed2 (w := w) (w2 := w2) o e)
  unfold opv ptr
  simp only
  have HFA := Lib.hid HM.out.fair
  have hq := HO.out.2.1
  have HX1 := Lib.hid (show Below w.heap.size w ((w.alloc (Obj.cells #[.int .i64 5, .int .i64 e.id, .string e.path, .int .i64 e.mode, .int .i64 e.who] 31)).alloc (Obj.cells #[.int .i64 e.id, .string e.path, .int .i64 e.mode, .int .i64 e.who] 29)) from (((Below.refl w.heap.size w).alloc (Nat.le_refl _) _).alloc (by rw [World.size_alloc]; omega) _))
  have hx : EntCells ((w.alloc (Obj.cells #[.int .i64 5, .int .i64 e.id, .string e.path, .int .i64 e.mode, .int .i64 e.who] 31)).alloc (Obj.cells #[.int .i64 e.id, .string e.path, .int .i64 e.mode, .int .i64 e.who] 29)) (w.heap.size + 1) 0 e := (HBX.out w _ (Obj.cells #[.int .i64 5, .int .i64 e.id, .string e.path, .int .i64 e.mode, .int .i64 e.who] 31) (Below.refl _ _)).1
  obtain ⟨y0, y1, y2, y3⟩ := hx
  rw [Nat.zero_add] at y1 y2 y3
  have hlt1 : w.heap.size + 1 < ((w.alloc (Obj.cells #[.int .i64 5, .int .i64 e.id, .string e.path, .int .i64 e.mode, .int .i64 e.who] 31)).alloc (Obj.cells #[.int .i64 e.id, .string e.path, .int .i64 e.mode, .int .i64 e.who] 29)).heap.size := by rw [World.size_alloc, World.size_alloc]; omega
  have HM1 := Lib.hid (show Mine S w0 g L (blk A) ((w.alloc (Obj.cells #[.int .i64 5, .int .i64 e.id, .string e.path, .int .i64 e.mode, .int .i64 e.who] 31)).alloc (Obj.cells #[.int .i64 e.id, .string e.path, .int .i64 e.mode, .int .i64 e.who] 29)).drew from (HM.out.below HX1.out).drew)
  have HA1 := Lib.hid (show EntsAt ((w.alloc (Obj.cells #[.int .i64 5, .int .i64 e.id, .string e.path, .int .i64 e.mode, .int .i64 e.who] 31)).alloc (Obj.cells #[.int .i64 e.id, .string e.path, .int .i64 e.mode, .int .i64 e.who] 29)).drew A L from HA.out.below HX1.out.drew)
  have HL1 := Lib.hid (show w.heap.size + 1 < ((w.alloc (Obj.cells #[.int .i64 5, .int .i64 e.id, .string e.path, .int .i64 e.mode, .int .i64 e.who] 31)).alloc (Obj.cells #[.int .i64 e.id, .string e.path, .int .i64 e.mode, .int .i64 e.who] 29)).drew.heap.size from hlt1)
  have HS1 := Lib.hid (show ((w.alloc (Obj.cells #[.int .i64 5, .int .i64 e.id, .string e.path, .int .i64 e.mode, .int .i64 e.who] 31)).alloc (Obj.cells #[.int .i64 e.id, .string e.path, .int .i64 e.mode, .int .i64 e.who] 29)).drew.cell? ⟨w.heap.size + 1, 1, none⟩ = some (.string e.path) from y1)
  go_enter Tryz.func6, Tryz.ntmps6
  go_wp2_with fail
  go_region_held3 (fun w' => w'.cell? ⟨w.heap.size + 1, 1, none⟩ = some (.string e.path))
    (first
      | (go_keep; done)
      | exact HSK)
    (first
      | (go_at_call 12; refine (SameInts_self _ _ _ _ _ _ HI6.out HI7.out hl6 hl7 hc6 hc7).mono ?_; rintro x8 w8 ⟨rfl, h8⟩; have HM8 := Lib.hid ((HMK.out.below h8)); have HA8 := Lib.hid (HAK.out.below h8); replace HSK := sof HSK HLK.out h8; clear h8)
      | (go_at_call 15; first
          | (refine (HM7.out.under e.path hq).mono ?_; rintro x6 w6 ⟨A6, c6, rfl, HI6, hl6, hc6, HMK, HB6⟩; replace HI7 := Lib.hid (HI7.out.below HB6.out); have HAK := Lib.hid (HA7.out.below HB6.out); have HSK : w6.cell? ⟨w.heap.size + 1, 1, none⟩ = some (.string e.path) := sof HS7.out HL7.out HB6.out; have HLK := Lib.hid (Nat.lt_of_lt_of_le HL7.out HB6.out.size))
          | (refine (HM1.out.under e.path hq).mono ?_; rintro x6 w6 ⟨A6, c6, rfl, HI6, hl6, hc6, HM6, HB6⟩; have HA6 := Lib.hid (HA1.out.below HB6.out); have HSK : w6.cell? ⟨w.heap.size + 1, 1, none⟩ = some (.string e.path) := sof HS1.out HL1.out HB6.out; have HS6 := Lib.hid HSK; have HL6 := Lib.hid (Nat.lt_of_lt_of_le HL1.out HB6.out.size)))
      | (go_at_call 21; first
          | (refine (RefUnder_any A c L e.path _ HA6.out hl hc h64 HFA.out hq).mono ?_; rintro x7 w7 k7; obtain ⟨A7, c7, rfl, HI7, hl7, hc7, HB7⟩ := k7.since; clear k7; replace HI6 := Lib.hid (HI6.out.below HB7.out); have HMK := Lib.hid (HM6.out.below HB7.out); have HAK := Lib.hid (HA6.out.below HB7.out); have HSK : w7.cell? ⟨w.heap.size + 1, 1, none⟩ = some (.string e.path) := sof HS6.out HL6.out HB7.out; have HLK := Lib.hid (Nat.lt_of_lt_of_le HL6.out HB7.out.size))
          | (refine (RefUnder_any A c L e.path _ HA1.out hl hc h64 HFA.out hq).mono ?_; rintro x7 w7 k7; obtain ⟨A7, c7, rfl, HI7, hl7, hc7, HB7⟩ := k7.since; clear k7; have HM7 := Lib.hid (HM1.out.below HB7.out); have HA7 := Lib.hid (HA1.out.below HB7.out); have HSK : w7.cell? ⟨w.heap.size + 1, 1, none⟩ = some (.string e.path) := sof HS1.out HL1.out HB7.out; have HS7 := Lib.hid HSK; have HL7 := Lib.hid (Nat.lt_of_lt_of_le HL1.out HB7.out.size))))
  all_goals
    go_wp2_with fail
    go_ret2
    exact ⟨A, c, rfl, HM8, HA8, hl, hc⟩
set_option maxHeartbeats 4000000 in
theorem one_clash (S : Sets) (w0 : World) (g : Nat) (A : Option Addr) (c : Nat) (L : List Ent)  (e : Ent) (w : World) (hM : Mine S w0 g L (blk A) w) (hA : EntsAt w A L) (hl : L.length ≤ c) (hc : c ≤ 9223372036854775807) (hO : Fair e) :
    Calls Tryz.prog 6 #[ptr g, .slice A L.length c, opv ⟨3, e⟩] w fun x w' => ∃ A' c', x = .returned (.tuple #[.slice A' (L).length c', .bool true]) ∧ Hid (Mine S w0 g (L) (blk A') w') ∧ Hid (EntsAt w' A' (L)) ∧ (L).length ≤ c' ∧ c' ≤ 9223372036854775807 := by
  have h64 := hM.inv.len
  have HM := Lib.hid hM; clear hM
  have HA := Lib.hid hA; clear hA
  have HO := Lib.hid hO; clear hO
  have HBX := Lib.hid (fun w w2 o => boxed2 (w := w) (w2 := w2) o e)
  unfold opv ptr
  simp only
  have HFA := Lib.hid HM.out.fair
  have hq := HO.out.2.1
  have HX1 := Lib.hid (show Below w.heap.size w ((w.alloc (Obj.cells #[.int .i64 3, .int .i64 e.id, .string e.path, .int .i64 e.mode, .int .i64 e.who] 31)).alloc (Obj.cells #[.int .i64 e.id, .string e.path, .int .i64 e.mode, .int .i64 e.who] 29)) from (((Below.refl w.heap.size w).alloc (Nat.le_refl _) _).alloc (by rw [World.size_alloc]; omega) _))
  have hx : EntCells ((w.alloc (Obj.cells #[.int .i64 3, .int .i64 e.id, .string e.path, .int .i64 e.mode, .int .i64 e.who] 31)).alloc (Obj.cells #[.int .i64 e.id, .string e.path, .int .i64 e.mode, .int .i64 e.who] 29)) (w.heap.size + 1) 0 e := (HBX.out w _ (Obj.cells #[.int .i64 3, .int .i64 e.id, .string e.path, .int .i64 e.mode, .int .i64 e.who] 31) (Below.refl _ _)).1
  obtain ⟨y0, y1, y2, y3⟩ := hx
  rw [Nat.zero_add] at y1 y2 y3
  have hlt1 : w.heap.size + 1 < ((w.alloc (Obj.cells #[.int .i64 3, .int .i64 e.id, .string e.path, .int .i64 e.mode, .int .i64 e.who] 31)).alloc (Obj.cells #[.int .i64 e.id, .string e.path, .int .i64 e.mode, .int .i64 e.who] 29)).heap.size := by rw [World.size_alloc, World.size_alloc]; omega
  have HM1 := Lib.hid (show Mine S w0 g L (blk A) ((w.alloc (Obj.cells #[.int .i64 3, .int .i64 e.id, .string e.path, .int .i64 e.mode, .int .i64 e.who] 31)).alloc (Obj.cells #[.int .i64 e.id, .string e.path, .int .i64 e.mode, .int .i64 e.who] 29)).drew from (HM.out.below HX1.out).drew)
  have HA1 := Lib.hid (show EntsAt ((w.alloc (Obj.cells #[.int .i64 3, .int .i64 e.id, .string e.path, .int .i64 e.mode, .int .i64 e.who] 31)).alloc (Obj.cells #[.int .i64 e.id, .string e.path, .int .i64 e.mode, .int .i64 e.who] 29)).drew A L from HA.out.below HX1.out.drew)
  have HL1 := Lib.hid (show w.heap.size + 1 < ((w.alloc (Obj.cells #[.int .i64 3, .int .i64 e.id, .string e.path, .int .i64 e.mode, .int .i64 e.who] 31)).alloc (Obj.cells #[.int .i64 e.id, .string e.path, .int .i64 e.mode, .int .i64 e.who] 29)).drew.heap.size from hlt1)
  have HS1 := Lib.hid (show ((w.alloc (Obj.cells #[.int .i64 3, .int .i64 e.id, .string e.path, .int .i64 e.mode, .int .i64 e.who] 31)).alloc (Obj.cells #[.int .i64 e.id, .string e.path, .int .i64 e.mode, .int .i64 e.who] 29)).drew.cell? ⟨w.heap.size + 1, 1, none⟩ = some (.string e.path) ∧ ((w.alloc (Obj.cells #[.int .i64 3, .int .i64 e.id, .string e.path, .int .i64 e.mode, .int .i64 e.who] 31)).alloc (Obj.cells #[.int .i64 e.id, .string e.path, .int .i64 e.mode, .int .i64 e.who] 29)).drew.cell? ⟨w.heap.size + 1, 2, none⟩ = some (.int .i64 e.mode) ∧ ((w.alloc (Obj.cells #[.int .i64 3, .int .i64 e.id, .string e.path, .int .i64 e.mode, .int .i64 e.who] 31)).alloc (Obj.cells #[.int .i64 e.id, .string e.path, .int .i64 e.mode, .int .i64 e.who] 29)).drew.cell? ⟨w.heap.size + 1, 3, none⟩ = some (.int .i64 e.who) from ⟨y1, y2, y3⟩)
  go_enter Tryz.func6, Tryz.ntmps6
  go_wp2_with fail
  go_region_held3 (fun w' => w'.cell? ⟨w.heap.size + 1, 1, none⟩ = some (.string e.path) ∧ w'.cell? ⟨w.heap.size + 1, 2, none⟩ = some (.int .i64 e.mode) ∧ w'.cell? ⟨w.heap.size + 1, 3, none⟩ = some (.int .i64 e.who))
    (first
      | (go_keep; done)
      | exact HSK)
    (first
      | (go_at_call 12; refine (SameInts_self _ _ _ _ _ _ HI6.out HI7.out hl6 hl7 hc6 hc7).mono ?_; rintro x8 w8 ⟨rfl, h8⟩; have HM8 := Lib.hid ((HMK.out.below h8)); have HA8 := Lib.hid (HAK.out.below h8); replace HSK := sof3 HSK HLK.out h8; clear h8)
      | (go_at_call 13; first
          | (refine (HM7.out.clash e.path e.mode e.who hq).mono ?_; rintro x6 w6 ⟨A6, c6, rfl, HI6, hl6, hc6, HMK, HB6⟩; replace HI7 := Lib.hid (HI7.out.below HB6.out); have HAK := Lib.hid (HA7.out.below HB6.out); have HSK : w6.cell? ⟨w.heap.size + 1, 1, none⟩ = some (.string e.path) ∧ w6.cell? ⟨w.heap.size + 1, 2, none⟩ = some (.int .i64 e.mode) ∧ w6.cell? ⟨w.heap.size + 1, 3, none⟩ = some (.int .i64 e.who) := sof3 HS7.out HL7.out HB6.out; have HLK := Lib.hid (Nat.lt_of_lt_of_le HL7.out HB6.out.size))
          | (refine (HM1.out.clash e.path e.mode e.who hq).mono ?_; rintro x6 w6 ⟨A6, c6, rfl, HI6, hl6, hc6, HM6, HB6⟩; have HA6 := Lib.hid (HA1.out.below HB6.out); have HSK : w6.cell? ⟨w.heap.size + 1, 1, none⟩ = some (.string e.path) ∧ w6.cell? ⟨w.heap.size + 1, 2, none⟩ = some (.int .i64 e.mode) ∧ w6.cell? ⟨w.heap.size + 1, 3, none⟩ = some (.int .i64 e.who) := sof3 HS1.out HL1.out HB6.out; have HS6 := Lib.hid HSK; have HL6 := Lib.hid (Nat.lt_of_lt_of_le HL1.out HB6.out.size)))
      | (go_at_call 19; first
          | (refine (RefClash_any A c L e.path e.mode e.who _ HA6.out hl hc h64 HFA.out hq).mono ?_; rintro x7 w7 k7; obtain ⟨A7, c7, rfl, HI7, hl7, hc7, HB7⟩ := k7.since; clear k7; replace HI6 := Lib.hid (HI6.out.below HB7.out); have HMK := Lib.hid (HM6.out.below HB7.out); have HAK := Lib.hid (HA6.out.below HB7.out); have HSK : w7.cell? ⟨w.heap.size + 1, 1, none⟩ = some (.string e.path) ∧ w7.cell? ⟨w.heap.size + 1, 2, none⟩ = some (.int .i64 e.mode) ∧ w7.cell? ⟨w.heap.size + 1, 3, none⟩ = some (.int .i64 e.who) := sof3 HS6.out HL6.out HB7.out; have HLK := Lib.hid (Nat.lt_of_lt_of_le HL6.out HB7.out.size))
          | (refine (RefClash_any A c L e.path e.mode e.who _ HA1.out hl hc h64 HFA.out hq).mono ?_; rintro x7 w7 k7; obtain ⟨A7, c7, rfl, HI7, hl7, hc7, HB7⟩ := k7.since; clear k7; have HM7 := Lib.hid (HM1.out.below HB7.out); have HA7 := Lib.hid (HA1.out.below HB7.out); have HSK : w7.cell? ⟨w.heap.size + 1, 1, none⟩ = some (.string e.path) ∧ w7.cell? ⟨w.heap.size + 1, 2, none⟩ = some (.int .i64 e.mode) ∧ w7.cell? ⟨w.heap.size + 1, 3, none⟩ = some (.int .i64 e.who) := sof3 HS1.out HL1.out HB7.out; have HS7 := Lib.hid HSK; have HL7 := Lib.hid (Nat.lt_of_lt_of_le HL1.out HB7.out.size))))
  all_goals
    go_wp2_with fail
    go_ret2
    exact ⟨A, c, rfl, HM8, HA8, hl, hc⟩
theorem one_any (S : Sets) (w0 : World) (g : Nat) (A : Option Addr) (c : Nat) (L : List Ent) (o : Opr) (w : World) (hM : Mine S w0 g L (blk A) w) (hA : EntsAt w A L) (hl : L.length ≤ c) (hc : c ≤ 9223372036854775807) (hO : Fair o.ent) :
    Calls Tryz.prog 6 #[ptr g, .slice A L.length c, opv o] w fun x w' => ∃ A' c', x = .returned (.tuple #[.slice A' (nextL L o).length c', .bool true]) ∧ Hid (Mine S w0 g (nextL L o) (blk A') w') ∧ Hid (EntsAt w' A' (nextL L o)) ∧ (nextL L o).length ≤ c' ∧ c' ≤ 9223372036854775807 := by
  obtain ⟨k, e⟩ := o
  by_cases k1 : k = 1
  · subst k1; exact one_drop S w0 g A c L e w hM hA hl hc hO
  by_cases k2 : k = 2
  · subst k2; exact one_get S w0 g A c L e w hM hA hl hc hO
  by_cases k3 : k = 3
  · subst k3; exact one_clash S w0 g A c L e w hM hA hl hc hO
  by_cases k4 : k = 4
  · subst k4; exact one_over S w0 g A c L e w hM hA hl hc hO
  by_cases k5 : k = 5
  · subst k5; exact one_under S w0 g A c L e w hM hA hl hc hO
  have he : nextL L ⟨k, e⟩ = (SE.put L e).1 := by unfold nextL; simp [k1, k2, k3, k4, k5]
  rw [he]
  exact one_put S w0 g A c L k e w hM hA hl hc hO k1 k2 k3 k4 k5
end Go.Proofs.YtbgcjbekbeobnaaGreatDoor
