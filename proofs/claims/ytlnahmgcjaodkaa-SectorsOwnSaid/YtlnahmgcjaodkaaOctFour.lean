/- Four bytes and their number: what the package answers, and the document. -/
import Derived.Test.YtlnahmgcjaodkaaOctLow
import Derived.LoopN
import Derived.Deep.OwnRows
namespace Go.Proofs.Ytlnahmgcjaodkaa
open Go.RowKit
open By
set_option linter.unusedVariables false
set_option linter.unusedSimpArgs false
set_option maxRecDepth 100000
/-- The four bytes of a number. -/
def four (x : Nat) : List UInt8 := [OM.by8 (x % 256), OM.by8 (x / 256 % 256), OM.by8 (x / 65536 % 256), OM.by8 (x / 16777216 % 256)]
theorem by8_val {n : Nat} (h : n < 256) {k : Int} (e : k = (n : Int)) : Value.int .u8 k = u8 (OM.by8 n) := by
  unfold u8
  rw [OM.by8_nat h, e]
theorem four_cells {x : Nat} (hx : x < 4294967296) : (#[Value.int .u8 ((x : Int) % 256), .int .u8 ((x : Int) / 256 % 256), .int .u8 ((x : Int) / 65536 % 256), .int .u8 ((x : Int) / 16777216)] : Array Value) = (u8s (four x)).toArray := by
  rw [by8_val (n := x % 256) (by omega) (by omega), by8_val (n := x / 256 % 256) (by omega) (by omega), by8_val (n := x / 65536 % 256) (by omega) (by omega), by8_val (n := x / 16777216 % 256) (by omega) (by omega)]
  rfl
set_option maxRecDepth 100000 in
set_option maxHeartbeats 2000000 in
theorem Four_any (x : Nat) (w : World) (hx : x < 4294967296) : Calls Try.prog 35 #[.int .u32 (x : Int)] w (Fresh w (four x)) := by
  have hmk : (Instr.makeSlice 26 (.int .i64 4) (.int .i64 4)).run Try.prog w = .ok (.slice (some ⟨w.heap.size, 0, none⟩) 4 4) (w.alloc (.cells #[.int .u8 0, .int .u8 0, .int .u8 0, .int .u8 0] 5)) := by
    have e : madeCells #[Value.int .u8 0] 4 = #[.int .u8 0, .int .u8 0, .int .u8 0, .int .u8 0] := by
      apply Array.ext'
      rw [toList_madeCells_one]
      rfl
    rw [← e]
    exact run_make_row' (P := Try.prog) 26 5 (.int .u8 0) 1 Try.underlying26 info_u8 rfl .i64 .i64 4 (by decide) (by decide) w
  go_enter Try.func35, Try.ntmps35
  go_wp2_with fail
  refine wp_loop_rounds 5 ?_
  iterate 5
    rw [rounds_succ]
    go_wp2
  go_ret
  rw [four_cells hx]
  exact ⟨_, rfl, World.ownsRow_lit w _ 4 (Nat.le_refl _) (by decide) rfl, (Below.refl _ w).alloc (Nat.le_refl _) _⟩
/-- The number of the first four bytes. -/
def ofFour (l : List UInt8) : Nat := if l.length < 4 then 0 else (l.getD 0 0).toNat + (l.getD 1 0).toNat * 256 + (l.getD 2 0).toNat * 65536 + (l.getD 3 0).toNat * 16777216
theorem or_join {a y : Nat} (sh : Nat) (ha : a < 2 ^ sh) (hl : y * 2 ^ sh < 4294967296) (ha2 : a < 4294967296) : bits .or .u32 (a : Int) ((y * 2 ^ sh : Nat) : Int) = ((a + y * 2 ^ sh : Nat) : Int) := by
  rw [u32_or_nat _ _ ha2 hl, Nat.or_comm, nat_join sh _ a (Nat.mul_mod_left _ _) ha, Nat.add_comm]
theorem four_join {y0 y1 y2 y3 : Nat} (h0 : y0 < 256) (h1 : y1 < 256) (h2 : y2 < 256) (h3 : y3 < 256) :
    bits .or .u32 (bits .or .u32 (bits .or .u32 (bits .or .u32 0 (y0 : Int)) ((y1 : Int) * 256)) ((y2 : Int) * 65536)) ((y3 : Int) * 16777216) = ((y0 + y1 * 256 + y2 * 65536 + y3 * 16777216 : Nat) : Int) := by
  have e0 : bits .or .u32 0 (y0 : Int) = (y0 : Int) := by
    have e := u32_or_nat 0 y0 (by decide) (by omega)
    rw [Nat.zero_or] at e
    exact e
  have e1 : bits .or .u32 (y0 : Int) ((y1 : Int) * 256) = ((y0 + y1 * 256 : Nat) : Int) := by
    have e := or_join (a := y0) (y := y1) 8 (by omega) (by omega) (by omega)
    rw [Int.natCast_mul] at e
    exact e
  have e2 : bits .or .u32 ((y0 + y1 * 256 : Nat) : Int) ((y2 : Int) * 65536) = ((y0 + y1 * 256 + y2 * 65536 : Nat) : Int) := by
    have e := or_join (a := y0 + y1 * 256) (y := y2) 16 (by omega) (by omega) (by omega)
    rw [Int.natCast_mul] at e
    exact e
  have e3 : bits .or .u32 ((y0 + y1 * 256 + y2 * 65536 : Nat) : Int) ((y3 : Int) * 16777216) = ((y0 + y1 * 256 + y2 * 65536 + y3 * 16777216 : Nat) : Int) := by
    have e := or_join (a := y0 + y1 * 256 + y2 * 65536) (y := y3) 24 (by omega) (by omega) (by omega)
    rw [Int.natCast_mul] at e
    exact e
  rw [e0, e1, e2, e3]
theorem getD_at {l : List UInt8} {k : Nat} (h : k < l.length) : l.getD k 0 = l[k] := by simp [List.getD, List.getElem?_eq_getElem h]
theorem ofFour_short {l : List UInt8} (h : l.length < 4) : ofFour l = 0 := by unfold ofFour; rw [if_pos h]
theorem ofFour_long {l : List UInt8} (h : ¬ l.length < 4) {y0 y1 y2 y3 : Nat} (e : (l[0]).toNat = y0 ∧ (l[1]).toNat = y1 ∧ (l[2]).toNat = y2 ∧ (l[3]).toNat = y3) : ofFour l = y0 + y1 * 256 + y2 * 65536 + y3 * 16777216 := by
  unfold ofFour
  rw [if_neg h, ← e.1, ← e.2.1, ← e.2.2.1, ← e.2.2.2]
  rw [getD_at (by omega), getD_at (by omega), getD_at (by omega), getD_at (by omega)]
theorem two_back {a b : Int} {x y : Bool} (h : a = b) (h' : x = y) : Ending.returned (.tuple #[.int .u32 a, .bool x]) = .returned (.tuple #[.int .u32 b, .bool y]) := by rw [h, h']
set_option maxRecDepth 100000 in
set_option maxHeartbeats 2000000 in
theorem OfFour_any (A : Option Addr) (c : Nat) (l : List UInt8) (w : World) (h : BytesAt w A l) (h3 : l.length ≤ c) (hc : c ≤ 9223372036854775807) :
    Calls Try.prog 39 #[.slice A l.length c] w fun e w' => e = .returned (.tuple #[.int .u32 (ofFour l : Int), .bool (decide (4 ≤ l.length))]) ∧ w = w' := by
  have H := Lib.hid h; clear h
  by_cases h4 : l.length < 4
  · go_enter Try.func39, Try.ntmps39
    go_wp2
    go_ret2
    exact ⟨two_back (by rw [ofFour_short h4]; rfl) (by simp; omega), rfl⟩
  · obtain ⟨b, o, hA, _, hcc⟩ := H.out (by omega)
    subst hA
    have c0 : w.cell? ⟨b, o, none⟩ = some (.int .u8 ((l[0]).toNat : Int)) := hcc 0 l[0] (List.getElem?_eq_getElem (by omega))
    have c1 : w.cell? ⟨b, o + 1, none⟩ = some (.int .u8 ((l[1]).toNat : Int)) := hcc 1 l[1] (List.getElem?_eq_getElem (by omega))
    have c2 : w.cell? ⟨b, o + 2, none⟩ = some (.int .u8 ((l[2]).toNat : Int)) := hcc 2 l[2] (List.getElem?_eq_getElem (by omega))
    have c3 : w.cell? ⟨b, o + 3, none⟩ = some (.int .u8 ((l[3]).toNat : Int)) := hcc 3 l[3] (List.getElem?_eq_getElem (by omega))
    clear hcc
    have hcap : 4 ≤ c := by omega
    have x0 : (l[0]).toNat < 256 := (l[0]).toNat_lt
    have x1 : (l[1]).toNat < 256 := (l[1]).toNat_lt
    have x2 : (l[2]).toNat < 256 := (l[2]).toNat_lt
    have x3 : (l[3]).toNat < 256 := (l[3]).toNat_lt
    generalize hy0 : (l[0]).toNat = y0 at c0 x0
    generalize hy1 : (l[1]).toNat = y1 at c1 x1
    generalize hy2 : (l[2]).toNat = y2 at c2 x2
    generalize hy3 : (l[3]).toNat = y3 at c3 x3
    have HY := Lib.hid (And.intro hy0 (And.intro hy1 (And.intro hy2 hy3)))
    clear hy0 hy1 hy2 hy3
    go_enter Try.func39, Try.ntmps39
    go_wp2_with fail
    refine wp_loop_rounds 5 ?_
    iterate 5
      rw [rounds_succ]
      go_wp2
    go_ret2
    exact ⟨two_back (by rw [ofFour_long h4 HY.out]; exact four_join x0 x1 x2 x3) (by simp; omega), rfl⟩
theorem ref_join (y0 y1 y2 y3 : Nat) : (((y3 : Int) * 256 + y2) * 256 + y1) * 256 + y0 = ((y0 + y1 * 256 + y2 * 65536 + y3 * 16777216 : Nat) : Int) := by omega
set_option maxRecDepth 100000 in
set_option maxHeartbeats 2000000 in
theorem RefOfFour_any (A : Option Addr) (c : Nat) (l : List UInt8) (w : World) (h : BytesAt w A l) (h3 : l.length ≤ c) (hc : c ≤ 9223372036854775807) :
    Calls Try.prog 31 #[.slice A l.length c] w fun e w' => e = .returned (.tuple #[.int .u32 (ofFour l : Int), .bool (decide (4 ≤ l.length))]) ∧ w = w' := by
  have H := Lib.hid h; clear h
  by_cases h4 : l.length < 4
  · go_enter Try.func31, Try.ntmps31
    go_wp2
    go_ret2
    exact ⟨two_back (by rw [ofFour_short h4]; rfl) (by simp; omega), rfl⟩
  · obtain ⟨b, o, hA, _, hcc⟩ := H.out (by omega)
    subst hA
    have c0 : w.cell? ⟨b, o, none⟩ = some (.int .u8 ((l[0]).toNat : Int)) := hcc 0 l[0] (List.getElem?_eq_getElem (by omega))
    have c1 : w.cell? ⟨b, o + 1, none⟩ = some (.int .u8 ((l[1]).toNat : Int)) := hcc 1 l[1] (List.getElem?_eq_getElem (by omega))
    have c2 : w.cell? ⟨b, o + 2, none⟩ = some (.int .u8 ((l[2]).toNat : Int)) := hcc 2 l[2] (List.getElem?_eq_getElem (by omega))
    have c3 : w.cell? ⟨b, o + 3, none⟩ = some (.int .u8 ((l[3]).toNat : Int)) := hcc 3 l[3] (List.getElem?_eq_getElem (by omega))
    clear hcc
    have hcap : 4 ≤ c := by omega
    have x0 : (l[0]).toNat < 256 := (l[0]).toNat_lt
    have x1 : (l[1]).toNat < 256 := (l[1]).toNat_lt
    have x2 : (l[2]).toNat < 256 := (l[2]).toNat_lt
    have x3 : (l[3]).toNat < 256 := (l[3]).toNat_lt
    generalize hy0 : (l[0]).toNat = y0 at c0 x0
    generalize hy1 : (l[1]).toNat = y1 at c1 x1
    generalize hy2 : (l[2]).toNat = y2 at c2 x2
    generalize hy3 : (l[3]).toNat = y3 at c3 x3
    have HY := Lib.hid (And.intro hy0 (And.intro hy1 (And.intro hy2 hy3)))
    clear hy0 hy1 hy2 hy3
    go_enter Try.func31, Try.ntmps31
    go_wp2_with fail
    refine wp_loop_rounds 5 ?_
    iterate 5
      rw [rounds_succ]
      go_wp2
    go_ret2
    exact ⟨two_back (by rw [ofFour_long h4 HY.out]; exact ref_join y0 y1 y2 y3) (by simp; omega), rfl⟩
theorem four_take {x k q : Nat} (hk : k < 4) (hq : q = x / 256 ^ k) : (four x).take (k + 1) = (four x).take k ++ [OM.by8 (q % 256)] := by
  subst hq
  match k, hk with
  | 0, _ => simp [four]
  | 1, _ => simp [four]
  | 2, _ => simp [four]
  | 3, _ => simp [four]
set_option maxRecDepth 100000 in
set_option maxHeartbeats 2000000 in
theorem RefFour_any (x : Nat) (w : World) (hx : x < 4294967296) : Calls Try.prog 37 #[.int .u32 (x : Int)] w (Fresh w (four x)) := by
  go_enter Try.func37, Try.ntmps37
  go_wp2_with fail
  go_loopw [4, 0, 3] (fun i y v wx => ∃ (k q : Nat), i = .int .i64 (k : Int) ∧ y = .int .u32 (q : Int) ∧ k ≤ 4 ∧ q < 4294967296 ∧ Hid (q = x / 256 ^ k) ∧ Grew w ((four x).take k) v wx) (fun i _ _ _ => 4 - (intOf i).toNat)
  case atStart => exact ⟨0, x, rfl, rfl, by omega, hx, Lib.hid (by rw [Nat.pow_zero, Nat.div_one]), Grew.nil w⟩
  case round =>
    obtain ⟨k, q, rfl, rfl, hk, hq, HQ, hG⟩ := hrel
    have HG := Lib.hid hG; clear hG
    by_cases hlt : k < 4
    · have HC := Lib.hid (show (q : Int) % 256 = ((OM.by8 (q % 256)).toNat : Int) by rw [OM.by8_nat (by omega)]; omega)
      have hl4 : ((four x).take k).length + 1 ≤ 140737488355328 := by rw [List.length_take]; omega
      go_wp2_with (at_builtin; refine app_one rfl (.tmp 9) (.tmp 13) rfl _ _ HG.out rfl _ _ HC.out rfl hl4 ?_; intro v2 w2 hg2; have HG2 := Lib.hid hg2; clear hg2)
      go_roundw
      case rel => exact ⟨k + 1, q / 256, rfl, congrArg (Value.int .u32) (Int.natCast_ediv q 256).symm, by omega, by omega, Lib.hid (by rw [HQ.out, Nat.div_div_eq_div_mul, Nat.pow_succ]), by rw [four_take hlt HQ.out]; exact HG2.out⟩
      case measure => simp only [intOf]; omega
    · have e4 := Lib.hid (show (four x).take k = four x from List.take_of_length_le (by show 4 ≤ k; omega))
      go_wp2_with fail
      go_ret
      have h := HG.out
      rw [e4.out] at h
      exact ⟨_, rfl, h.1, h.2⟩
end Go.Proofs.Ytlnahmgcjaodkaa
