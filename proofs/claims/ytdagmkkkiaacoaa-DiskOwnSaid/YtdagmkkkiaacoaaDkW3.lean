/- The package's calls on a disk: Write and Read in one word; Image. -/
import Derived.Test.YtdagmkkkiaacoaaDkW2
import Derived.Deep.OwnRows
import Derived.Laws.OwnMore
namespace Go.Proofs.Ytdagmkkkiaacoaa
open Go.RowKit
open By (BytesAt u8 u8s own_shape)
set_option linter.unusedVariables false
set_option linter.unusedSimpArgs false
set_option maxRecDepth 100000
section
variable {w : World} {g : Nat} {d : Dk}
theorem BytesAt.range {A : Option Addr} {x : List UInt8} (h : BytesAt w A x) (h0 : 0 < x.length) : ∃ b o, A = some ⟨b, o, none⟩ ∧ b < w.heap.size ∧ w.rangeAt b o (u8s x) := by
  obtain ⟨b, o, e, hb, hc⟩ := h h0
  refine ⟨b, o, e, hb, fun j v hv => ?_⟩
  unfold u8s at hv
  rw [List.getElem?_map] at hv
  obtain ⟨y, hy, rfl⟩ := Option.map_eq_some_iff.1 hv
  exact hc j y hy
/-- A block that holds just these bytes reads as them. -/
theorem Whole.reads {t : TypeId} {x : List UInt8} {b : Nat} (h : Whole w b t (u8s x).toArray) : BytesAt w (some ⟨b, 0, none⟩) x := fun _ =>
  ⟨b, 0, rfl, h.lt, fun j y hy => by
    rw [Nat.zero_add, h.cell, List.getElem?_toArray]
    unfold u8s
    rw [List.getElem?_map, hy]
    rfl⟩
theorem Write_any (h : DkAt w g d) (i : Int) (A : Option Addr) (x : List UInt8) (c : Nat) (hB : BytesAt w A x) (hA : ∀ ad, A = some ad → ad.block ≠ g) :
    Calls Try.prog 21 #[.pointer (some ⟨g, 0, none⟩), .int .i64 i, .slice A x.length c] w fun e w' => e = .returned (.int .i64 (DK.werr d i x.length)) ∧ Hid (DkAt w' g (DK.written d i x)) ∧ Hid (Mod [g] w w') := by
  cases ho : d.off with
  | true =>
    rw [DK.werr_off ho, DK.written_off ho]
    have hr := DK.rerr_off (i := i) ho
    have := Write_rerr h i A x.length c (by rw [hr]; decide)
    rw [hr] at this
    exact this.mono fun e w' ⟨h1, h2⟩ => by subst h2; exact ⟨h1, Lib.hid h, Lib.hid (Mod.refl _ _)⟩
  | false =>
    by_cases hi : i < 0 ∨ (d.ss.length : Int) ≤ i
    · have hi3 : i < 0 ∨ (d.ss.length : Int) ≤ i ∨ x.length ≠ 64 := hi.elim .inl (fun hh => .inr (.inl hh))
      rw [DK.werr_no ho hi3, DK.written_no ho hi3]
      have hr := DK.rerr_no ho hi
      have := Write_rerr h i A x.length c (by rw [hr]; decide)
      rw [hr] at this
      exact this.mono fun e w' ⟨h1, h2⟩ => by subst h2; exact ⟨h1, Lib.hid h, Lib.hid (Mod.refl _ _)⟩
    · have hr := DK.rerr_ok ho hi
      by_cases hx : x.length = 64
      · have hi3 : ¬ (i < 0 ∨ (d.ss.length : Int) ≤ i ∨ x.length ≠ 64) := fun hh => hh.elim (fun a => hi (.inl a)) (fun a => a.elim (fun a => hi (.inr a)) (fun a => a hx))
        by_cases ha : d.am = 0
        · rw [DK.werr_cut ho hi3 ha, DK.written_cut ho hi3 ha, hx]
          exact Write_cut h i A c hr ha
        · rw [DK.werr_ok ho hi3 ha]
          obtain ⟨k, rfl⟩ : ∃ k : Nat, i = (k : Int) := ⟨i.toNat, by omega⟩
          obtain ⟨b, o, rfl, hb, hrg⟩ := BytesAt.range hB (by omega)
          rw [hx]
          exact Write_ok h k b o c x (by omega) ho hx hrg ha (hA _ rfl) _ (by rw [DK.written_ok ho hi3 ha, Int.toNat_natCast])
      · have hi3 : i < 0 ∨ (d.ss.length : Int) ≤ i ∨ x.length ≠ 64 := .inr (.inr hx)
        rw [DK.werr_no ho hi3, DK.written_no ho hi3]
        exact (Write_len h i A x.length c hr hx).mono fun e w' ⟨h1, h2⟩ => by subst h2; exact ⟨h1, Lib.hid h, Lib.hid (Mod.refl _ _)⟩
/-- What Read answers reads as the sector; it is new. -/
theorem Read_any (h : DkAt w g d) (i : Int) : Calls Try.prog 13 #[.pointer (some ⟨g, 0, none⟩), .int .i64 i] w fun e w' => ∃ A c, e = .returned (.tuple #[.slice A (DK.got d i).length c, .int .i64 (DK.rerr d i)]) ∧ Hid (BytesAt w' A (DK.got d i)) ∧ Hid (Below w.heap.size w w') := by
  cases ho : d.off with
  | true =>
    have hr := DK.rerr_off (i := i) ho
    rw [DK.got_off ho]
    exact (Read_no h i (by rw [hr]; decide)).mono fun e w' ⟨h1, h2⟩ => by subst h2; exact ⟨none, 0, h1, Lib.hid (By.BytesAt.nil _ _), Lib.hid (Below.refl _ _)⟩
  | false =>
    by_cases hi : i < 0 ∨ (d.ss.length : Int) ≤ i
    · have hr := DK.rerr_no ho hi
      rw [DK.got_no ho hi]
      exact (Read_no h i (by rw [hr]; decide)).mono fun e w' ⟨h1, h2⟩ => by subst h2; exact ⟨none, 0, h1, Lib.hid (By.BytesAt.nil _ _), Lib.hid (Below.refl _ _)⟩
    · obtain ⟨k, rfl⟩ : ∃ k : Nat, i = (k : Int) := ⟨i.toNat, by omega⟩
      have hk : d.ss[k]? = some (d.ss[k]'(by omega)) := List.getElem?_eq_getElem _
      obtain ⟨e1, e2⟩ := DK.got_ok ho hk
      have hl := h.ok.len _ _ hk
      rw [e1, e2, hl]
      exact (Read_ok h k _ hk ho).mono fun e w' ⟨h1, h2⟩ => by
        subst h2
        exact ⟨_, _, h1, Lib.hid (Whole.reads (Whole.new w _ _)), Lib.hid ((Below.refl _ w).alloc (Nat.le_refl _) _)⟩
end
/-- A list of lists of bytes in memory. -/
def RowsAt (w : World) (A : Option Addr) (ss : List (List UInt8)) : Prop :=
  0 < ss.length → ∃ b o, A = some ⟨b, o, none⟩ ∧ b < w.heap.size ∧ ∀ (j : Nat) (x : List UInt8), ss[j]? = some x → ∃ A' c, w.cell? ⟨b, o + j, none⟩ = some (.slice A' x.length c) ∧ BytesAt w A' x
theorem RowsAt.below {w w' : World} {A : Option Addr} {ss : List (List UInt8)} (h : RowsAt w A ss) (hb : Below w.heap.size w w') : RowsAt w' A ss := fun h0 => by
  obtain ⟨b, o, e, hlt, hc⟩ := h h0
  refine ⟨b, o, e, Nat.lt_of_lt_of_le hlt hb.size, fun j x hx => ?_⟩
  obtain ⟨A', c, h1, h2⟩ := hc j x hx
  exact ⟨A', c, (hb.cell (p := ⟨b, o + j, none⟩) hlt).trans h1, h2.below hb⟩
def hdr (b j : Nat) : Value := .slice (some ⟨b + j, 0, none⟩) 64 64
def imgCells (b k n : Nat) : Array Value := ((List.range k).map (hdr b) ++ List.replicate (n - k) (Value.slice none 0 0)).toArray
theorem imgCells_at {b k n j : Nat} (h : j < k) : (imgCells b k n)[j]? = some (hdr b j) := by
  unfold imgCells
  rw [List.getElem?_toArray, List.getElem?_append_left (by simpa using h), List.getElem?_map, List.getElem?_range h]
  rfl
theorem imgCells_size {b k n : Nat} (h : k ≤ n) : (imgCells b k n).size = n := by
  unfold imgCells
  rw [List.size_toArray, List.length_append, List.length_map, List.length_range, List.length_replicate]; omega
theorem imgCells_set {b k n : Nat} (h : k < n) : (imgCells b k n).setIfInBounds k (hdr b k) = imgCells b (k + 1) n := by
  unfold imgCells
  rw [List.setIfInBounds_toArray, List.set_append_right _ _ (by simp), List.length_map, List.length_range, Nat.sub_self, show n - k = (n - (k + 1)) + 1 by omega, List.replicate_succ, List.set_cons_zero, List.range_succ, List.map_append, List.append_assoc]
  rfl
theorem imgCells_zero (b n : Nat) : madeCells #[.slice none 0 0] n = imgCells b 0 n := by
  apply Array.ext'
  rw [toList_madeCells_one]
  unfold imgCells
  simp
theorem info_row : (Try.prog.info? 35).map (fun i => (i.zero, i.size, i.bytes)) = some (some (.slice none 0 0), 1, 24) := by kernel_rfl
/-- k sectors of an image have been laid. -/
structure Img (w : World) (ss : List (List UInt8)) (k : Nat) (wr : World) : Prop where
  le : k ≤ ss.length
  row : Whole wr w.heap.size 35 (imgCells (w.heap.size + 1) k ss.length)
  size : wr.heap.size = w.heap.size + 1 + k
  each : ∀ (j : Nat) (x : List UInt8), ss[j]? = some x → j < k → Whole wr (w.heap.size + 1 + j) 56 (u8s x).toArray
  below : Below w.heap.size w wr
theorem Img.start (w : World) (ss : List (List UInt8)) : Img w ss 0 (w.alloc (.cells (madeCells #[.slice none 0 0] ss.length) 35)) :=
  ⟨Nat.zero_le _, by rw [imgCells_zero (w.heap.size + 1)]; exact Whole.new w _ _, by simp, fun j x _ hj => absurd hj (Nat.not_lt_zero _), (Below.refl _ w).alloc (Nat.le_refl _) _⟩
theorem Img.next {w wr : World} {ss : List (List UInt8)} {k : Nat} (h : Img w ss k wr) (x : List UInt8) (hx : ss[k]? = some x) :
    Img w ss (k + 1) ((wr.alloc (.cells (u8s x).toArray 56)).setCell ⟨w.heap.size, k, none⟩ (hdr (w.heap.size + 1) k)) := by
  have hk : k < ss.length := (List.getElem?_eq_some_iff.1 hx).1
  refine ⟨hk, ?_, by rw [World.size_setCell, World.size_alloc, h.size]; omega, fun j y hy hj => ?_, (h.below.alloc (by have := h.size; omega) _).setCell (Nat.le_refl _) _⟩
  · have := (h.row.alloc (.cells (u8s x).toArray 56)).store k (hdr (w.heap.size + 1) k)
    rw [imgCells_set hk] at this
    exact this
  · by_cases e : j = k
    · subst e
      rw [hx] at hy
      cases hy
      have := Whole.new wr 56 (u8s x).toArray
      rw [h.size] at this
      exact this.far (q := ⟨w.heap.size, j, none⟩) (by show w.heap.size + 1 + j ≠ w.heap.size; omega) _
    · exact ((h.each j y hy (by omega)).alloc _).far (q := ⟨w.heap.size, k, none⟩) (by show w.heap.size + 1 + j ≠ w.heap.size; omega) _
theorem Img.rows {w wr : World} {ss : List (List UInt8)} (h : Img w ss ss.length wr) (hl : ∀ (i : Nat) (x : List UInt8), ss[i]? = some x → x.length = 64) : RowsAt wr (some ⟨w.heap.size, 0, none⟩) ss := fun _ =>
  ⟨w.heap.size, 0, rfl, by have := h.size; omega, fun j x hx => by
    have hj := (List.getElem?_eq_some_iff.1 hx).1
    refine ⟨some ⟨w.heap.size + 1 + j, 0, none⟩, 64, ?_, Whole.reads (h.each j x hx hj)⟩
    rw [Nat.zero_add, h.row.cell, imgCells_at hj, hl j x hx]
    rfl⟩
section
variable {w : World} {g : Nat} {d : Dk}
set_option maxHeartbeats 2000000 in
theorem Image_any (h : DkAt w g d) : Calls Try.prog 20 #[.pointer (some ⟨g, 0, none⟩)] w fun e w' => e = .returned (.slice (some ⟨w.heap.size, 0, none⟩) d.ss.length d.ss.length) ∧ Hid (Img w d.ss d.ss.length w') := by
  have hmk : ∀ w' : World, (Instr.makeSlice 42 (.int .i64 (d.ss.length : Int)) (.int .i64 (d.ss.length : Int))).run Try.prog w' = .ok (.slice (some ⟨w'.heap.size, 0, none⟩) d.ss.length d.ss.length) (w'.alloc (.cells (madeCells #[.slice none 0 0] d.ss.length) 35)) := fun w' => run_make_row' (P := Try.prog) 42 35 (.slice none 0 0) 24 Try.underlying42 info_row rfl .i64 .i64 d.ss.length (by have := h.ok.le; omega) (by have := h.ok.le; omega) w'
  have HL := Lib.hid (Len_any h)
  have HD := Lib.hid h
  have hle := h.ok.le
  have HU := Lib.hid Try.underlying56
  clear h
  go_enter Try.func20, Try.ntmps20
  go_wp2_with (refine HL.out.mono ?_; rintro e w' ⟨rfl, rfl⟩)
  go_loopw [10] (fun i wr => ∃ k : Nat, i = .int .i64 (k : Int) ∧ Hid (Img w d.ss k wr)) (fun i _ => d.ss.length - (intOf i).toNat)
  case atStart => exact ⟨0, rfl, Lib.hid (Img.start w d.ss)⟩
  case round =>
    obtain ⟨k, rfl, HI⟩ := hrel
    have hk := HI.out.le
    by_cases hlt : k < d.ss.length
    · have HX := Lib.hid (List.getElem?_eq_getElem hlt)
      generalize d.ss[k] = x at HX
      have HDr := Lib.hid (HD.out.below HI.out.below)
      have HR := Lib.hid (HDr.out.row HX.out)
      have HF := Lib.hid (info_sector (HD.out.ok.len k x HX.out))
      have HB := Lib.hid (bytes_any x (HD.out.ok.len k x HX.out) wr)
      have hk5 : (k : Int) < 512 := by omega
      have HW := Lib.hid (HI.out.row.alloc (.cells (u8s x).toArray 56))
      have HS := Lib.hid (imgCells_size (b := w.heap.size + 1) hk)
      go_wp2_with (first
        | (refine wpList_load_mid rfl 56 (.tmp 19) rfl g (k * 64) rfl (u8s x) _ HR.out HU.out rfl HF.out ?_)
        | (refine HB.out.mono ?_; rintro e w' ⟨rfl, rfl⟩
           have z0 : (wr.alloc (.cells (u8s x).toArray 56)).cell? ⟨w.heap.size, k, none⟩ = some ((imgCells (w.heap.size + 1) k d.ss.length)[k]'(by have := HS.out; omega)) := (HW.out.cell k).trans (Array.getElem?_eq_getElem _)
           have f0 := HW.out.frozen k))
      go_roundw
      case rel =>
        refine ⟨k + 1, rfl, Lib.hid ?_⟩
        have h := HI.out.next x HX.out
        have e : hdr (w.heap.size + 1) k = .slice (some ⟨wr.heap.size, 0, none⟩) 64 64 := by unfold hdr; rw [HI.out.size]
        rw [e] at h
        exact h
      case measure => simp only [intOf]; omega
    · obtain rfl : k = d.ss.length := by omega
      go_wp2_with fail
      go_ret
      exact ⟨rfl, HI⟩
theorem Image_nil (w : World) : Calls Try.prog 20 #[.pointer none] w fun e w' => e = .returned (.slice (some ⟨w.heap.size, 0, none⟩) 0 0) ∧ Below w.heap.size w w' := by
  have hmk : ∀ w' : World, (Instr.makeSlice 42 (.int .i64 0) (.int .i64 0)).run Try.prog w' = .ok (.slice (some ⟨w'.heap.size, 0, none⟩) 0 0) (w'.alloc (.cells (madeCells #[.slice none 0 0] 0) 35)) := fun w' => run_make_row' (P := Try.prog) 42 35 (.slice none 0 0) 24 Try.underlying42 info_row rfl .i64 .i64 0 (by omega) (by omega) w'
  go_enter Try.func20, Try.ntmps20
  go_wp2_with (refine (Len_nil _).mono ?_; rintro e w' ⟨rfl, rfl⟩)
  go_loopw [10] (fun i wr => i = .int .i64 0 ∧ Hid (Below w.heap.size w wr)) (fun i _ => 0)
  case atStart => exact ⟨rfl, Lib.hid ((Below.refl _ w).alloc (Nat.le_refl _) _)⟩
  case round =>
    obtain ⟨rfl, HB⟩ := hrel
    go_wp2_with fail
    go_ret
    exact ⟨rfl, HB.out⟩
end
end Go.Proofs.Ytdagmkkkiaacoaa
