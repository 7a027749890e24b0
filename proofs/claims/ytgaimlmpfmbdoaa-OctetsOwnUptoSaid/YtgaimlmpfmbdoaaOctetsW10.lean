/- A writer and what is kept beside it; the calls of the statements themselves on such a state; a list of things that came in. -/
import Derived.Test.YtgaimlmpfmbdoaaOctetsW8
import Derived.Test.YtgaimlmpfmbdoaaOctetsW9
import Derived.Test.YtgaimlmpfmbdoaaLawBare
import Derived.ShutString
import Derived.SliceStrings
import Derived.Deep.Slices
import Derived.Deep.Fields
namespace Go.Proofs.Ytgaimlmpfmbdoaa
open Go.RowKit

/-- A writer at block a that has laid down L; its blocks lie from N on, none of them is in K. -/
def WIn (N : Nat) (K : List Nat) (a : Nat) (L : List UInt8) (w : World) : Prop := ∃ F, WAt w a L F ∧ ∀ x ∈ F, N ≤ x ∧ x ∉ K
/-- What was there below N, and what is in K, is as it was. -/
def Keeps (N : Nat) (K : List Nat) (w w' : World) : Prop := ∃ F, Mod F w w' ∧ ∀ x ∈ F, N ≤ x ∧ x ∉ K
section
variable {N : Nat} {K K' : List Nat} {a : Nat} {L : List UInt8} {w w1 w2 : World}
theorem WIn.fresh (hN : N ≤ w.heap.size) (hK : ∀ x ∈ K, x < w.heap.size) : WIn N K w.heap.size [] (w.alloc (.cells #[.pointer none, .int .i64 0] 24)) :=
  ⟨_, WAt.new w, fun x hx => by
    have e : x = w.heap.size := by simpa using hx
    subst e
    exact ⟨hN, fun h => Nat.lt_irrefl _ (hK _ h)⟩⟩
theorem WIn.mod {G : List Nat} (h : WIn N K a L w) (hm : Mod G w w1) (hG : ∀ x ∈ G, x ∈ K ∨ x < N) : WIn N K a L w1 := by
  obtain ⟨F, h1, h2⟩ := h
  exact ⟨F, h1.mod hm (fun x hx hg => (hG x hg).elim (h2 x hx).2 (fun h => by have := (h2 x hx).1; omega)), h2⟩
theorem WIn.below (h : WIn N K a L w) (hb : Below w.heap.size w w1) : WIn N K a L w1 := h.mod (Mod.of_below hb []) (by simp)
theorem WIn.rekey (h : WIn N K a L w) (hK : ∀ x ∈ K', x ∈ K ∨ w.heap.size ≤ x) : WIn N K' a L w := by
  obtain ⟨F, h1, h2⟩ := h
  exact ⟨F, h1, fun x hx => ⟨(h2 x hx).1, fun hk => (hK x hk).elim (h2 x hx).2 (fun h => by have := h1.lt x hx; omega)⟩⟩
theorem Keeps.refl (N : Nat) (K : List Nat) (w : World) : Keeps N K w w := ⟨[], Mod.refl _ _, by simp⟩
theorem Keeps.size (h : Keeps N K w w1) : w.heap.size ≤ w1.heap.size := h.elim fun _ h => h.1.size
theorem Keeps.belowN (h : Keeps N K w w1) (hN : N ≤ w.heap.size) : Below N w w1 := by
  obtain ⟨F, h1, h2⟩ := h
  exact h1.below hN (fun x hx => (h2 x hx).1)
theorem Keeps.own (h : Keeps N K w w1) {base : Nat} {e : TypeId} {size n : Nat} {v : Value} {xs : List Value} (ho : w.ownsRow base e size v n xs) (hk : ∀ k, v.ownBlock = some k → k ∈ K) : w1.ownsRow base e size v n xs := by
  obtain ⟨F, h1, h2⟩ := h
  exact h1.own ho (fun k hk' hF => (h2 k hF).2 (hk k hk'))
theorem Keeps.bytes (h : Keeps N K w w1) {A : Option Addr} {xs : List UInt8} (hb : BytesAt w A xs) (hk : ∀ ad, A = some ad → ad.block ∈ K) : BytesAt w1 A xs := by
  obtain ⟨F, h1, h2⟩ := h
  exact hb.mod h1 (fun ad e hF => (h2 _ hF).2 (hk ad e))
theorem Keeps.reader (h : Keeps N K w w1) {r b : Nat} {l : List UInt8} {e : Nat} (hr : RAt w r b l e) (h1 : r ∈ K) (h2 : b ∈ K) : RAt w1 r b l e := by
  obtain ⟨A, c, k1, k2, k3, k4, k5⟩ := hr
  refine ⟨A, c, ?_, h.bytes k2 (fun ad e => by rw [k5 ad e]; exact h2), k3, k4, k5⟩
  obtain ⟨F, f1, f2⟩ := h
  exact f1.whole k1 (fun hF => (f2 r hF).2 h1)
theorem laid_in (h : WIn N K a L w) (hN : N ≤ w.heap.size) (hK : ∀ x ∈ K, x < w.heap.size) {M : List UInt8} (k : ∀ F, WAt w a L F → Laid w a F M w1) : WIn N K a M w1 ∧ Keeps N K w w1 := by
  obtain ⟨F, h1, h2⟩ := h
  obtain ⟨F1, k1, k2, k3⟩ := k F h1
  refine ⟨⟨F1, k1, fun x hx => ?_⟩, ⟨F, k2, h2⟩⟩
  rcases k3 x hx with h | h
  · exact h2 x h
  · exact ⟨Nat.le_trans hN h, fun hk => by have := hK x hk; omega⟩
end
theorem RAt.below {w w' : World} {r b : Nat} {l : List UInt8} {e : Nat} (h : RAt w r b l e) (hb : Below w.heap.size w w') : RAt w' r b l e := by
  obtain ⟨A, c, k1, k2, k3⟩ := h
  exact ⟨A, c, (Mod.of_below hb []).whole k1 (by simp), k2.below hb, k3⟩
theorem RAt.lt {w : World} {r b : Nat} {l : List UInt8} {e : Nat} (h : RAt w r b l e) : r < w.heap.size := by
  obtain ⟨A, c, k1, _⟩ := h
  exact k1.lt

section
variable {N : Nat} {K : List Nat} {a : Nat} {L : List UInt8} {w : World}
theorem Num_in (n : Int) (h : WIn N K a L w) (hN : N ≤ w.heap.size) (hK : ∀ x ∈ K, x < w.heap.size) (hn : -9223372036854775808 ≤ n ∧ n ≤ 9223372036854775807) (hlen : (L ++ OM.enc n.toNat).length ≤ 140737488355328) :
    Calls Try.prog 11 #[.pointer (some ⟨a, 0, none⟩), .int .i64 n] w fun e w' => e = .returned (.tuple #[]) ∧ WIn N K a (L ++ OM.enc n.toNat) w' ∧ Keeps N K w w' := by
  obtain ⟨F, h1, h2⟩ := h
  refine (Num_any a n L F w hn h1 hlen).mono ?_
  rintro e w1 ⟨rfl, hl⟩
  refine ⟨rfl, ?_⟩
  obtain ⟨F1, k1, k2, k3⟩ := hl
  refine ⟨⟨F1, k1, fun x hx => ?_⟩, ⟨F, k2, h2⟩⟩
  rcases k3 x hx with h | h
  · exact h2 x h
  · exact ⟨Nat.le_trans hN h, fun hk => by have := hK x hk; omega⟩
theorem Text_in (s : ByteArray) (h : WIn N K a L w) (hN : N ≤ w.heap.size) (hK : ∀ x ∈ K, x < w.heap.size) (hs : s.size ≤ 9223372036854775807) (hlen : (L ++ OM.encT s.data.toList).length ≤ 140737488355328) :
    Calls Try.prog 24 #[.pointer (some ⟨a, 0, none⟩), .string s] w fun e w' => e = .returned (.tuple #[]) ∧ WIn N K a (L ++ OM.encT s.data.toList) w' ∧ Keeps N K w w' := by
  obtain ⟨F, h1, h2⟩ := h
  refine (Text_any a s L F w hs h1 hlen).mono ?_
  rintro e w1 ⟨rfl, hl⟩
  refine ⟨rfl, ?_⟩
  obtain ⟨F1, k1, k2, k3⟩ := hl
  refine ⟨⟨F1, k1, fun x hx => ?_⟩, ⟨F, k2, h2⟩⟩
  rcases k3 x hx with h | h
  · exact h2 x h
  · exact ⟨Nat.le_trans hN h, fun hk => by have := hK x hk; omega⟩
/-- What is answered is a list of its own that reads as these bytes, and as a text. -/
def Gave (w : World) (xs : List UInt8) (e : Ending) (w' : World) : Prop :=
  ∃ A n c, e = .returned (.slice A n c) ∧ Hid (n = xs.length) ∧ Hid (BytesAt w' A xs) ∧ Hid (w'.ownsRow w.heap.size 5 1 (.slice A n c) n (u8s xs)) ∧ Hid (Below w.heap.size w w') ∧ n ≤ c ∧ c ≤ 9223372036854775807 ∧
    (convert 28 9 (.slice A n c)).run Try.prog w' = .ok (.string ⟨xs.toArray⟩) w'
theorem gave_of {w w' : World} {xs : List UInt8} {e : Ending} (h : Fresh w xs e w') : Gave w xs e w' := by
  obtain ⟨v, rfl, h1, h2⟩ := h
  obtain ⟨A, c, rfl, k1, k2⟩ := own_shape h1
  exact ⟨A, _, c, rfl, Lib.hid rfl, Lib.hid (BytesAt.own h1), Lib.hid h1, Lib.hid h2, k1, k2, str_of (BytesAt.own h1)⟩
theorem Bytes_in (h : WIn N K a L w) (hl : L.length ≤ 140737488355328) : Calls Try.prog 13 #[.pointer (some ⟨a, 0, none⟩)] w (Gave w L) := by
  obtain ⟨F, h1, _⟩ := h
  exact (Bytes_any a L F w h1 hl).mono fun _ _ h => gave_of h
end
theorem NewReader_in {w : World} {A : Option Addr} {n c : Nat} {xs : List UInt8} (hn : n = xs.length) (h : BytesAt w A xs) (hl : xs.length ≤ 140737488355328) :
    Calls Try.prog 12 #[.slice A n c] w (Opened w xs) := by
  subst hn
  exact NewReader_any A c xs w h hl
theorem Sum_in {w : World} {A : Option Addr} {n c : Nat} {xs : List UInt8} (hn : n = xs.length) (h : BytesAt w A xs) (hl : xs.length ≤ 140737488355328) :
    Calls Try.prog 28 #[.slice A n c] w fun e w' => e = .returned (.int .u32 (OM.sum xs : Int)) ∧ w = w' := by
  subst hn
  exact Sum_any A c xs w h (by omega)
theorem OfFour_in {w : World} {A : Option Addr} {n c : Nat} {xs : List UInt8} (hn : n = xs.length) (h : BytesAt w A xs) (h3 : n ≤ c) (hc : c ≤ 9223372036854775807) :
    Calls Try.prog 25 #[.slice A n c] w fun e w' => e = .returned (.tuple #[.int .u32 (ofFour xs : Int), .bool (decide (4 ≤ xs.length))]) ∧ w = w' := by
  subst hn
  exact OfFour_any A c xs w h h3 hc
/-- A list that is written out in the text. -/
theorem bytes_lit (w : World) (xs : List UInt8) : BytesAt (w.alloc (.cells (u8s xs).toArray 5)) (some ⟨w.heap.size, 0, none⟩) xs := fun _ =>
  ⟨w.heap.size, 0, rfl, by simp, fun j x hx => by
    rw [Nat.zero_add, World.cell?_alloc_new]
    simp [u8s, hx]⟩
theorem RNum_in {w : World} {r b : Nat} {l m : List UInt8} {e n e' : Nat} (h : RAt w r b l e) (hk : OM.rnum l e = (n, m, e')) :
    Calls Try.prog 15 #[.pointer (some ⟨r, 0, none⟩)] w fun x w' => x = .returned (.int .i64 (n : Int)) ∧ RAt w' r b m e' ∧ Mod [r] w w' := by
  refine (RNum_any r b l e w h).mono ?_
  rintro x w' ⟨rfl, h1, h2⟩
  rw [hk] at h1 ⊢
  exact ⟨rfl, h1, h2⟩
theorem RText_in {w : World} {r b : Nat} {l m t : List UInt8} {e e' : Nat} {most : Int} (hmost : -9223372036854775808 ≤ most ∧ most ≤ 9223372036854775807) (h : RAt w r b l e) (hk : OM.rtext l e most = (t, m, e')) :
    Calls Try.prog 21 #[.pointer (some ⟨r, 0, none⟩), .int .i64 most] w fun x w' => x = .returned (.string ⟨t.toArray⟩) ∧ RAt w' r b m e' ∧ Mod [r] w w' := by
  refine (RText_any r b l e most w hmost h).mono ?_
  rintro x w' ⟨rfl, h1, h2⟩
  rw [hk] at h1 ⊢
  exact ⟨rfl, h1, h2⟩
theorem below_reader {N r : Nat} {w w' : World} (h : Mod [r] w w') (hN : N ≤ w.heap.size) (hr : N ≤ r) : Below N w w' :=
  h.below hN (fun x hx => by have e : x = r := by simpa using hx
                             rw [e]; exact hr)
end Go.Proofs.Ytgaimlmpfmbdoaa
