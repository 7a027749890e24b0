/- A bag to which packets are sent, whatever they are. -/
import Derived.Test.YtnbfdgccaacdiaaBagArg
namespace Go.Proofs.Ytnbfdgccaacdiaa
open Go.RowKit
open By (BytesAt u8s own_shape)
set_option linter.unusedVariables false
set_option linter.unusedSimpArgs false
set_option maxRecDepth 100000
/-- What a bag keeps. -/
structure Bg where
  ps : List Pk
  s : Int
  q : Int
def sent (b : Bg) (p : Pk) : Bg := if 200 < p.d.length then ⟨b.ps, b.s, b.q + 1⟩ else if b.ps.length = 48 then ⟨b.ps, b.s, b.q + 1⟩ else ⟨b.ps ++ [p], b.s + 1, b.q⟩
def sentErr (b : Bg) (p : Pk) : Int := if 200 < p.d.length then 41 else if b.ps.length = 48 then 51 else 0
/-- A bag as it may be behind n calls. -/
structure Sound (b : Bg) (n : Nat) : Prop where
  le : b.ps.length ≤ 48
  short : ∀ p ∈ b.ps, p.d.length ≤ 200
  s0 : 0 ≤ b.s
  s1 : b.s ≤ n
  q0 : 0 ≤ b.q
  q1 : b.q ≤ n
theorem sound0 (n : Nat) : Sound ⟨[], 0, 0⟩ n := ⟨by simp, by simp, by simp, by simp, by simp, by simp⟩
theorem Sound.mono {b : Bg} {n m : Nat} (h : Sound b n) (hm : n ≤ m) : Sound b m := ⟨h.le, h.short, h.s0, by have := h.s1; omega, h.q0, by have := h.q1; omega⟩
theorem Sound.sent {b : Bg} {n : Nat} (h : Sound b n) (p : Pk) : Sound (sent b p) (n + 1) := by
  have h0 := h.le
  have h1 := h.s0
  have h2 := h.s1
  have h3 := h.q0
  have h4 := h.q1
  unfold Go.Proofs.Ytnbfdgccaacdiaa.sent
  split
  · exact ⟨h0, h.short, h1, by show b.s ≤ ((n + 1 : Nat) : Int); omega, by show 0 ≤ b.q + 1; omega, by show b.q + 1 ≤ ((n + 1 : Nat) : Int); omega⟩
  · split
    · exact ⟨h0, h.short, h1, by show b.s ≤ ((n + 1 : Nat) : Int); omega, by show 0 ≤ b.q + 1; omega, by show b.q + 1 ≤ ((n + 1 : Nat) : Int); omega⟩
    · refine ⟨by rw [List.length_append, List.length_singleton]; omega, ?_, by show 0 ≤ b.s + 1; omega, by show b.s + 1 ≤ ((n + 1 : Nat) : Int); omega, h3, by show b.q ≤ ((n + 1 : Nat) : Int); omega⟩
      intro r hr
      rcases List.mem_append.1 hr with hr | hr
      · exact h.short r hr
      · rw [List.mem_singleton.1 hr]; omega
section
variable {S : Nat → Prop} {w : World} {g : Nat} {b : Bg}
theorem Send_any (h : BagAt S w g b.ps b.s b.q) {n : Nat} (hb : Sound b n) (hn : n ≤ 4611686018427387904) (p : Pk) (A : Option Addr) (c : Nat) (hB : BytesAt w A p.d) (hS : ∀ x, w.heap.size ≤ x → S x) :
    Calls Try.prog 19 #[.pointer (some ⟨g, 0, none⟩), .agg (three p A c)] w fun e w' => e = .returned (.int .i64 (sentErr b p)) ∧ Hid (BagAt S w' g (sent b p).ps (sent b p).s (sent b p).q) ∧ Hid (Mod [g] w w') := by
  have h1 := hb.s0
  have h2 := hb.s1
  have h3 := hb.q0
  have h4 := hb.q1
  have hs : IntKind.i64.wrap (b.s + 1) = b.s + 1 := IntWalk.i64_in _ (by omega)
  have hq : IntKind.i64.wrap (b.q + 1) = b.q + 1 := IntWalk.i64_in _ (by omega)
  unfold sent sentErr
  by_cases c1 : 200 < p.d.length
  · rw [if_pos c1, if_pos c1]
    exact Send_space h p A c c1 hq
  · rw [if_neg c1, if_neg c1]
    by_cases c2 : b.ps.length = 48
    · rw [if_pos c2, if_pos c2]
      exact Send_full h p A c (by omega) c2 hq
    · rw [if_neg c2, if_neg c2]
      exact Send_ok h p A c hB (by omega) (by have := hb.le; omega) hS hs
end
theorem PksAt.front {S : Nat → Prop} {w : World} {B : Option Addr} {a b : List Pk} (h : PksAt S w B (a ++ b)) : PksAt S w B a := fun h0 => by
  obtain ⟨k, o, e, h1, h2, h3⟩ := h (by rw [List.length_append]; omega)
  exact ⟨k, o, e, h1, h2, fun j p hj => h3 j p (by rw [List.getElem?_append_left (List.getElem?_eq_some_iff.1 hj).1]; exact hj)⟩
end Go.Proofs.Ytnbfdgccaacdiaa
