/- The statements' own helper: one call on a set and on a list, where numbers are answered. -/
import Derived.Test.YtpfljooceppcbaaDoorPsL2
import Derived.Deep.RegionHeld3
namespace Go.Proofs.YtpfljooceppcbaaDoor
open Go.RowKit
open SE (Ent)
set_option linter.unusedVariables false
set_option maxRecDepth 100000
theorem SameInts_self (A B : Option Addr) (c d : Nat) (a : List Int) (w : World) (hA : IntsAt w A a) (hB : IntsAt w B a) (ha : a.length ≤ c) (hb : a.length ≤ d) (hc : c ≤ 9223372036854775807) (hd : d ≤ 9223372036854775807) :
    Calls Tryd.prog 12 #[.slice A a.length c, .slice B a.length d] w fun e w' => e = .returned (.bool true) ∧ Below w.heap.size w w' :=
  (SameInts_any A B c d a a w hA hB ha hb hc hd).mono fun e w' ⟨h1, h2⟩ => ⟨by rw [h1, decide_eq_true rfl], h2⟩
theorem OneI.since {w w' : World} {xs : List Int} {x : Ending} (k : OneI w xs x w') : ∃ A c, x = .returned (.slice A xs.length c) ∧ Hid (IntsAt w' A xs) ∧ xs.length ≤ c ∧ c ≤ 9223372036854775807 ∧ Hid (Below w.heap.size w w') := by
  obtain ⟨A, n, c, rfl, k1, k2, _, k4, k5, k6⟩ := k
  have := k1.out
  subst this
  exact ⟨A, c, rfl, k2, k5, k6, k4⟩
theorem sof {w a b : World} {e : Ent} (h : a.cell? ⟨w.heap.size + 1, 1, none⟩ = some (.string e.path)) (hl : w.heap.size + 1 < a.heap.size) (hb : Below a.heap.size a b) : b.cell? ⟨w.heap.size + 1, 1, none⟩ = some (.string e.path) := (hb.cell (p := ⟨w.heap.size + 1, 1, none⟩) hl).trans h
theorem sof3 {w a b : World} {e : Ent} (h : a.cell? ⟨w.heap.size + 1, 1, none⟩ = some (.string e.path) ∧ a.cell? ⟨w.heap.size + 1, 2, none⟩ = some (.int .i64 e.mode) ∧ a.cell? ⟨w.heap.size + 1, 3, none⟩ = some (.int .i64 e.who)) (hl : w.heap.size + 1 < a.heap.size) (hb : Below a.heap.size a b) : b.cell? ⟨w.heap.size + 1, 1, none⟩ = some (.string e.path) ∧ b.cell? ⟨w.heap.size + 1, 2, none⟩ = some (.int .i64 e.mode) ∧ b.cell? ⟨w.heap.size + 1, 3, none⟩ = some (.int .i64 e.who) := ⟨(hb.cell (p := ⟨w.heap.size + 1, 1, none⟩) hl).trans h.1, (hb.cell (p := ⟨w.heap.size + 1, 2, none⟩) hl).trans h.2.1, (hb.cell (p := ⟨w.heap.size + 1, 3, none⟩) hl).trans h.2.2⟩
end Go.Proofs.YtpfljooceppcbaaDoor
