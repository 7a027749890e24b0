/- Grants, records and books in memory. -/
import Derived.Test.YtboflkadabagfabBytes
import Derived.Test.YtboflkadabagfabInts
import Derived.Test.YtboflkadabagfabWireA
import Derived.Test.YtboflkadabagfabBkMath2
import Derived.Deep.OwnRows
import Derived.Laws.CopyOwn
import Derived.Laws.MakeOwn
import Derived.Deep.RegionWith
namespace Go.Proofs.Ytboflkadabagfab
open Go.RowKit
open BM (Gr Rc Bk g0 r0 b0)
set_option linter.unusedVariables false
set_option linter.unusedSimpArgs false
set_option maxRecDepth 100000
/-- A number of 64 bits. -/
def In64 (x : Int) : Prop := -9223372036854775808 ≤ x ∧ x ≤ 9223372036854775807
/-- A list of numbers that may be handed on: its header's address and room. -/
structure Stp (w : World) (A : Option Addr) (c : Nat) (l : List Int) : Prop where
  ints : IntsAt w A l
  le : l.length ≤ c
  cap : c ≤ 9223372036854775807
  room : l.length * 8 ≤ 140737488355328
  rng : ∀ x ∈ l, In64 x
/-- A header that reads as these numbers. -/
def HdI (w : World) (u : Value) (l : List Int) : Prop := ∃ A c, u = .slice A l.length c ∧ Stp w A c l
/-- A grant's numbers are of 64 bits, its path is not too long. -/
structure GW (g : Gr) : Prop where
  id : In64 g.id
  holder : In64 g.holder
  mode : In64 g.mode
  term : In64 g.term
  path : g.path.size ≤ 140737488351232
def six (g : Gr) (v : Value) : Array Value := #[.int .i64 g.id, .int .i64 g.holder, .string g.path, .int .i64 g.mode, v, .int .i64 g.term]
def z6 : Array Value := #[.int .i64 0, .int .i64 0, .string ⟨#[]⟩, .int .i64 0, .slice none 0 0, .int .i64 0]
theorem z6_eq : z6 = six g0 (.slice none 0 0) := rfl
/-- A grant's value, whose stamp has the header v. -/
structure FitG (w : World) (v : Value) (g : Gr) : Prop where
  hd : HdI w v g.stamp
  wide : GW g
def twelve (r : Rc) (v u : Value) : Array Value := #[.int .i64 r.kind, .int .i64 r.g.id, .int .i64 r.g.holder, .string r.g.path, .int .i64 r.g.mode, v, .int .i64 r.g.term, .int .i64 r.id, u, .int .i64 r.next, .int .i64 r.boots, .int .i64 r.longest]
def z12 : Array Value := #[.int .i64 0, .int .i64 0, .int .i64 0, .string ⟨#[]⟩, .int .i64 0, .slice none 0 0, .int .i64 0, .int .i64 0, .slice none 0 0, .int .i64 0, .int .i64 0, .int .i64 0]
structure FitR (w : World) (v u : Value) (r : Rc) : Prop where
  g : FitG w v r.g
  st : HdI w u r.stamp
  kind : In64 r.kind
  id : In64 r.id
  next : In64 r.next
  boots : In64 r.boots
  longest : In64 r.longest
/-- A grant lies in block b from cell o on. -/
def GrAt (w : World) (b o : Nat) (g : Gr) : Prop :=
  ∃ v, w.cell? ⟨b, o, none⟩ = some (.int .i64 g.id) ∧ w.cell? ⟨b, o + 1, none⟩ = some (.int .i64 g.holder) ∧ w.cell? ⟨b, o + 2, none⟩ = some (.string g.path) ∧ w.cell? ⟨b, o + 3, none⟩ = some (.int .i64 g.mode) ∧
    w.cell? ⟨b, o + 4, none⟩ = some v ∧ w.cell? ⟨b, o + 5, none⟩ = some (.int .i64 g.term) ∧ FitG w v g
def GrsAt (w : World) (B : Option Addr) (gs : List Gr) : Prop :=
  0 < gs.length → ∃ b o, B = some ⟨b, o, none⟩ ∧ b < w.heap.size ∧ ∀ j g, gs[j]? = some g → GrAt w b (o + j * 6) g
/-- A header that reads as these grants. -/
def HdG (w : World) (v : Value) (gs : List Gr) : Prop := ∃ A c, v = .slice A gs.length c ∧ GrsAt w A gs ∧ gs.length ≤ c ∧ c ≤ 9223372036854775807 ∧ gs.length * 72 ≤ 140737488355328
def four (b : Bk) (v : Value) : Array Value := #[.int .i64 b.next, .int .i64 b.boots, .int .i64 b.longest, v]
def z4 : Array Value := #[.int .i64 0, .int .i64 0, .int .i64 0, .slice none 0 0]
structure FitB (w : World) (v : Value) (b : Bk) : Prop where
  gs : HdG w v b.gs
  next : In64 b.next
  boots : In64 b.boots
  longest : In64 b.longest
section
variable {w w' : World} {A : Option Addr} {c b o : Nat} {l : List Int} {u v : Value} {g : Gr} {r : Rc} {k : Bk} {gs : List Gr} {F : List Nat}
theorem Stp.below (h : Stp w A c l) (hb : Below w.heap.size w w') : Stp w' A c l := ⟨h.ints.below hb, h.le, h.cap, h.room, h.rng⟩
theorem Stp.nil : Stp w none 0 [] := ⟨IntsAt.nil _ _, Nat.le_refl _, by omega, by simp, by simp⟩
theorem HdI.below (h : HdI w u l) (hb : Below w.heap.size w w') : HdI w' u l := by
  obtain ⟨A, c, e, hs⟩ := h
  exact ⟨A, c, e, hs.below hb⟩
theorem HdI.nil : HdI w (.slice none 0 0) [] := ⟨none, 0, rfl, Stp.nil⟩
theorem FitG.below (h : FitG w v g) (hb : Below w.heap.size w w') : FitG w' v g := ⟨h.hd.below hb, h.wide⟩
theorem FitR.below (h : FitR w v u r) (hb : Below w.heap.size w w') : FitR w' v u r := ⟨h.g.below hb, h.st.below hb, h.kind, h.id, h.next, h.boots, h.longest⟩
theorem GrAt.below (h : GrAt w b o g) (hlt : b < w.heap.size) (hb : Below w.heap.size w w') : GrAt w' b o g := by
  obtain ⟨v, h0, h1, h2, h3, h4, h5, h6⟩ := h
  exact ⟨v, (hb.cell (p := ⟨b, o, none⟩) hlt).trans h0, (hb.cell (p := ⟨b, o + 1, none⟩) hlt).trans h1, (hb.cell (p := ⟨b, o + 2, none⟩) hlt).trans h2, (hb.cell (p := ⟨b, o + 3, none⟩) hlt).trans h3, (hb.cell (p := ⟨b, o + 4, none⟩) hlt).trans h4, (hb.cell (p := ⟨b, o + 5, none⟩) hlt).trans h5, h6.below hb⟩
theorem GrsAt.below (h : GrsAt w A gs) (hb : Below w.heap.size w w') : GrsAt w' A gs := fun h0 => by
  obtain ⟨b, o, e, hlt, hg⟩ := h h0
  exact ⟨b, o, e, Nat.lt_of_lt_of_le hlt hb.size, fun j g hj => (hg j g hj).below hlt hb⟩
theorem GrsAt.nil : GrsAt w A [] := fun h => absurd h (Nat.lt_irrefl 0)
theorem HdG.below (h : HdG w v gs) (hb : Below w.heap.size w w') : HdG w' v gs := by
  obtain ⟨A, c, e, h1, h2⟩ := h
  exact ⟨A, c, e, h1.below hb, h2⟩
theorem HdG.nil : HdG w (.slice none 0 0) [] := ⟨none, 0, rfl, GrsAt.nil, Nat.le_refl _, by omega, by simp⟩
theorem FitB.below (h : FitB w v k) (hb : Below w.heap.size w w') : FitB w' v k := ⟨h.gs.below hb, h.next, h.boots, h.longest⟩
theorem Whole.grant {cs : Array Value} {t : TypeId} (h : Whole w b t cs) (hcs : cs = six g v) (hf : FitG w v g) : GrAt w b 0 g := by
  subst hcs
  exact ⟨v, h.cell 0, h.cell 1, h.cell 2, h.cell 3, h.cell 4, h.cell 5, hf⟩
end
theorem six_one {g : Gr} {v : Value} (hv : v.oneCell' = true) : ∀ u ∈ (six g v).toList, u.oneCell' = true := by
  intro u hu
  simp only [six, List.mem_cons, List.not_mem_nil, or_false] at hu
  rcases hu with rfl | rfl | rfl | rfl | rfl | rfl <;> first | rfl | exact hv
theorem bools {a b : Bool} {w w' : World} (h : a = b) (hb : Below w.heap.size w w') : Ending.returned (.bool a) = .returned (.bool b) ∧ Below w.heap.size w w' := ⟨ret_bool h, hb⟩
end Go.Proofs.Ytboflkadabagfab
