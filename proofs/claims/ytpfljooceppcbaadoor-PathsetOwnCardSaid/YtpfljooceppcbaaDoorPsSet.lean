/- Sets of entries as the statements use them, whatever they are made of: what holds of each call on a set and on nil. -/
import Derived.Test.YtpfljooceppcbaaDoorPsBase
namespace Go.Proofs.YtpfljooceppcbaaDoor
open Go.RowKit
open SE (Ent)
set_option linter.unusedVariables false
set_option maxRecDepth 100000
/-- Sets: 'Is w g L F' says that block g starts a set whose list is L; F: the blocks that it is made of. -/
structure Sets where
  Is : World → Nat → List Ent → List Nat → Prop
  inv : ∀ {w g L F}, Is w g L F → SE.Inv L
  fair : ∀ {w g L F}, Is w g L F → ∀ e ∈ L, Fair e
  lt : ∀ {w g L F}, Is w g L F → ∀ b ∈ F, b < w.heap.size
  mod : ∀ {w w' g L F G}, Is w g L F → Mod G w w' → (∀ b ∈ F, b ∉ G) → Is w' g L F
  new : ∀ w, HasMax w → Calls Tryd.prog 7 #[] w fun x w' => ∃ g F, x = .returned (ptr g) ∧ Is w' g [] F ∧ Below w.heap.size w w' ∧ ∀ b ∈ F, w.heap.size ≤ b
  put : ∀ {w g L F}, Is w g L F → HasMax w → ∀ e, Fair e → Calls Tryd.prog 8 #[ptr g, agg e] w fun x w' => ∃ F', x = .returned (.int .i64 (SE.put L e).2) ∧ Is w' g (SE.put L e).1 F' ∧ Mod F w w' ∧ ∀ b ∈ F', b ∈ F ∨ w.heap.size ≤ b
  drop : ∀ {w g L F}, Is w g L F → HasMax w → ∀ id, Calls Tryd.prog 9 #[ptr g, .int .i64 id] w fun x w' => ∃ F', x = .returned (.bool (SE.has L id)) ∧ Is w' g (SE.drop L id) F' ∧ Mod F w w' ∧ ∀ b ∈ F', b ∈ F ∨ w.heap.size ≤ b
  get : ∀ {w g L F}, Is w g L F → ∀ id, Calls Tryd.prog 17 #[ptr g, .int .i64 id] w fun x w' => x = .returned (.tuple #[agg (getE L id), .bool (SE.has L id)]) ∧ Below w.heap.size w w'
  len : ∀ {w g L F}, Is w g L F → Calls Tryd.prog 16 #[ptr g] w fun x w' => x = .returned (.int .i64 (L.length : Int)) ∧ Below w.heap.size w w'
  list : ∀ {w g L F}, Is w g L F → Calls Tryd.prog 11 #[ptr g] w (OneE w L)
  clash : ∀ {w g L F}, Is w g L F → HasMax w → ∀ (q : ByteArray) m who, q.size ≤ 140737488351232 → Calls Tryd.prog 13 #[ptr g, .string q, .int .i64 m, .int .i64 who] w (OneI w (SE.clash L q.data.toList m who))
  over : ∀ {w g L F}, Is w g L F → HasMax w → ∀ q : ByteArray, q.size ≤ 140737488351232 → Calls Tryd.prog 14 #[ptr g, .string q] w (OneI w (SE.over L q.data.toList))
  under : ∀ {w g L F}, Is w g L F → HasMax w → ∀ q : ByteArray, q.size ≤ 140737488351232 → Calls Tryd.prog 15 #[ptr g, .string q] w (OneI w (SE.under L q.data.toList))
  putNil : ∀ w e, Fair e → Calls Tryd.prog 8 #[.pointer none, agg e] w fun x w' => x = .returned (.int .i64 1) ∧ Below w.heap.size w w'
  dropNil : ∀ w id, Calls Tryd.prog 9 #[.pointer none, .int .i64 id] w fun x w' => x = .returned (.bool false) ∧ Below w.heap.size w w'
  getNil : ∀ w id, Calls Tryd.prog 17 #[.pointer none, .int .i64 id] w fun x w' => x = .returned (.tuple #[agg noEnt, .bool false]) ∧ Below w.heap.size w w'
  lenNil : ∀ w, Calls Tryd.prog 16 #[.pointer none] w fun x w' => x = .returned (.int .i64 0) ∧ Below w.heap.size w w'
  listNil : ∀ w, Calls Tryd.prog 11 #[.pointer none] w (OneE w [])
  clashNil : ∀ w (q : ByteArray) m who, HasMax w → q.size ≤ 140737488351232 → Calls Tryd.prog 13 #[.pointer none, .string q, .int .i64 m, .int .i64 who] w (OneI w [])
  overNil : ∀ w (q : ByteArray), HasMax w → q.size ≤ 140737488351232 → Calls Tryd.prog 14 #[.pointer none, .string q] w (OneI w [])
  underNil : ∀ w (q : ByteArray), HasMax w → q.size ≤ 140737488351232 → Calls Tryd.prog 15 #[.pointer none, .string q] w (OneI w [])
namespace Sets
variable {S : Sets} {w w' : World} {g : Nat} {L : List Ent} {F : List Nat}
theorem below (h : S.Is w g L F) (hb : Below w.heap.size w w') : S.Is w' g L F := S.mod h (Mod.of_below hb []) (by simp)
theorem drew (h : S.Is w g L F) : S.Is w.drew g L F := S.mod h ((Mod.refl [] w).drew) (by simp)
theorem drewN (h : S.Is w g L F) (n : Nat) : S.Is (w.drewN n) g L F := S.mod h ((Mod.refl [] w).drewN n) (by simp)
end Sets
/-- These blocks are as they were. -/
def Kept (K : List Nat) (w w' : World) : Prop := w.heap.size ≤ w'.heap.size ∧ ∀ k ∈ K, w'.heap[k]? = w.heap[k]?
theorem Kept.of_mod {F K : List Nat} {w w' : World} (h : Mod F w w') (hd : ∀ b ∈ F, b ∉ K) (hK : ∀ b ∈ K, b < w.heap.size) : Kept K w w' := ⟨h.size, fun k hk => h.block k (hK k hk) (fun hf => hd k hf hk)⟩
theorem Kept.of_below {K : List Nat} {w w' : World} (h : Below w.heap.size w w') (hK : ∀ b ∈ K, b < w.heap.size) : Kept K w w' := ⟨h.size, fun k hk => h.block k (hK k hk)⟩
theorem EntsAt.kept {K : List Nat} {w w' : World} {A : Option Addr} {xs : List Ent} (h : EntsAt w A xs) (hk : Kept K w w') (hA : ∀ ad, A = some ad → ad.block ∈ K) : EntsAt w' A xs := fun h0 => by
  obtain ⟨b, o, e, hb, hc⟩ := h h0
  have hm : b ∈ K := hA _ e
  have key : ∀ j, w'.cell? ⟨b, j, none⟩ = w.cell? ⟨b, j, none⟩ := fun j => World.cell?_of_block (w := w) (a := ⟨b, j, none⟩) (hk.2 b hm)
  refine ⟨b, o, e, Nat.lt_of_lt_of_le hb hk.1, fun j x hx => ?_⟩
  obtain ⟨h1, h2, h3, h4⟩ := hc j x hx
  exact ⟨(key _).trans h1, (key _).trans h2, (key _).trans h3, (key _).trans h4⟩
theorem IntsAt.kept {K : List Nat} {w w' : World} {A : Option Addr} {xs : List Int} (h : IntsAt w A xs) (hk : Kept K w w') (hA : ∀ ad, A = some ad → ad.block ∈ K) : IntsAt w' A xs := fun h0 => by
  obtain ⟨b, o, e, hb, hc⟩ := h h0
  have hm : b ∈ K := hA _ e
  exact ⟨b, o, e, Nat.lt_of_lt_of_le hb hk.1, fun j x hx => (World.cell?_of_block (w := w) (a := ⟨b, o + j, none⟩) (hk.2 b hm)).trans (hc j x hx)⟩
/-- A set that a statement made for itself: it lies at or above base and apart from the blocks K; nothing below base has changed. -/
def Mine (S : Sets) (w0 : World) (g : Nat) (L : List Ent) (K : List Nat) (w : World) : Prop := ∃ F, S.Is w g L F ∧ (∀ b ∈ F, w0.heap.size ≤ b) ∧ Below w0.heap.size w0 w ∧ (∀ b ∈ F, b ∉ K) ∧ (∀ b ∈ K, b < w.heap.size) ∧ HasMax w0
namespace Mine
variable {S : Sets} {w0 w w' : World} {g : Nat} {L : List Ent} {K : List Nat}
theorem on (h : Mine S w0 g L K w) : Below w0.heap.size w0 w := by obtain ⟨F, _, _, h, _⟩ := h; exact h
theorem max0 (h : Mine S w0 g L K w) : HasMax w0 := by obtain ⟨F, _, _, _, _, _, h⟩ := h; exact h
theorem max (h : Mine S w0 g L K w) : HasMax w := h.max0.below h.on
theorem inv (h : Mine S w0 g L K w) : SE.Inv L := by obtain ⟨F, h, _⟩ := h; exact S.inv h
theorem fair (h : Mine S w0 g L K w) : ∀ e ∈ L, Fair e := by obtain ⟨F, h, _⟩ := h; exact S.fair h
theorem there (h : Mine S w0 g L K w) : ∀ b ∈ K, b < w.heap.size := by obtain ⟨F, _, _, _, _, h, _⟩ := h; exact h
theorem below (h : Mine S w0 g L K w) (hb : Below w.heap.size w w') : Mine S w0 g L K w' := by
  obtain ⟨F, h1, h2, h3, h4, h5, h6⟩ := h
  exact ⟨F, Sets.below h1 hb, h2, below_on h3 hb, h4, fun b hk => Nat.lt_of_lt_of_le (h5 b hk) hb.size, h6⟩
/-- Blocks that are new since stand apart, too. -/
theorem also (h : Mine S w0 g L K w) (hb : Below w.heap.size w w') {K' : List Nat} (hK : ∀ b ∈ K', b ∈ K ∨ (w.heap.size ≤ b ∧ b < w'.heap.size)) : Mine S w0 g L K' w' := by
  obtain ⟨F, h1, h2, h3, h4, h5, h6⟩ := h
  refine ⟨F, Sets.below h1 hb, h2, below_on h3 hb, fun b hF hk => ?_, fun b hk => ?_, h6⟩
  · rcases hK b hk with k | k
    · exact h4 b hF k
    · have := S.lt h1 b hF; omega
  · rcases hK b hk with k | k
    · exact Nat.lt_of_lt_of_le (h5 b k) hb.size
    · exact k.2
/-- A store into a block that stands apart. -/
theorem apart (h : Mine S w0 g L K w) {G : List Nat} (hm : Mod G w w') (hG : ∀ b ∈ G, b ∈ K ∧ w0.heap.size ≤ b) : Mine S w0 g L K w' := by
  obtain ⟨F, h1, h2, h3, h4, h5, h6⟩ := h
  exact ⟨F, S.mod h1 hm (fun b hF hg => h4 b hF (hG b hg).1), h2, h3.trans (hm.below h3.size (fun b hg => (hG b hg).2)), h4, fun b hk => Nat.lt_of_lt_of_le (h5 b hk) hm.size, h6⟩
theorem drew (h : Mine S w0 g L K w) : Mine S w0 g L K w.drew := by
  obtain ⟨F, h1, h2, h3, h4, h5, h6⟩ := h
  exact ⟨F, Sets.drew h1, h2, h3.drew, h4, h5, h6⟩
theorem drewN (h : Mine S w0 g L K w) (n : Nat) : Mine S w0 g L K (w.drewN n) := by
  obtain ⟨F, h1, h2, h3, h4, h5, h6⟩ := h
  exact ⟨F, Sets.drewN h1 n, h2, below_drewN h3 n, h4, h5, h6⟩
theorem new (S : Sets) {w0 w : World} (hx : HasMax w0) (hb : Below w0.heap.size w0 w) : Calls Tryd.prog 7 #[] w fun x w' => ∃ g, x = .returned (ptr g) ∧ Hid (Mine S w0 g [] [] w') ∧ Hid (Below w.heap.size w w') :=
  (S.new w (hx.below hb)).mono fun x w' ⟨g, F, h1, h2, h3, h4⟩ => ⟨g, h1, Lib.hid ⟨F, h2, fun b hF => Nat.le_trans hb.size (h4 b hF), below_on hb h3, by simp, by simp, hx⟩, Lib.hid h3⟩
theorem put (h : Mine S w0 g L K w) (e : Ent) (hE : Fair e) : Calls Tryd.prog 8 #[ptr g, agg e] w fun x w' => x = .returned (.int .i64 (SE.put L e).2) ∧ Hid (Mine S w0 g (SE.put L e).1 K w') ∧ Hid (Kept K w w') := by
  obtain ⟨F, h1, h2, h3, h4, h5, h6⟩ := h
  refine (S.put h1 (h6.below h3) e hE).mono fun x w' ⟨F', k1, k2, k3, k4⟩ => ⟨k1, Lib.hid ⟨F', k2, fun b hb => ?_, h3.trans (k3.below h3.size h2), fun b hb hk => ?_, fun b hk => Nat.lt_of_lt_of_le (h5 b hk) k3.size, h6⟩, Lib.hid (Kept.of_mod k3 h4 h5)⟩
  · rcases k4 b hb with k | k
    · exact h2 b k
    · exact Nat.le_trans h3.size k
  · rcases k4 b hb with k | k
    · exact h4 b k hk
    · have := h5 b hk; omega
theorem drop (h : Mine S w0 g L K w) (id : Int) : Calls Tryd.prog 9 #[ptr g, .int .i64 id] w fun x w' => x = .returned (.bool (SE.has L id)) ∧ Hid (Mine S w0 g (SE.drop L id) K w') ∧ Hid (Kept K w w') := by
  obtain ⟨F, h1, h2, h3, h4, h5, h6⟩ := h
  refine (S.drop h1 (h6.below h3) id).mono fun x w' ⟨F', k1, k2, k3, k4⟩ => ⟨k1, Lib.hid ⟨F', k2, fun b hb => ?_, h3.trans (k3.below h3.size h2), fun b hb hk => ?_, fun b hk => Nat.lt_of_lt_of_le (h5 b hk) k3.size, h6⟩, Lib.hid (Kept.of_mod k3 h4 h5)⟩
  · rcases k4 b hb with k | k
    · exact h2 b k
    · exact Nat.le_trans h3.size k
  · rcases k4 b hb with k | k
    · exact h4 b k hk
    · have := h5 b hk; omega
theorem get (h : Mine S w0 g L K w) (id : Int) : Calls Tryd.prog 17 #[ptr g, .int .i64 id] w fun x w' => x = .returned (.tuple #[agg (getE L id), .bool (SE.has L id)]) ∧ Hid (Mine S w0 g L K w') ∧ Hid (Below w.heap.size w w') := by
  have h0 := h
  obtain ⟨F, h1, _⟩ := h
  exact (S.get h1 id).mono fun x w' ⟨k1, k2⟩ => ⟨k1, Lib.hid (h0.below k2), Lib.hid k2⟩
theorem len (h : Mine S w0 g L K w) : Calls Tryd.prog 16 #[ptr g] w fun x w' => x = .returned (.int .i64 (L.length : Int)) ∧ Hid (Mine S w0 g L K w') ∧ Hid (Below w.heap.size w w') := by
  have h0 := h
  obtain ⟨F, h1, _⟩ := h
  exact (S.len h1).mono fun x w' ⟨k1, k2⟩ => ⟨k1, Lib.hid (h0.below k2), Lib.hid k2⟩
theorem nums (h : Mine S w0 g L K w) {xs : List Int} {x : Ending} {w' : World} (k : OneI w xs x w') : ∃ A c, x = .returned (.slice A xs.length c) ∧ Hid (IntsAt w' A xs) ∧ xs.length ≤ c ∧ c ≤ 9223372036854775807 ∧ Hid (Mine S w0 g L K w') ∧ Hid (Below w.heap.size w w') := by
  obtain ⟨A, n, c, rfl, k1, k2, _, k4, k5, k6⟩ := k
  have := k1.out
  subst this
  exact ⟨A, c, rfl, k2, k5, k6, Lib.hid (h.below k4.out), k4⟩
theorem clash (h : Mine S w0 g L K w) (q : ByteArray) (m who : Int) (hq : q.size ≤ 140737488351232) : Calls Tryd.prog 13 #[ptr g, .string q, .int .i64 m, .int .i64 who] w fun x w' => ∃ A c, x = .returned (.slice A (SE.clash L q.data.toList m who).length c) ∧ Hid (IntsAt w' A (SE.clash L q.data.toList m who)) ∧ (SE.clash L q.data.toList m who).length ≤ c ∧ c ≤ 9223372036854775807 ∧ Hid (Mine S w0 g L K w') ∧ Hid (Below w.heap.size w w') := by
  have h0 := h
  obtain ⟨F, h1, _⟩ := h
  exact (S.clash h1 h0.max q m who hq).mono fun x w' k => h0.nums k
theorem over (h : Mine S w0 g L K w) (q : ByteArray) (hq : q.size ≤ 140737488351232) : Calls Tryd.prog 14 #[ptr g, .string q] w fun x w' => ∃ A c, x = .returned (.slice A (SE.over L q.data.toList).length c) ∧ Hid (IntsAt w' A (SE.over L q.data.toList)) ∧ (SE.over L q.data.toList).length ≤ c ∧ c ≤ 9223372036854775807 ∧ Hid (Mine S w0 g L K w') ∧ Hid (Below w.heap.size w w') := by
  have h0 := h
  obtain ⟨F, h1, _⟩ := h
  exact (S.over h1 h0.max q hq).mono fun x w' k => h0.nums k
theorem under (h : Mine S w0 g L K w) (q : ByteArray) (hq : q.size ≤ 140737488351232) : Calls Tryd.prog 15 #[ptr g, .string q] w fun x w' => ∃ A c, x = .returned (.slice A (SE.under L q.data.toList).length c) ∧ Hid (IntsAt w' A (SE.under L q.data.toList)) ∧ (SE.under L q.data.toList).length ≤ c ∧ c ≤ 9223372036854775807 ∧ Hid (Mine S w0 g L K w') ∧ Hid (Below w.heap.size w w') := by
  have h0 := h
  obtain ⟨F, h1, _⟩ := h
  exact (S.under h1 h0.max q hq).mono fun x w' k => h0.nums k
theorem list (h : Mine S w0 g L K w) : Calls Tryd.prog 11 #[ptr g] w fun x w' => ∃ A c, x = .returned (.slice A L.length c) ∧ Hid (EntsAt w' A L) ∧ L.length ≤ c ∧ c ≤ 9223372036854775807 ∧ Hid (Mine S w0 g L K w') ∧ Hid (Below w.heap.size w w') := by
  have h0 := h
  obtain ⟨F, h1, _⟩ := h
  refine (S.list h1).mono fun x w' k => ?_
  obtain ⟨A, n, c, rfl, k1, k2, _, k4, k5, k6⟩ := k
  have := k1.out
  subst this
  exact ⟨A, c, rfl, k2, k5, k6, Lib.hid (h0.below k4.out), k4⟩
end Mine
end Go.Proofs.YtpfljooceppcbaaDoor
