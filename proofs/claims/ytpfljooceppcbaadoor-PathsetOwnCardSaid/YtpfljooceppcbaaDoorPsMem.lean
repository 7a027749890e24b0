/- Entries in memory: a list of them that reads so, one that a call has grown for itself; append of one. -/
import Derived.Test.YtpfljooceppcbaaDoorPsMath
import Derived.Test.YtpfljooceppcbaaDoorInts
namespace Go.Proofs.YtpfljooceppcbaaDoor
open Go.RowKit
open SE (Ent)
set_option linter.unusedVariables false
set_option maxRecDepth 100000
/-- An entry as a value, its cells. -/
def agg (e : Ent) : Value := .agg #[.int .i64 e.id, .string e.path, .int .i64 e.mode, .int .i64 e.who]
def four (e : Ent) : List Value := [.int .i64 e.id, .string e.path, .int .i64 e.mode, .int .i64 e.who]
def ents (l : List Ent) : List Value := l.flatMap four
theorem ents_len (l : List Ent) : (ents l).length = l.length * 4 := by
  unfold ents
  induction l with
  | nil => rfl
  | cons e r ih =>
    rw [List.flatMap_cons, List.length_append, ih, List.length_cons]
    show 4 + _ = _
    omega
theorem ents_append (a b : List Ent) : ents (a ++ b) = ents a ++ ents b := by unfold ents; rw [List.flatMap_append]
theorem one_ent {l : List Ent} : ∀ u ∈ ents l, u.oneCell' = true := by
  intro u hu
  obtain ⟨e, _, h⟩ := List.mem_flatMap.1 hu
  unfold four at h
  simp only [List.mem_cons, List.not_mem_nil, or_false] at h
  rcases h with rfl | rfl | rfl | rfl <;> rfl
theorem ents_at : ∀ {l : List Ent} {j : Nat} {e : Ent}, l[j]? = some e → (ents l)[j * 4]? = some (.int .i64 e.id) ∧ (ents l)[j * 4 + 1]? = some (.string e.path) ∧ (ents l)[j * 4 + 2]? = some (.int .i64 e.mode) ∧ (ents l)[j * 4 + 3]? = some (.int .i64 e.who)
  | [], j, e, h => by simp at h
  | x :: r, 0, e, h => by
    simp only [List.getElem?_cons_zero, Option.some.injEq] at h
    subst h
    exact ⟨rfl, rfl, rfl, rfl⟩
  | x :: r, j + 1, e, h => by
    rw [List.getElem?_cons_succ] at h
    have ih := ents_at h
    have e1 : ents (x :: r) = .int .i64 x.id :: .string x.path :: .int .i64 x.mode :: .int .i64 x.who :: ents r := rfl
    rw [e1, show (j + 1) * 4 = j * 4 + 4 by omega]
    exact ih
theorem info_ent : (Tryd.prog.info? 25).map (fun i => (i.size, i.bytes)) = some (4, 40) := by kernel_rfl
/-- An entry's cells. -/
def EntCells (w : World) (b k : Nat) (e : Ent) : Prop := w.cell? ⟨b, k, none⟩ = some (.int .i64 e.id) ∧ w.cell? ⟨b, k + 1, none⟩ = some (.string e.path) ∧ w.cell? ⟨b, k + 2, none⟩ = some (.int .i64 e.mode) ∧ w.cell? ⟨b, k + 3, none⟩ = some (.int .i64 e.who)
/-- A list of entries that reads so, nil let in; its cells lie in a block that was there. -/
def EntsAt (w : World) (A : Option Addr) (xs : List Ent) : Prop :=
  0 < xs.length → ∃ b o, A = some ⟨b, o, none⟩ ∧ b < w.heap.size ∧ ∀ j e, xs[j]? = some e → EntCells w b (o + j * 4) e
theorem EntsAt.nil (w : World) (A : Option Addr) : EntsAt w A [] := fun h => absurd h (Nat.lt_irrefl 0)
theorem EntsAt.mod {w w' : World} {A : Option Addr} {xs : List Ent} {G : List Nat} (h : EntsAt w A xs) (hm : Mod G w w') (hn : ∀ ad, A = some ad → ad.block ∉ G) : EntsAt w' A xs := fun h0 => by
  obtain ⟨b, o, e, hb, hc⟩ := h h0
  refine ⟨b, o, e, Nat.lt_of_lt_of_le hb hm.size, fun j x hx => ?_⟩
  obtain ⟨h1, h2, h3, h4⟩ := hc j x hx
  have hn' : b ∉ G := hn _ e
  exact ⟨(hm.cell (p := ⟨b, o + j * 4, none⟩) hb hn').trans h1, (hm.cell (p := ⟨b, o + j * 4 + 1, none⟩) hb hn').trans h2, (hm.cell (p := ⟨b, o + j * 4 + 2, none⟩) hb hn').trans h3, (hm.cell (p := ⟨b, o + j * 4 + 3, none⟩) hb hn').trans h4⟩
theorem EntsAt.below {w w' : World} {A : Option Addr} {xs : List Ent} (h : EntsAt w A xs) (hb : Below w.heap.size w w') : EntsAt w' A xs := h.mod (Mod.of_below hb []) (by simp)
theorem EntsAt.own {w : World} {A : Option Addr} {n c : Nat} {xs : List Ent} {base : Nat} (h : w.ownsRow base 25 4 (.slice A n c) n (ents xs)) : EntsAt w A xs := fun h0 => by
  have hl := h.1
  rw [ents_len] at hl
  have hn : n = xs.length := by omega
  rcases h.2 with ⟨_, h1⟩ | ⟨g, cap, cur, hv, _, hh, _, _, _, ht⟩
  · omega
  · injection hv with hA
    subst hA
    refine ⟨g, 0, rfl, (Array.getElem?_eq_some_iff.1 hh).1, fun j x hx => ?_⟩
    have key : ∀ k u, (ents xs)[k]? = some u → w.cell? ⟨g, 0 + k, none⟩ = some u := fun k u hu => by
      rw [Nat.zero_add, cell_of_row w g k cur _ (0, 0) hh]
      rw [← ht, List.getElem?_take] at hu
      split at hu
      · rw [← hu, Array.getElem?_toList]
      · cases hu
    obtain ⟨h1, h2, h3, h4⟩ := ents_at hx
    exact ⟨key _ _ h1, key _ _ h2, key _ _ h3, key _ _ h4⟩
/-- What the call itself has grown holds these entries. -/
def GrewE (w : World) (xs : List Ent) (v : Value) (w' : World) : Prop := w'.ownsRow w.heap.size 25 4 v xs.length (ents xs) ∧ Below w.heap.size w w'
theorem GrewE.nil (w : World) : GrewE w [] (.slice none 0 0) w := ⟨World.ownsRow_nil _ _ _ _, Below.refl _ _⟩
theorem GrewE.keep {w w1 w2 : World} {xs : List Ent} {v : Value} (g : GrewE w xs v w1) (h : Below w1.heap.size w1 w2) : GrewE w xs v w2 :=
  ⟨(Mod.of_below h []).own g.1 (by simp), below_on g.2 h⟩
theorem own_shapeE {w : World} {base : Nat} {e : TypeId} {s n : Nat} {v : Value} {xs : List Value} (h : w.ownsRow base e s v n xs) : ∃ A c, v = .slice A n c ∧ n ≤ c ∧ c ≤ 9223372036854775807 := by
  rcases h.2 with ⟨rfl, rfl⟩ | ⟨g, cap, cur, rfl, _, _, h1, h2, _⟩
  · exact ⟨none, 0, rfl, Nat.le_refl _, by omega⟩
  · exact ⟨_, cap, rfl, h1, by unfold maxLen at h2; omega⟩
/-- One entry put behind what the call itself has grown. -/
theorem app_ent {w w1 : World} {ops : Array Oper} {rest : List Oper} {o : Oper} {a : Act} {Q : Exit → Act → World → Prop} (hgd : o.guard = none) (s x : Operand)
    (ho : o.op = .call { callee := .builtin .append, args := #[s, x], argTypes := #[22, 22] })
    (v : Value) (pre : List Ent) (hG : GrewE w pre v w1) (hs : a.eval s = v) (k : Ent) (hx : a.eval x = .slice (some ⟨w1.heap.size, 0, none⟩) 1 1) (hl : (pre.length + 1) * 40 ≤ 140737488355328)
    (h : ∀ v' w2, GrewE w (pre ++ [k]) v' w2 → wpList Tryd.prog ops Q rest (a.put o.dst v') w2) : wpList Tryd.prog ops Q (o :: rest) a (w1.alloc (.cells (four k).toArray 25)) := by
  obtain ⟨i0, hi, hp⟩ := Option.map_eq_some_iff.1 info_ent
  injection hp with hz1 hz2
  obtain ⟨z, hz0⟩ : ∃ z, i0.zero = some z := by
    have : (Tryd.prog.info? 25).map (fun i => i.zero.isSome) = some true := by kernel_rfl
    rw [hi] at this
    simp only [Option.map_some, Option.some.injEq] at this
    exact Option.isSome_iff_exists.1 this
  have hzc : z.cells.size = 4 := by
    have : (Tryd.prog.info? 25).map (fun i => i.zero.map (fun z => z.cells.size)) = some (some 4) := by kernel_rfl
    rw [hi] at this
    simp only [Option.map_some, hz0, Option.some.injEq] at this
    exact this
  refine wpList_append_own_at _ hgd s x 22 ho w.heap.size 25 i0 z 4 40 Tryd.underlying22 hi hz0 hz1 hz2 hzc (by decide) v pre.length (ents pre) hs (hG.1.alloc _) ⟨w1.heap.size, 0, none⟩ 1 1 (four k) hx rfl
    (World.news_of_block (cs := (four k).toArray) (t := 25) (fr := (0, 0)) (heap_alloc_new w1 _)) (fun u hu => one_ent (l := [k]) u (by unfold ents; simpa using hu)) (by unfold maxLen; omega) (by omega) (by have := hG.2.size; rw [World.size_alloc]; omega) ?_
  intro v' w2 hown hgrow _ _
  refine h v' w2 ⟨?_, (hG.2.alloc hG.2.size _).grown hgrow ?_ (fun k hk => (hG.1.lt k hk).1)⟩
  · rw [List.length_append, ents_append, show ents [k] = four k by unfold ents; simp]
    exact hown
  · have := hG.2.size
    rw [World.size_alloc]
    omega
end Go.Proofs.YtpfljooceppcbaaDoor
