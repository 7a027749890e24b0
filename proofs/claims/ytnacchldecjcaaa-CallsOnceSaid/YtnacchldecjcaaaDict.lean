/- Maps in memory: what a look-up, a store of a new key, a deletion and a walk over the entries find and leave. -/
import Derived.Test.YtnacchldecjcaaaMem
import Derived.Maps.RangeWalk
import Derived.OwnWalk
namespace Go.Proofs.Ytnacchldecjcaaa
open Go.RowKit
open Go.MapKept Go.ChangeMaps
set_option linter.unusedVariables false
/-- An entry of a map's block as a pair. -/
def pairOf (e : MapEntry) : Value × Value := (e.key, e.val)
/-- Block b is a map of these entries, in the order in which they came; d is the keys' kind. -/
def MapAt (w : World) (b : Nat) (d : TypeDesc) (l : List (Value × Value)) : Prop :=
  ∃ es clock, w.heap[b]? = some (.map es clock) ∧ es.toList.map pairOf = l ∧ (∀ e ∈ es.toList, e.born < clock) ∧ (es.toList.map (·.born)).Nodup ∧ ∀ p ∈ l, IsKey d p.1
section
variable {P : Program} {w w' : World} {b : Nat} {d : TypeDesc} {l : List (Value × Value)} {t k e : TypeId}
theorem MapAt.lt (h : MapAt w b d l) : b < w.heap.size := by
  obtain ⟨es, clock, hb, _⟩ := h
  exact (Array.getElem?_eq_some_iff.1 hb).1
theorem MapAt.new (w : World) (d : TypeDesc) : MapAt (w.alloc (.map #[] 0)) w.heap.size d [] :=
  ⟨#[], 0, heap_alloc_new w _, rfl, by simp, by simp, by simp⟩
theorem MapAt.of_block (h : MapAt w b d l) (hb : w'.heap[b]? = w.heap[b]?) : MapAt w' b d l := by
  obtain ⟨es, clock, h1, r⟩ := h
  exact ⟨es, clock, hb.trans h1, r⟩
theorem MapAt.mod {G : List Nat} (h : MapAt w b d l) (hm : Mod G w w') (hn : b ∉ G) : MapAt w' b d l := h.of_block (hm.block b h.lt hn)
theorem MapAt.below (h : MapAt w b d l) (hb : Below w.heap.size w w') : MapAt w' b d l := h.of_block (hb.block b h.lt)
theorem keys_of {es : Array MapEntry} (he : es.toList.map pairOf = l) (hk : ∀ p ∈ l, IsKey d p.1) : ∀ x ∈ es.toList, IsKey d x.key := fun x hx => hk (pairOf x) (by rw [← he]; exact List.mem_map.2 ⟨x, hx, rfl⟩)
/-- A key that is not there. -/
theorem MapAt.look_no (h : MapAt w b d l) (ht : P.underlying t = some (.map k e)) (hk : P.underlying k = some d) {x : Value} (hx : IsKey d x) (hn : ∀ p ∈ l, p.1 ≠ x) {z : Value} (hz : (zeroValue e).run P w = .ok z w) (c : Bool) :
    (Instr.lookup t (.map (some b)) x c).run P w = .ok (if c then .tuple #[z, .bool false] else z) w := by
  obtain ⟨es, clock, hb, he, _, _, hks⟩ := h
  have hks' := keys_of he hks
  rcases findNow_spec hx es.toList 0 hks' with ⟨h1, _⟩ | ⟨j, e0, h1, h2, h3⟩
  · have hf := run_findKey (P := P) (w := w) hk h1
    have hc : (Instr.checkKey es.isEmpty 10000 k x).run P w = .ok () w := run_checkKey hk hx _ 9999
    simp [Instr.lookup, run_underlying ht, MapKept.run_getObj_map hb, hc, hf, hz, Result.andThen]
  · exact absurd h3 (hn (pairOf e0) (by rw [← he]; exact List.mem_map.2 ⟨e0, List.mem_of_getElem? h2, rfl⟩))
/-- A key that is there. -/
theorem MapAt.look_yes (h : MapAt w b d l) (ht : P.underlying t = some (.map k e)) (hk : P.underlying k = some d) (hnd : (l.map (·.1)).Nodup) {x v : Value} (hm : (x, v) ∈ l) (c : Bool) :
    (Instr.lookup t (.map (some b)) x c).run P w = .ok (if c then .tuple #[v, .bool true] else v) w := by
  obtain ⟨es, clock, hb, he, _, _, hks⟩ := h
  have hks' := keys_of he hks
  have hx : IsKey d x := hks (x, v) hm
  rcases findNow_spec hx es.toList 0 hks' with ⟨h1, h2⟩ | ⟨j, e0, h1, h2, h3⟩
  · rw [← he] at hm
    obtain ⟨e0, h3, h4⟩ := List.mem_map.1 hm
    exact absurd (congrArg Prod.fst h4) (h2 e0 h3)
  · have hv : e0.val = v := by
      have m1 : pairOf e0 ∈ l := by rw [← he]; exact List.mem_map.2 ⟨e0, List.mem_of_getElem? h2, rfl⟩
      have key : ∀ {l : List (Value × Value)}, (l.map (·.1)).Nodup → ∀ {p q}, p ∈ l → q ∈ l → p.1 = q.1 → p = q := by
        intro l
        induction l with
        | nil => intro _ p q hp; simp at hp
        | cons a r ih =>
          intro hn p q hp hq hpq
          rw [List.map_cons, List.nodup_cons] at hn
          rcases List.mem_cons.1 hp with hp1 | hp1
          · rcases List.mem_cons.1 hq with hq1 | hq1
            · rw [hp1, hq1]
            · exact (hn.1 (List.mem_map.2 ⟨q, hq1, by rw [← hpq, hp1]⟩)).elim
          · rcases List.mem_cons.1 hq with hq1 | hq1
            · exact (hn.1 (List.mem_map.2 ⟨p, hp1, by rw [hpq, hq1]⟩)).elim
            · exact ih hn.2 hp1 hq1 hpq
      exact congrArg Prod.snd (key hnd m1 hm h3)
    have hf := run_findKey (P := P) (w := w) hk h1
    have hc : (Instr.checkKey es.isEmpty 10000 k x).run P w = .ok () w := run_checkKey hk hx _ 9999
    simp [Instr.lookup, run_underlying ht, MapKept.run_getObj_map hb, hc, hf, hv, Result.andThen]
theorem look_nil (ht : P.underlying t = some (.map k e)) (hk : P.underlying k = some d) {x : Value} (hx : IsKey d x) {z : Value} (hz : (zeroValue e).run P w = .ok z w) (c : Bool) :
    (Instr.lookup t (.map none) x c).run P w = .ok (if c then .tuple #[z, .bool false] else z) w := by
  rcases findNow_spec hx [] 0 (by simp) with ⟨h1, _⟩ | ⟨j, e0, _, h2, _⟩
  · have hf := run_findKey (P := P) (w := w) hk h1
    have hc : (Instr.checkKey true 10000 k x).run P w = .ok () w := run_checkKey hk hx _ 9999
    simp [Instr.lookup, run_underlying ht, hc, hf, hz, Result.andThen]
  · simp at h2
/-- A new key is put behind the others. -/
theorem MapAt.store (h : MapAt w b d l) (ht : P.underlying t = some (.map k e)) (hk : P.underlying k = some d) {x : Value} (hx : IsKey d x) (hn : ∀ p ∈ l, p.1 ≠ x) (v : Value) :
    ∃ w', (Instr.mapUpdate t (.map (some b)) x v).run P w = .ok () w' ∧ MapAt w' b d (l ++ [(x, v)]) ∧ w.grownBy w' (some b) ∧ w'.heap.size = w.heap.size := by
  obtain ⟨es, clock, hb, he, hlt, hnd, hks⟩ := h
  have hks' := keys_of he hks
  rcases findNow_spec hx es.toList 0 hks' with ⟨h1, _⟩ | ⟨j, e0, h1, h2, h3⟩
  · have hf := run_findKey (P := P) (w := w) hk h1
    have hc : (Instr.checkKey false 10000 k x).run P w = .ok () w := run_checkKey hk hx _ 9999
    refine ⟨setBlock w b (.map (es.push { key := x, val := v, born := clock }) (clock + 1)), ?_, ⟨_, _, heap_setBlock_same hb _, ?_, ?_, ?_, ?_⟩, ⟨rfl, rfl, rfl, by simp [setBlock], fun i _ hi => heap_setBlock_other hb _ (fun e => hi (by rw [e]))⟩, by simp [setBlock]⟩
    · simp [Instr.mapUpdate, run_underlying ht, MapKept.run_getObj_map hb, hc, hf, MapKept.run_setObj_map _ hb, Result.andThen, setBlock]
    · rw [Array.toList_push, List.map_append, he]; rfl
    · intro e0 h0
      rw [Array.toList_push, List.mem_append] at h0
      rcases h0 with h0 | h0
      · have := hlt e0 h0; omega
      · simp only [List.mem_singleton] at h0; subst h0; show clock < clock + 1; omega
    · rw [Array.toList_push, List.map_append, List.nodup_append]
      refine ⟨hnd, by simp, fun a ha c hc e => ?_⟩
      obtain ⟨e0, h0, rfl⟩ := List.mem_map.1 ha
      simp only [List.map_cons, List.map_nil, List.mem_singleton] at hc
      have := hlt e0 h0
      omega
    · intro p hp
      rcases List.mem_append.1 hp with hp | hp
      · exact hks p hp
      · simp only [List.mem_singleton] at hp; subst hp; exact hx
  · exact absurd h3 (hn (pairOf e0) (by rw [← he]; exact List.mem_map.2 ⟨e0, List.mem_of_getElem? h2, rfl⟩))
theorem MapAt.drop (h : MapAt w b d l) (ht : P.underlying t = some (.map k e)) (hk : P.underlying k = some d) {x : Value} (hnd : (l.map (·.1)).Nodup) {v : Value} (hm : (x, v) ∈ l) (ty : TypeId) :
    ∃ w' l1 l2, (Builtin.delete_ #[t, k] ty #[.map (some b), x]).run P w = .ok (.tuple #[]) w' ∧ l = l1 ++ (x, v) :: l2 ∧ MapAt w' b d (l1 ++ l2) ∧ w.grownBy w' (some b) ∧ w'.heap.size = w.heap.size := by
  obtain ⟨es, clock, hb, he, hlt, hno, hks⟩ := h
  have hks' := keys_of he hks
  have hx : IsKey d x := hks (x, v) hm
  rcases findNow_spec hx es.toList 0 hks' with ⟨h1, h2⟩ | ⟨j, e0, h1, h2, h3⟩
  · rw [← he] at hm
    obtain ⟨e0, h3, h4⟩ := List.mem_map.1 hm
    exact absurd (congrArg Prod.fst h4) (h2 e0 h3)
  · have hf := run_findKey (P := P) (w := w) hk h1
    have hc : (Instr.checkKey es.isEmpty 10000 k x).run P w = .ok () w := run_checkKey hk hx _ 9999
    have hjl : j < es.toList.length := (List.getElem?_eq_some_iff.1 h2).1
    have hjs : j < es.size := by simpa using hjl
    have hsub : (es.eraseIdxIfInBounds j).toList = es.toList.eraseIdx j := by
      unfold Array.eraseIdxIfInBounds
      rw [dif_pos hjs]
      simp
    have hjl2 : j < l.length := by rw [← he, List.length_map]; exact hjl
    have hlj : l[j] = (x, v) := by
      have hp : l[j]? = some (pairOf e0) := by rw [← he, List.getElem?_map, h2]; rfl
      have hp2 : l[j] = pairOf e0 := by rw [List.getElem?_eq_getElem hjl2] at hp; exact Option.some.inj hp
      obtain ⟨i, hi, e2⟩ := List.getElem_of_mem hm
      have hij : i = j := by
        have a1 : (l.map (·.1))[i]'(by simpa using hi) = x := by rw [List.getElem_map, e2]
        have a2 : (l.map (·.1))[j]'(by simpa using hjl2) = x := by rw [List.getElem_map, hp2]; exact h3
        exact (List.getElem_inj hnd).1 (a1.trans a2.symm)
      subst hij
      exact e2
    refine ⟨setBlock w b (.map (es.eraseIdxIfInBounds j) clock), l.take j, l.drop (j + 1), ?_, ?_, ⟨_, _, heap_setBlock_same hb _, ?_, ?_, ?_, ?_⟩, ⟨rfl, rfl, rfl, by simp [setBlock], fun i _ hi => heap_setBlock_other hb _ (fun e => hi (by rw [e]))⟩, by simp [setBlock]⟩
    · simp [Builtin.delete_, run_underlying ht, MapKept.run_getObj_map hb, hc, hf, MapKept.run_setObj_map _ hb, Result.andThen, setBlock]
    · rw [← hlj, ← List.drop_eq_getElem_cons hjl2, List.take_append_drop]
    · rw [hsub, map_eraseIdx, he, List.eraseIdx_eq_take_drop_succ]
    · intro e1 h0
      rw [hsub] at h0
      exact hlt e1 ((List.eraseIdx_sublist _ _).subset h0)
    · rw [hsub]
      exact hno.sublist ((List.eraseIdx_sublist _ _).map _)
    · intro p hp
      refine hks p ?_
      rcases List.mem_append.1 hp with hp | hp
      · exact List.take_subset _ _ hp
      · exact List.drop_subset _ _ hp
theorem MapAt.len (h : MapAt w b d l) (ht : P.underlying t = some (.map k e)) (ty : TypeId) : (Builtin.len_ #[t] ty #[.map (some b)]).run P w = .ok (.int .i64 (l.length : Int)) w := by
  obtain ⟨es, clock, hb, he, _⟩ := h
  have e1 : l.length = es.size := by rw [← he]; simp
  rw [e1]
  simp [Builtin.len_, run_underlying ht, MapKept.run_getObj_map hb, goInt, Result.andThen]

/-! ### A walk over the entries -/
/-- Block r is a walk over the map in block b, of which these pairs have come. -/
def Strolls (w : World) (b r : Nat) (d : TypeDesc) (l done : List (Value × Value)) : Prop :=
  ∃ es clock since c0 seen, w.heap[b]? = some (.map es clock) ∧ es.toList.map pairOf = l ∧ (∀ e ∈ es.toList, e.born < clock) ∧ (es.toList.map (·.born)).Nodup ∧ (∀ p ∈ l, IsKey d p.1) ∧
    w.heap[r]? = some (.mapIter (some b) since seen c0) ∧ (∀ x ∈ es.toList, x.born < since) ∧ since ≤ c0 ∧ since ≤ clock ∧
    ∃ de : List MapEntry, (∀ e ∈ de, e ∈ es.toList) ∧ (de.map (·.born)).Nodup ∧ de.map pairOf = done ∧ ∀ x ∈ es.toList, seen.contains x.born = true ↔ x ∈ de
theorem Strolls.map {r : Nat} {done : List (Value × Value)} (h : Strolls w b r d l done) : MapAt w b d l := by
  obtain ⟨es, clock, since, c0, seen, h1, h2, h3, h4, h5, _⟩ := h
  exact ⟨es, clock, h1, h2, h3, h4, h5⟩
theorem Strolls.lt {r : Nat} {done : List (Value × Value)} (h : Strolls w b r d l done) : r < w.heap.size := by
  obtain ⟨es, clock, since, c0, seen, _, _, _, _, _, hr, _⟩ := h
  exact (Array.getElem?_eq_some_iff.1 hr).1
theorem Strolls.ne {r : Nat} {done : List (Value × Value)} (h : Strolls w b r d l done) : r ≠ b := by
  obtain ⟨es, clock, since, c0, seen, hb, _, _, _, _, hr, _⟩ := h
  intro e
  rw [e, hb] at hr
  cases hr
theorem Strolls.keep {r : Nat} {done : List (Value × Value)} (h : Strolls w b r d l done) (hb : w'.heap[b]? = w.heap[b]?) (hr : w'.heap[r]? = w.heap[r]?) : Strolls w' b r d l done := by
  obtain ⟨es, clock, since, c0, seen, h1, h2, h3, h4, h5, h6, h7⟩ := h
  exact ⟨es, clock, since, c0, seen, hb.trans h1, h2, h3, h4, h5, hr.trans h6, h7⟩
theorem Strolls.below {r : Nat} {done : List (Value × Value)} (h : Strolls w b r d l done) (hb : Below w.heap.size w w') : Strolls w' b r d l done := h.keep (hb.block b h.map.lt) (hb.block r h.lt)
theorem Strolls.mem {r : Nat} {done : List (Value × Value)} (h : Strolls w b r d l done) : ∀ p ∈ done, p ∈ l := by
  obtain ⟨es, clock, since, c0, seen, _, h2, _, _, _, _, _, _, _, de, k1, _, k3, _⟩ := h
  intro p hp
  rw [← k3] at hp
  obtain ⟨e0, h0, rfl⟩ := List.mem_map.1 hp
  rw [← h2]
  exact List.mem_map.2 ⟨e0, k1 e0 h0, rfl⟩
theorem nodup_of_map {α β : Type} {f : α → β} : ∀ {l : List α}, (l.map f).Nodup → l.Nodup
  | [], _ => List.nodup_nil
  | a :: r, h => by
    rw [List.map_cons, List.nodup_cons] at h
    exact List.nodup_cons.2 ⟨fun hm => h.1 (List.mem_map.2 ⟨a, hm, rfl⟩), nodup_of_map h.2⟩
theorem rest_of {α : Type} {a l : List α} (ha : a.Nodup) (hl : l.Nodup) (hs : ∀ x ∈ a, x ∈ l) : ∃ r, (a ++ r).Perm l := by
  classical
  refine ⟨l.filter (fun x => decide (x ∉ a)), (List.perm_ext_iff_of_nodup ?_ hl).2 fun x => ?_⟩
  · rw [List.nodup_append]
    refine ⟨ha, hl.sublist List.filter_sublist, fun x hx y hy e => ?_⟩
    have := (List.mem_filter.1 hy).2
    rw [← e] at this
    simp [hx] at this
  · rw [List.mem_append, List.mem_filter]
    constructor
    · rintro (h | h)
      · exact hs x h
      · exact h.1
    · intro h
      by_cases hx : x ∈ a
      · exact .inl hx
      · exact .inr ⟨h, by simp [hx]⟩
/-- What is still to come. -/
theorem Strolls.rest {r : Nat} {done : List (Value × Value)} (h : Strolls w b r d l done) : ∃ rest, (done ++ rest).Perm l := by
  obtain ⟨es, clock, since, c0, seen, _, h2, _, h4, _, _, _, _, _, de, k1, k2, k3, _⟩ := h
  obtain ⟨rs, hp⟩ := rest_of (nodup_of_map k2) (nodup_of_map h4) k1
  refine ⟨rs.map pairOf, ?_⟩
  rw [← k3, ← h2, ← List.map_append]
  exact hp.map _
theorem MapAt.range (h : MapAt w b d l) (ht : P.underlying t = some (.map k e)) :
    ∃ w', (Instr.range t (.map (some b))).run P w = .ok (.pointer (some ⟨w.heap.size, 0, none⟩)) w' ∧ Strolls w' b w.heap.size d l [] ∧ Below w.heap.size w w' ∧ w'.heap.size = w.heap.size + 1 := by
  have hlt := h.lt
  obtain ⟨es, clock, hb, he, h1, h2, h3⟩ := h
  refine ⟨_, run_range_map w t k e b es clock ht hb, ⟨es, clock, clock, clock, #[], ((MapKept.heap_alloc w _).2 b hlt).trans hb, he, h1, h2, h3, (MapKept.heap_alloc w _).1, h1, Nat.le_refl _, Nat.le_refl _, [], by simp, by simp, rfl, by simp⟩, (Below.refl _ w).alloc (Nat.le_refl _) _, by simp⟩
theorem Strolls.next {r : Nat} {done : List (Value × Value)} (h : Strolls w b r d l done) (ty : TypeId) :
    (done.Perm l ∧ (Instr.next (.pointer (some ⟨r, 0, none⟩)) false ty).run P w = .ok (.tuple #[.bool false]) w) ∨
    ∃ x v w', (x, v) ∈ l ∧ (Instr.next (.pointer (some ⟨r, 0, none⟩)) false ty).run P w = .ok (.tuple #[.bool true, x, v]) w' ∧ Strolls w' b r d l (done ++ [(x, v)]) ∧
      w'.rangeLeft b r < w.rangeLeft b r ∧ w.grownBy w' (some r) ∧ w'.heap.size = w.heap.size ∧ (Instr.entry (.pointer (some ⟨r, 0, none⟩))).run P w' = .ok (.tuple #[x, v]) w' := by
  have hne := h.ne
  obtain ⟨es, clock, since, c0, seen, hb, he, h1, h2, h3, hr, hold, hsc, hsk, de, k1, k2, k3, k4⟩ := h
  rcases run_next_at (P := P) w ty r b since c0 seen es clock hr hb hold hsc with ⟨h0, hrun⟩ | ⟨e0, he0, w1, hal, hrun⟩
  · left
    refine ⟨?_, hrun⟩
    have hall := all_seen es seen h0
    have hp : de.Perm es.toList := (List.perm_ext_iff_of_nodup (nodup_of_map k2) (nodup_of_map h2)).2 fun x => ⟨k1 x, fun hx => (k4 x hx).1 (hall x hx)⟩
    rw [← k3, ← he]
    exact hp.map _
  · right
    obtain ⟨hem, hes⟩ := mem_left he0
    have hr1 : w1.heap[r]? = some (.mapIter (some b) since seen c0) := by rcases hal with rfl | rfl <;> exact hr
    have hb1 : w1.heap[b]? = some (.map es clock) := by rcases hal with rfl | rfl <;> exact hb
    have hset := heap_set (o' := .mapIter (some b) since (seen.push e0.born) clock) hr1
    have hb' : (setBlock w1 r (.mapIter (some b) since (seen.push e0.born) clock)).heap[b]? = some (.map es clock) := (hset.2 b (fun e1 => hne e1.symm)).trans hb1
    have hr' : (setBlock w1 r (.mapIter (some b) since (seen.push e0.born) clock)).heap[r]? = some (.mapIter (some b) since (seen.push e0.born) clock) := hset.1
    have hnd : e0 ∉ de := fun hm => by
      have := (k4 e0 hem).2 hm
      rw [hes] at this
      cases this
    refine ⟨e0.key, e0.val, _, by rw [← he]; exact List.mem_map.2 ⟨e0, hem, rfl⟩, hrun, ⟨es, clock, since, clock, seen.push e0.born, hb', he, h1, h2, h3, hset.1, hold, hsk, hsk, de ++ [e0], ?_, ?_, ?_, ?_⟩, ?_, ?_, ?_, run_entry_at _ r b since seen es clock e0 hset.1 hb' hem h2⟩
    · intro x hx
      rcases List.mem_append.1 hx with hx | hx
      · exact k1 x hx
      · simp only [List.mem_singleton] at hx; subst hx; exact hem
    · rw [List.map_append, List.nodup_append]
      refine ⟨k2, by simp, fun a ha c hc e1 => ?_⟩
      obtain ⟨x, hx, rfl⟩ := List.mem_map.1 ha
      simp only [List.map_cons, List.map_nil, List.mem_singleton] at hc
      have : x = e0 := born_inj h2 (k1 x hx) hem (e1.trans hc)
      exact hnd (this ▸ hx)
    · rw [List.map_append, k3]; rfl
    · intro x hx
      rw [contains_push, Bool.or_eq_true, k4 x hx, List.mem_append, List.mem_singleton]
      constructor
      · rintro (h | h)
        · exact .inl h
        · exact .inr (born_inj h2 hx hem (by simpa using h))
      · rintro (h | h)
        · exact .inl h
        · exact .inr (by rw [h]; simp)
    · simp only [World.rangeLeft, hb, hr, hb', hr']
      exact left_shrinks es seen e0 he0
    · rcases hal with rfl | rfl <;> exact ⟨rfl, rfl, rfl, by simp [setBlock], fun i _ hi => hset.2 i (fun e1 => hi (by rw [e1]))⟩
    · rcases hal with rfl | rfl <;> simp [setBlock]
end

/-! ### A map that may be nil -/
def MapO (w : World) (m : Option Nat) (d : TypeDesc) (l : List (Value × Value)) : Prop := match m with
  | none => l = []
  | some b => MapAt w b d l
def StrollsO (w : World) (m : Option Nat) (r : Nat) (d : TypeDesc) (l done : List (Value × Value)) : Prop := match m with
  | none => l = [] ∧ done = [] ∧ ∃ s seen c, w.heap[r]? = some (.mapIter none s seen c)
  | some b => Strolls w b r d l done
def leftO (w : World) (m : Option Nat) (r : Nat) : Nat := match m with
  | none => 0
  | some b => w.rangeLeft b r
section
variable {P : Program} {w w' : World} {m : Option Nat} {d : TypeDesc} {l done : List (Value × Value)} {t k e : TypeId} {r : Nat}
theorem MapO.below (h : MapO w m d l) (hb : Below w.heap.size w w') : MapO w' m d l := by
  cases m with
  | none => exact h
  | some b => exact MapAt.below h hb
theorem MapO.range (h : MapO w m d l) (ht : P.underlying t = some (.map k e)) :
    ∃ w', (Instr.range t (.map m)).run P w = .ok (.pointer (some ⟨w.heap.size, 0, none⟩)) w' ∧ StrollsO w' m w.heap.size d l [] ∧ Below w.heap.size w w' ∧ w'.heap.size = w.heap.size + 1 := by
  cases m with
  | some b => exact MapAt.range h ht
  | none =>
    refine ⟨w.alloc (.mapIter none 0 #[] 0), ?_, ⟨h, rfl, 0, #[], 0, heap_alloc_new w _⟩, (Below.refl _ w).alloc (Nat.le_refl _) _, by simp⟩
    simp [Instr.range, run_underlying ht, Result.andThen]
theorem StrollsO.lt (h : StrollsO w m r d l done) : r < w.heap.size := by
  cases m with
  | some b => exact Strolls.lt h
  | none =>
    obtain ⟨_, _, s, seen, c, hr⟩ := h
    exact (Array.getElem?_eq_some_iff.1 hr).1
theorem StrollsO.keep (h : StrollsO w m r d l done) (hb : ∀ b, m = some b → w'.heap[b]? = w.heap[b]?) (hr : w'.heap[r]? = w.heap[r]?) : StrollsO w' m r d l done := by
  cases m with
  | some b => exact Strolls.keep h (hb b rfl) hr
  | none =>
    obtain ⟨h1, h2, s, seen, c, h3⟩ := h
    exact ⟨h1, h2, s, seen, c, hr.trans h3⟩
theorem StrollsO.next (h : StrollsO w m r d l done) (ty : TypeId) :
    (done.Perm l ∧ (Instr.next (.pointer (some ⟨r, 0, none⟩)) false ty).run P w = .ok (.tuple #[.bool false]) w) ∨
    ∃ x v w', (x, v) ∈ l ∧ (Instr.next (.pointer (some ⟨r, 0, none⟩)) false ty).run P w = .ok (.tuple #[.bool true, x, v]) w' ∧ StrollsO w' m r d l (done ++ [(x, v)]) ∧
      leftO w' m r < leftO w m r ∧ w.grownBy w' (some r) ∧ w'.heap.size = w.heap.size ∧ (Instr.entry (.pointer (some ⟨r, 0, none⟩))).run P w' = .ok (.tuple #[x, v]) w' := by
  cases m with
  | some b => exact Strolls.next h ty
  | none =>
    obtain ⟨h1, h2, s, seen, c, hr⟩ := h
    left
    rw [h1, h2]
    exact ⟨List.Perm.refl _, by simp [Instr.next, getObj, Sem.run, hr, Result.andThen]⟩
theorem StrollsO.rest (h : StrollsO w m r d l done) : ∃ rest, (done ++ rest).Perm l := by
  cases m with
  | some b => exact Strolls.rest h
  | none =>
    obtain ⟨h1, h2, _⟩ := h
    exact ⟨[], by rw [h1, h2]; simp⟩
theorem StrollsO.iter (h : StrollsO w m r d l done) : ∃ mb s seen c, w.heap[r]? = some (.mapIter mb s seen c) := by
  cases m with
  | some b =>
    obtain ⟨es, clock, since, c0, seen, _, _, _, _, _, hr, _⟩ := h
    exact ⟨_, _, _, _, hr⟩
  | none =>
    obtain ⟨_, _, s, seen, c, hr⟩ := h
    exact ⟨_, _, _, _, hr⟩
theorem leftO_keep (hb : ∀ b, m = some b → w'.heap[b]? = w.heap[b]?) (hr : w'.heap[r]? = w.heap[r]?) : leftO w' m r = leftO w m r := by
  cases m with
  | none => rfl
  | some b => simp only [leftO, World.rangeLeft, hb b rfl, hr]
end

/-! ### At the operations -/
section
variable {P : Program} {w : World} {ops : Array Oper} {rest : List Oper} {o : Oper} {a : Act} {Q : Exit → Act → World → Prop}
theorem wp_look (hg : o.guard = none) (m x : Operand) (t : TypeId) (c : Bool) (hop : o.op = Op.lookup t m x c) (mv key v : Value) (hm : a.eval m = mv) (hx : a.eval x = key) (hrun : (Instr.lookup t mv key c).run P w = .ok v w)
    (hK : wpList P ops Q rest (a.put o.dst v) w) : wpList P ops Q (o :: rest) a w := by
  refine wpList_plain hg fun K' hK' => ?_
  unfold Oper.wp
  simp [execOp, hop, hm, hx, hrun, Result.andThen]
  exact hK' _ _ hK
theorem wp_store (hg : o.guard = none) (m x v : Operand) (t : TypeId) (hop : o.op = Op.mapUpdate t m x v) (mv key val : Value) (hm : a.eval m = mv) (hx : a.eval x = key) (hv : a.eval v = val) {w' : World} (hrun : (Instr.mapUpdate t mv key val).run P w = .ok () w')
    (hK : wpList P ops Q rest (a.put o.dst undef) w') : wpList P ops Q (o :: rest) a w := by
  refine wpList_plain hg fun K' hK' => ?_
  unfold Oper.wp
  simp [execOp, hop, hm, hx, hv, hrun, Result.andThen]
  exact hK' _ _ hK
theorem wp_drop (hg : o.guard = none) (m x : Operand) (t k : TypeId) (hop : o.op = Op.call { callee := Callee.builtin Builtin.delete, args := #[m, x], argTypes := #[t, k] }) (mv key : Value) (hm : a.eval m = mv) (hx : a.eval x = key) {w' : World} (hrun : (Builtin.delete_ #[t, k] o.type #[mv, key]).run P w = .ok (.tuple #[]) w')
    (hK : wpList P ops Q rest (a.put o.dst (.tuple #[])) w') : wpList P ops Q (o :: rest) a w := by
  refine wpList_plain hg fun K' hK' => ?_
  unfold Oper.wp
  simp [execOp, hop, resolve, invoke, builtin, hm, hx, hrun, Result.andThen]
  exact hK' _ _ hK
theorem wp_range (hg : o.guard = none) (m : Operand) (t : TypeId) (hop : o.op = Op.range t m) (mv v : Value) (hm : a.eval m = mv) {w' : World} (hrun : (Instr.range t mv).run P w = .ok v w')
    (hK : wpList P ops Q rest (a.put o.dst v) w') : wpList P ops Q (o :: rest) a w := by
  refine wpList_plain hg fun K' hK' => ?_
  unfold Oper.wp
  simp [execOp, hop, hm, hrun, Result.andThen]
  exact hK' _ _ hK
theorem wp_next (hg : o.guard = none) (it : Operand) (hop : o.op = Op.next it false) (mv v : Value) (hm : a.eval it = mv) {w' : World} (hrun : (Instr.next mv false o.type).run P w = .ok v w')
    (hK : wpList P ops Q rest (a.put o.dst v) w') : wpList P ops Q (o :: rest) a w := by
  refine wpList_plain hg fun K' hK' => ?_
  unfold Oper.wp
  simp [execOp, hop, hm, hrun, Result.andThen]
  exact hK' _ _ hK
end
end Go.Proofs.Ytnacchldecjcaaa
