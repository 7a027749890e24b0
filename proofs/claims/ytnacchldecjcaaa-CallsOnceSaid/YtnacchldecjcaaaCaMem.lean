/- Open calls in memory: their cells, the map that holds them by their numbers; New, Boot, Get. -/
import Derived.Test.YtnacchldecjcaaaCaMath
import Derived.Test.YtnacchldecjcaaaDict
import Derived.Test.YtnacchldecjcaaaWireF
import Derived.Laws.ResultCell
namespace Go.Proofs.Ytnacchldecjcaaa
open Go.RowKit
open Go.MapKept Go.ChangeMaps
open CA (Cl St)
set_option linter.unusedVariables false
set_option linter.unusedSimpArgs false
set_option maxRecDepth 100000
def c10 (x : Cl) : List Value := [.int .i64 x.seq, .int .i64 x.dst, .int .i64 x.verb, .string x.path, .int .i64 x.mode, .int .i64 x.term, .int .i64 x.id, .bool x.fresh, .int .i64 x.sent, .int .i64 x.tries]
def ten (x : Cl) : Array Value := #[.int .i64 x.seq, .int .i64 x.dst, .int .i64 x.verb, .string x.path, .int .i64 x.mode, .int .i64 x.term, .int .i64 x.id, .bool x.fresh, .int .i64 x.sent, .int .i64 x.tries]
def aggC (x : Cl) : Value := .agg (ten x)
/-- All its numbers are of 64 bits. -/
structure ClW (x : Cl) : Prop where
  seq : In64 x.seq
  dst : In64 x.dst
  verb : In64 x.verb
  mode : In64 x.mode
  term : In64 x.term
  id : In64 x.id
  sent : In64 x.sent
  tries : In64 x.tries
  path : x.path.size ≤ 140737488351232
theorem clw_zero : ClW CA.zero := by constructor <;> first | (unfold In64 CA.zero; decide) | (unfold CA.zero; decide)
abbrev ClBlk (w : World) (b : Nat) (x : Cl) : Prop := Whole w b 32 (ten x)
theorem cl_cells {w : World} {b : Nat} {x : Cl} (h : ClBlk w b x) :
    w.cell? ⟨b, 0, none⟩ = some (.int .i64 x.seq) ∧ w.cell? ⟨b, 1, none⟩ = some (.int .i64 x.dst) ∧ w.cell? ⟨b, 2, none⟩ = some (.int .i64 x.verb) ∧ w.cell? ⟨b, 3, none⟩ = some (.string x.path) ∧ w.cell? ⟨b, 4, none⟩ = some (.int .i64 x.mode) ∧
    w.cell? ⟨b, 5, none⟩ = some (.int .i64 x.term) ∧ w.cell? ⟨b, 6, none⟩ = some (.int .i64 x.id) ∧ w.cell? ⟨b, 7, none⟩ = some (.bool x.fresh) ∧ w.cell? ⟨b, 8, none⟩ = some (.int .i64 x.sent) ∧ w.cell? ⟨b, 9, none⟩ = some (.int .i64 x.tries) :=
  ⟨h.cell 0, h.cell 1, h.cell 2, h.cell 3, h.cell 4, h.cell 5, h.cell 6, h.cell 7, h.cell 8, h.cell 9⟩
def pairsC (l : List Cl) : List (Value × Value) := l.map fun x => (.int .i64 x.seq, aggC x)
theorem pairsC_len (l : List Cl) : (pairsC l).length = l.length := by unfold pairsC; rw [List.length_map]
theorem pairsC_append (a b : List Cl) : pairsC (a ++ b) = pairsC a ++ pairsC b := by unfold pairsC; rw [List.map_append]
theorem pairsC_keys {l : List Cl} (h : (l.map (·.seq)).Nodup) : ((pairsC l).map (·.1)).Nodup := by
  unfold pairsC
  rw [List.map_map]
  rw [List.nodup_iff_pairwise_ne, List.pairwise_map] at h ⊢
  exact h.imp fun hab e => hab (by injection e)
theorem pairsC_mem {l : List Cl} {x : Cl} (h : x ∈ l) : (Value.int .i64 x.seq, aggC x) ∈ pairsC l := List.mem_map.2 ⟨x, h, rfl⟩
theorem pairsC_no {l : List Cl} {q : Int} (h : ∀ x ∈ l, x.seq ≠ q) : ∀ p ∈ pairsC l, p.1 ≠ .int .i64 q := by
  intro p hp e
  obtain ⟨x, hx, rfl⟩ := List.mem_map.1 hp
  injection e with _ e
  exact h x hx e
theorem key_int (x : Int) : IsKey (.int .i64) (.int .i64 x) := by simp [IsKey]
/-! ### A key that is there gets another value -/
theorem MapAt.over {P : Program} {w : World} {b : Nat} {d : TypeDesc} {l : List (Value × Value)} {t k e : TypeId} (h : MapAt w b d l) (ht : P.underlying t = some (.map k e)) (hk : P.underlying k = some d) {x : Value} (hnd : (l.map (·.1)).Nodup) {v0 : Value} {i : Nat} (hi : l[i]? = some (x, v0)) (v : Value) :
    ∃ w', (Instr.mapUpdate t (.map (some b)) x v).run P w = .ok () w' ∧ MapAt w' b d (l.set i (x, v)) ∧ w.grownBy w' (some b) ∧ w'.heap.size = w.heap.size := by
  obtain ⟨es, clock, hb, he, hlt, hno, hks⟩ := h
  have hks' := keys_of he hks
  have hmem : (x, v0) ∈ l := List.mem_of_getElem? hi
  have hx : IsKey d x := hks (x, v0) hmem
  rcases findNow_spec hx es.toList 0 hks' with ⟨h1, h2⟩ | ⟨j, e0, h1, h2, h3⟩
  · rw [← he] at hmem
    obtain ⟨e0, h3, h4⟩ := List.mem_map.1 hmem
    exact absurd (congrArg Prod.fst h4) (h2 e0 h3)
  · have hj : es[j]? = some e0 := by simpa using h2
    have hf := run_findKey (P := P) (w := w) hk h1
    have hc : (Instr.checkKey false 10000 k x).run P w = .ok () w := run_checkKey hk hx _ 9999
    have hjl : j < es.toList.length := (List.getElem?_eq_some_iff.1 h2).1
    have hij : i = j := by
      have hil : i < l.length := (List.getElem?_eq_some_iff.1 hi).1
      have hjl2 : j < l.length := by rw [← he, List.length_map]; exact hjl
      have a1 : (l.map (·.1))[i]'(by simpa using hil) = x := by
        rw [List.getElem_map, (List.getElem?_eq_some_iff.1 hi).2]
      have a2 : (l.map (·.1))[j]'(by simpa using hjl2) = x := by
        have hp : l[j]? = some (pairOf e0) := by rw [← he, List.getElem?_map, h2]; rfl
        rw [List.getElem_map, (List.getElem?_eq_some_iff.1 hp).2]
        exact h3
      exact (List.getElem_inj hnd).1 (a1.trans a2.symm)
    subst hij
    have hjs : i < es.size := by simpa using hjl
    have hl : (es.modify i (fun e' => { e' with key := x, val := v })).toList = es.toList.set i { e0 with key := x, val := v } := by
      rw [Array.toList_modify]
      apply List.ext_getElem?
      intro m
      rw [List.getElem?_modify, List.getElem?_set]
      by_cases hm : i = m
      · subst hm
        rw [h2]
        simp [hjs]
      · simp [hm]
    refine ⟨setBlock w b (.map (es.modify i (fun e' => { e' with key := x, val := v })) clock), ?_, ⟨_, _, heap_setBlock_same hb _, ?_, ?_, ?_, ?_⟩, ⟨rfl, rfl, rfl, by simp [setBlock], fun i _ hi => heap_setBlock_other hb _ (fun e => hi (by rw [e]))⟩, by simp [setBlock]⟩
    · simp [Instr.mapUpdate, run_underlying ht, MapKept.run_getObj_map hb, hc, hf, hj, h3, run_keyThatStays hx, MapKept.run_setObj_map _ hb, Result.andThen, setBlock]
    · rw [hl, List.map_set, he]; rfl
    · intro e1 h0
      rw [hl] at h0
      rcases List.mem_or_eq_of_mem_set h0 with h0 | h0
      · exact hlt e1 h0
      · subst h0; exact hlt e0 (List.mem_of_getElem? h2)
    · rw [hl, List.map_set]
      have : (es.toList.map (·.born)).set i e0.born = es.toList.map (·.born) := by
        apply List.ext_getElem?
        intro m
        rw [List.getElem?_set]
        by_cases hm : i = m
        · subst hm
          rw [List.getElem?_map, h2]
          simp [hjs]
        · simp [hm]
      show ((es.toList.map (·.born)).set i e0.born).Nodup
      rw [this]
      exact hno
    · intro p hp
      rcases List.mem_or_eq_of_mem_set hp with hp | hp
      · exact hks p hp
      · subst hp; exact hx
/-! ### Calls in memory -/
structure CallsAt (w : World) (g M : Nat) (s : St) : Prop where
  cells : Whole w g 54 #[.int .i64 s.boot, .int .i64 s.next, .map (some M)]
  map : MapAt w M (.int .i64) (pairsC s.on)
  inv : CA.Inv s
  wide : ∀ x ∈ s.on, ClW x
section
variable {w w' : World} {g M : Nat} {s : St} {F : List Nat}
theorem CallsAt.lt (h : CallsAt w g M s) : g < w.heap.size := h.cells.lt
theorem CallsAt.ltM (h : CallsAt w g M s) : M < w.heap.size := h.map.lt
theorem CallsAt.ne (h : CallsAt w g M s) : g ≠ M := by
  intro e
  subst e
  obtain ⟨es, c, hb, _⟩ := h.map
  have := h.cells
  unfold Whole at this
  rw [hb] at this
  cases this
theorem CallsAt.mod (h : CallsAt w g M s) (hm : Mod F w w') (hg : g ∉ F) (hM : M ∉ F) : CallsAt w' g M s := ⟨hm.whole h.cells hg, h.map.mod hm hM, h.inv, h.wide⟩
theorem CallsAt.below (h : CallsAt w g M s) (hb : Below w.heap.size w w') : CallsAt w' g M s := h.mod (F := []) (Mod.of_below hb []) (by simp) (by simp)
theorem CallsAt.c0 (h : CallsAt w g M s) : w.cell? ⟨g, 0, none⟩ = some (.int .i64 s.boot) := h.cells.cell 0
theorem CallsAt.c1 (h : CallsAt w g M s) : w.cell? ⟨g, 1, none⟩ = some (.int .i64 s.next) := h.cells.cell 1
theorem CallsAt.c2 (h : CallsAt w g M s) : w.cell? ⟨g, 2, none⟩ = some (.map (some M)) := h.cells.cell 2
theorem CallsAt.find (h : CallsAt w g M s) (q : Int) : (Instr.lookup 52 (.map (some M)) (.int .i64 q) true).run Try.prog w = .ok (.tuple #[aggC (CA.get s q), .bool (CA.has s q)]) w := by
  cases hh : CA.has s q with
  | true =>
    obtain ⟨hx, e⟩ := CA.get_mem hh
    have := h.map.look_yes (P := Try.prog) Try.underlying52 Try.underlying3 (pairsC_keys h.inv.ids) (pairsC_mem hx) true
    rw [e] at this
    exact this
  | false =>
    rw [CA.get_no hh]
    exact h.map.look_no (P := Try.prog) Try.underlying52 Try.underlying3 (key_int q) (pairsC_no (CA.has_no hh)) (z := aggC CA.zero) (Try.zeroValue32 w) true
theorem CallsAt.get_wide (h : CallsAt w g M s) (q : Int) : ClW (CA.get s q) := by
  cases hh : CA.has s q with
  | true => exact h.wide _ (CA.get_mem hh).1
  | false => rw [CA.get_no hh]; exact clw_zero
end
set_option maxHeartbeats 1000000 in
theorem New_no (b : Int) (w : World) (h : ¬ (1 ≤ b ∧ b ≤ 1099511627776)) : Calls Try.prog 6 #[.int .i64 b] w fun e w' => e = .returned (.tuple #[.pointer none, .int .i64 2]) ∧ w' = w := by
  by_cases h1 : b < 1
  · go_enter Try.func6, Try.ntmps6
    go_wp2_with fail
    go_ret2
    exact ⟨rfl, rfl⟩
  · have h2 : 1099511627776 < b := by omega
    go_enter Try.func6, Try.ntmps6
    go_wp2_with fail
    go_ret2
    exact ⟨rfl, rfl⟩
set_option maxHeartbeats 1000000 in
theorem New_yes (b : Int) (w : World) (h : 1 ≤ b ∧ b ≤ 1099511627776) : Calls Try.prog 6 #[.int .i64 b] w fun e w' => e = .returned (.tuple #[.pointer (some ⟨w.heap.size + 1, 0, none⟩), .int .i64 0]) ∧ CallsAt w' (w.heap.size + 1) w.heap.size (CA.new b) ∧ Below w.heap.size w w' ∧ w'.heap.size = w.heap.size + 2 := by
  have hmm := @run_makeMap Try.prog
  have h1 : ¬ b < 1 := by omega
  have h2 : ¬ 1099511627776 < b := by omega
  have HI := Lib.hid h
  clear h
  go_enter Try.func6, Try.ntmps6
  go_wp2_with fail
  go_ret2
  refine ⟨rfl, ⟨?_, ?_, CA.Inv.new HI.out, by simp [CA.new]⟩, ((Below.refl _ w).alloc (Nat.le_refl _) _).alloc (by simp) _, by rw [World.size_alloc, World.size_alloc]⟩
  · have := Whole.new (w.alloc (.map #[] 0)) 54 #[.int .i64 b, .int .i64 1, .map (some w.heap.size)]
    rw [World.size_alloc] at this
    exact this
  · exact (MapAt.new w (.int .i64)).below ((Below.refl _ _).alloc (Nat.le_refl _) _)
section
variable {w : World} {g M : Nat} {s : St}
set_option maxHeartbeats 1000000 in
theorem Boot_any (h : CallsAt w g M s) : Calls Try.prog 17 #[.pointer (some ⟨g, 0, none⟩)] w fun e w' => e = .returned (.int .i64 s.boot) ∧ w' = w := by
  have c0 := h.c0
  clear h
  go_enter Try.func17, Try.ntmps17
  go_wp2_with fail
  go_ret
  exact ⟨rfl, rfl⟩
set_option maxHeartbeats 1000000 in
theorem Boot_nil (w : World) : Calls Try.prog 17 #[.pointer none] w fun e w' => e = .returned (.int .i64 0) ∧ w' = w := by
  go_enter Try.func17, Try.ntmps17
  go_wp2_with fail
  go_ret
  exact ⟨rfl, rfl⟩
set_option maxHeartbeats 2000000 in
theorem Get_any (h : CallsAt w g M s) (q : Int) : Calls Try.prog 12 #[.pointer (some ⟨g, 0, none⟩), .int .i64 q] w fun e w' => e = .returned (.tuple #[aggC (CA.get s q), .bool (CA.has s q)]) ∧ Below w.heap.size w w' := by
  have hz := fun w : World => Try.zeroValue32 w
  have HB := Lib.hid (fun o => (Below.refl w.heap.size w).alloc (Nat.le_refl _) o)
  have HF := Lib.hid (fun o => (h.below (HB.out o)).find q)
  have hc := fun o => (h.below (HB.out o)).c2
  clear h
  generalize CA.get s q = x at *
  unfold aggC ten at *
  go_enter Try.func12, Try.ntmps12
  go_wp2_with (at_lookup; refine wp_look rfl _ _ _ _ rfl _ _ _ rfl rfl (HF.out _) ?_)
  refine bodyPost_ret (v := .tuple #[.agg #[.int .i64 x.seq, .int .i64 x.dst, .int .i64 x.verb, .string x.path, .int .i64 x.mode, .int .i64 x.term, .int .i64 x.id, .bool x.fresh, .int .i64 x.sent, .int .i64 x.tries], .bool (CA.has s q)]) ?_ rfl ?_
  · rw [results_cell_tmp rfl]
    go_simp
  · exact ⟨rfl, ((Below.refl w.heap.size w).alloc (Nat.le_refl _) _).alloc (by simp) _⟩
set_option maxHeartbeats 2000000 in
theorem Get_nil (w : World) (q : Int) : Calls Try.prog 12 #[.pointer none, .int .i64 q] w fun e w' => e = .returned (.tuple #[aggC CA.zero, .bool false]) ∧ Below w.heap.size w w' := by
  have hz := fun w : World => Try.zeroValue32 w
  go_enter Try.func12, Try.ntmps12
  go_wp2_with fail
  refine bodyPost_ret (v := .tuple #[aggC CA.zero, .bool false]) ?_ rfl ?_
  · rw [results_cell_tmp rfl]
    unfold aggC ten CA.zero
    go_simp
    try rfl
  · exact ⟨rfl, (Below.refl w.heap.size w).alloc (Nat.le_refl _) _⟩
end
end Go.Proofs.Ytnacchldecjcaaa
