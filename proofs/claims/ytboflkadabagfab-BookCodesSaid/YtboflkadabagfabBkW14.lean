/- Copies: of a list of numbers, of a grant, of a list of grants; the package's calls and the document's. -/
import Derived.Test.YtboflkadabagfabBkW12
import Derived.Test.YtboflkadabagfabBkTM
namespace Go.Proofs.Ytboflkadabagfab
open Go.RowKit
open BM (Gr Rc Bk g0 r0 b0)
set_option linter.unusedVariables false
set_option linter.unusedSimpArgs false
set_option maxRecDepth 100000
/-- A list of numbers that the call has made for itself. -/
def OwnI (w : World) (base : Nat) (v : Value) (l : List Int) : Prop := w.ownsRow base 3 1 v l.length (i64s l)
theorem OwnI.hd {w : World} {base : Nat} {v : Value} {l : List Int} (h : OwnI w base v l) (h8 : l.length * 8 ≤ 140737488355328) (hl : ∀ x ∈ l, In64 x) : HdI w v l := by
  obtain ⟨A, c, rfl, h1, h2⟩ := own_shape h
  exact ⟨A, c, rfl, IntsAt.own h, h1, h2, h8, hl⟩
def ClonePost (w : World) (l : List Int) (e : Ending) (w' : World) : Prop := ∃ v, e = .returned v ∧ OwnI w' w.heap.size v l ∧ Below w.heap.size w w'
set_option maxHeartbeats 1000000 in
theorem CloneI_nil (c : Nat) (w : World) : Calls Try.prog 66 #[.slice none 0 c] w (ClonePost w []) := by
  have he := fun w : World => Lib.run_eql_slice_nil (P := Try.prog) w 24 3 none 0 c 0 0 Try.underlying24
  go_enter Try.func66, Try.ntmps66
  go_wp2
  go_ret
  exact ⟨_, rfl, World.ownsRow_nil _ _ _ _, Below.refl _ _⟩
set_option maxHeartbeats 1000000 in
theorem CloneI_some (ad : Addr) (c : Nat) (xs : List Int) (w : World) (h : IntsAt w (some ad) xs) (hl : xs.length * 8 ≤ 140737488355328) :
    Calls Try.prog 66 #[.slice (some ad) xs.length c] w (ClonePost w xs) := by
  have H := Lib.hid h; clear h
  have he := fun w : World => Lib.run_eql_slice_nil (P := Try.prog) w 24 3 (some ad) xs.length c 0 0 Try.underlying24
  go_enter Try.func66, Try.ntmps66
  go_wp2_with (at_builtin; refine app_all rfl (.tmp 5) (.tmp 6) rfl (some ad) c xs.length xs rfl H.out w.heap.size rfl rfl rfl hl ?_; intro A' n' c' w2 hm; have HM := Lib.hid hm; clear hm)
  go_wp2
  go_ret
  have e := HM.out.1.out
  subst e
  exact ⟨_, rfl, HM.out.2.2.1.out, HM.out.2.2.2.1.out⟩
theorem CloneI_any (v : Value) (l : List Int) (w : World) (h : HdI w v l) : Calls Try.prog 66 #[v] w (ClonePost w l) := by
  obtain ⟨A, c, rfl, hs⟩ := h
  cases A with
  | some ad => exact CloneI_some ad c l w hs.ints hs.room
  | none =>
    have h0 : l = [] := by
      cases l with
      | nil => rfl
      | cons y r =>
        obtain ⟨b, o, e, _⟩ := hs.ints (by simp)
        cases e
    subst h0
    exact CloneI_nil c w
theorem RCopyI_any (v : Value) (l : List Int) (w : World) (h : HdI w v l) : Calls Try.prog 46 #[v] w (ClonePost w l) := by
  obtain ⟨A, c, rfl, hs⟩ := h
  refine (St.RefCopy_any A c l w hs.ints hs.le hs.cap hs.room).mono ?_
  rintro e w' ⟨v, rfl, hg⟩
  exact ⟨v, rfl, hg.1, hg.2⟩
/-- A grant of the call's own. -/
def CopyPost (w : World) (g : Gr) (e : Ending) (w' : World) : Prop := ∃ v, e = .returned (.agg (six g v)) ∧ OwnI w' w.heap.size v g.stamp ∧ Below w.heap.size w w'
theorem set6 (w : World) (g : Nat) (v0 v1 v2 v3 v4 v5 : Value) : Mod [g] w ((((((w.setCell ⟨g, 0, none⟩ v0).setCell ⟨g, 1, none⟩ v1).setCell ⟨g, 2, none⟩ v2).setCell ⟨g, 3, none⟩ v3).setCell ⟨g, 4, none⟩ v4).setCell ⟨g, 5, none⟩ v5) :=
  ((((((Mod.refl [g] w).store (p := ⟨g, 0, none⟩) (.inl (by simp)) _).store (p := ⟨g, 1, none⟩) (.inl (by simp)) _).store (p := ⟨g, 2, none⟩) (.inl (by simp)) _).store (p := ⟨g, 3, none⟩) (.inl (by simp)) _).store (p := ⟨g, 4, none⟩) (.inl (by simp)) _).store (p := ⟨g, 5, none⟩) (.inl (by simp)) _
theorem own_low {w : World} {b1 b2 : Nat} {e : TypeId} {z n : Nat} {v : Value} {xs : List Value} (h : w.ownsRow b1 e z v n xs) (hb : b2 ≤ b1) : w.ownsRow b2 e z v n xs := by
  refine ⟨h.1, ?_⟩
  rcases h.2 with h2 | ⟨g, cap, cur, hv, hg, h2⟩
  · exact .inl h2
  · exact .inr ⟨g, cap, cur, hv, Nat.le_trans hb hg, h2⟩
set_option maxHeartbeats 2000000 in
theorem b_copied (v : Value) (g : Gr) (w : World) (h : FitG w v g) :
    Calls Try.prog 38 #[.agg (six g v)] w (CopyPost w g) := by
  have HX := Lib.hid (((Below.refl _ w).alloc (Nat.le_refl _) (.cells (six g v) 26)).alloc (by simp) (.cells z6 26))
  have HG := Lib.hid (h.below HX.out)
  have HK := Lib.hid ((Whole.new w 26 (six g v)).alloc (.cells z6 26))
  have HZ := Lib.hid (show Whole ((w.alloc (.cells (six g v) 26)).alloc (.cells z6 26)) (w.heap.size + 1) 26 z6 from by have h := Whole.new (w.alloc (.cells (six g v) 26)) 26 z6; have e : (w.alloc (.cells (six g v) 26)).heap.size = w.heap.size + 1 := (by simp); rw [e] at h; exact h)
  have HS := Lib.hid (show ((w.alloc (.cells (six g v) 26)).alloc (.cells z6 26)).heap.size = w.heap.size + 2 by simp)
  clear h
  unfold z6 at HX HG HK HZ HS
  have c4 : ((w.alloc (.cells (six g v) 26)).alloc (.cells #[.int .i64 0, .int .i64 0, .string ⟨#[]⟩, .int .i64 0, .slice none 0 0, .int .i64 0] 26)).cell? ⟨w.heap.size, 4, none⟩ = some v := HK.out.cell 4
  go_enter Try.func38, Try.ntmps38
  go_wp2_with fail
  generalize ((w.alloc (.cells (six g v) 26)).alloc (.cells #[.int .i64 0, .int .i64 0, .string ⟨#[]⟩, .int .i64 0, .slice none 0 0, .int .i64 0] 26)) = w0 at HX HG HK HZ HS c4 ⊢
  refine (CloneI_any v g.stamp w0 HG.out.hd).mono ?_
  rintro e w1 ⟨nv, rfl, ho, hb⟩
  have HO := Lib.hid ho
  obtain ⟨A, c, hv, _, _⟩ := own_shape ho
  have HX1 := Lib.hid (below_on HX.out hb)
  have HK1 := Lib.hid ((Mod.of_below hb []).whole HK.out (by simp))
  have HZ1 := Lib.hid ((Mod.of_below hb []).whole HZ.out (by simp))
  have HS1 := Lib.hid (show w.heap.size + 2 ≤ w0.heap.size by rw [HS.out]; exact Nat.le_refl _)
  clear ho hb c4
  subst hv
  have f4 := HK1.out.frozen 4
  have c0 : w1.cell? ⟨w.heap.size, 0, none⟩ = some (.int .i64 g.id) := HK1.out.cell 0
  have c1 : w1.cell? ⟨w.heap.size, 1, none⟩ = some (.int .i64 g.holder) := HK1.out.cell 1
  have c2 : w1.cell? ⟨w.heap.size, 2, none⟩ = some (.string g.path) := HK1.out.cell 2
  have c3 : w1.cell? ⟨w.heap.size, 3, none⟩ = some (.int .i64 g.mode) := HK1.out.cell 3
  have c4 : w1.cell? ⟨w.heap.size, 4, none⟩ = some v := HK1.out.cell 4
  have c5 : w1.cell? ⟨w.heap.size, 5, none⟩ = some (.int .i64 g.term) := HK1.out.cell 5
  have z0 : w1.cell? ⟨w.heap.size + 1, 0, none⟩ = some (.int .i64 0) := HZ1.out.cell 0
  have z1 : w1.cell? ⟨w.heap.size + 1, 1, none⟩ = some (.int .i64 0) := HZ1.out.cell 1
  have z2 : w1.cell? ⟨w.heap.size + 1, 2, none⟩ = some (.string ⟨#[]⟩) := HZ1.out.cell 2
  have z3 : w1.cell? ⟨w.heap.size + 1, 3, none⟩ = some (.int .i64 0) := HZ1.out.cell 3
  have z4 : w1.cell? ⟨w.heap.size + 1, 4, none⟩ = some (.slice none 0 0) := HZ1.out.cell 4
  have z5 : w1.cell? ⟨w.heap.size + 1, 5, none⟩ = some (.int .i64 0) := HZ1.out.cell 5
  have g0' := HZ1.out.frozen 0
  have g1 := HZ1.out.frozen 1
  have g2 := HZ1.out.frozen 2
  have g3 := HZ1.out.frozen 3
  have g4 := HZ1.out.frozen 4
  have g5 := HZ1.out.frozen 5
  go_wp2_with fail
  refine bodyPost_ret (v := .agg (six g (.slice A g.stamp.length c))) (by simp [results, Try.results38, go_sem, z0, z1, z2, z3, z4, z5, six]) rfl ?_
  have h4 : Mod [w.heap.size, w.heap.size + 1] w1 _ := ((Mod.refl [w.heap.size, w.heap.size + 1] w1).store (p := ⟨w.heap.size, 4, none⟩) (.inl (by simp)) (.slice A g.stamp.length c)).trans (set6 (w1.setCell ⟨w.heap.size, 4, none⟩ (.slice A g.stamp.length c)) (w.heap.size + 1) (.int .i64 g.id) (.int .i64 g.holder) (.string g.path) (.int .i64 g.mode) (.slice A g.stamp.length c) (.int .i64 g.term)) (fun x hx => by simp at hx; simp [hx])
  exact ⟨_, rfl, h4.own (own_low HO.out (by have := HS1.out; omega)) (fun k hk e => by have h1 := (HO.out.lt k hk).1; have := HS1.out; simp at e; omega), HX1.out.trans (h4.below HX1.out.size (by intro x hx; simp at hx; omega))⟩
set_option maxHeartbeats 2000000 in
theorem r_CopyGrant (v : Value) (g : Gr) (w : World) (h : FitG w v g) :
    Calls Try.prog 19 #[.agg (six g v)] w (CopyPost w g) := by
  have HX := Lib.hid (((Below.refl _ w).alloc (Nat.le_refl _) (.cells (six g v) 26)).alloc (by simp) (.cells z6 26))
  have HG := Lib.hid (h.below HX.out)
  have HK := Lib.hid ((Whole.new w 26 (six g v)).alloc (.cells z6 26))
  have HZ := Lib.hid (show Whole ((w.alloc (.cells (six g v) 26)).alloc (.cells z6 26)) (w.heap.size + 1) 26 z6 from by have h := Whole.new (w.alloc (.cells (six g v) 26)) 26 z6; have e : (w.alloc (.cells (six g v) 26)).heap.size = w.heap.size + 1 := (by simp); rw [e] at h; exact h)
  have HS := Lib.hid (show ((w.alloc (.cells (six g v) 26)).alloc (.cells z6 26)).heap.size = w.heap.size + 2 by simp)
  clear h
  unfold z6 at HX HG HK HZ HS
  have c4 : ((w.alloc (.cells (six g v) 26)).alloc (.cells #[.int .i64 0, .int .i64 0, .string ⟨#[]⟩, .int .i64 0, .slice none 0 0, .int .i64 0] 26)).cell? ⟨w.heap.size, 4, none⟩ = some v := HK.out.cell 4
  go_enter Try.func19, Try.ntmps19
  go_wp2_with fail
  generalize ((w.alloc (.cells (six g v) 26)).alloc (.cells #[.int .i64 0, .int .i64 0, .string ⟨#[]⟩, .int .i64 0, .slice none 0 0, .int .i64 0] 26)) = w0 at HX HG HK HZ HS c4 ⊢
  refine (RCopyI_any v g.stamp w0 HG.out.hd).mono ?_
  rintro e w1 ⟨nv, rfl, ho, hb⟩
  have HO := Lib.hid ho
  obtain ⟨A, c, hv, _, _⟩ := own_shape ho
  have HX1 := Lib.hid (below_on HX.out hb)
  have HK1 := Lib.hid ((Mod.of_below hb []).whole HK.out (by simp))
  have HZ1 := Lib.hid ((Mod.of_below hb []).whole HZ.out (by simp))
  have HS1 := Lib.hid (show w.heap.size + 2 ≤ w0.heap.size by rw [HS.out]; exact Nat.le_refl _)
  clear ho hb c4
  subst hv
  have f4 := HK1.out.frozen 4
  have c0 : w1.cell? ⟨w.heap.size, 0, none⟩ = some (.int .i64 g.id) := HK1.out.cell 0
  have c1 : w1.cell? ⟨w.heap.size, 1, none⟩ = some (.int .i64 g.holder) := HK1.out.cell 1
  have c2 : w1.cell? ⟨w.heap.size, 2, none⟩ = some (.string g.path) := HK1.out.cell 2
  have c3 : w1.cell? ⟨w.heap.size, 3, none⟩ = some (.int .i64 g.mode) := HK1.out.cell 3
  have c4 : w1.cell? ⟨w.heap.size, 4, none⟩ = some v := HK1.out.cell 4
  have c5 : w1.cell? ⟨w.heap.size, 5, none⟩ = some (.int .i64 g.term) := HK1.out.cell 5
  have z0 : w1.cell? ⟨w.heap.size + 1, 0, none⟩ = some (.int .i64 0) := HZ1.out.cell 0
  have z1 : w1.cell? ⟨w.heap.size + 1, 1, none⟩ = some (.int .i64 0) := HZ1.out.cell 1
  have z2 : w1.cell? ⟨w.heap.size + 1, 2, none⟩ = some (.string ⟨#[]⟩) := HZ1.out.cell 2
  have z3 : w1.cell? ⟨w.heap.size + 1, 3, none⟩ = some (.int .i64 0) := HZ1.out.cell 3
  have z4 : w1.cell? ⟨w.heap.size + 1, 4, none⟩ = some (.slice none 0 0) := HZ1.out.cell 4
  have z5 : w1.cell? ⟨w.heap.size + 1, 5, none⟩ = some (.int .i64 0) := HZ1.out.cell 5
  have g0' := HZ1.out.frozen 0
  have g1 := HZ1.out.frozen 1
  have g2 := HZ1.out.frozen 2
  have g3 := HZ1.out.frozen 3
  have g4 := HZ1.out.frozen 4
  have g5 := HZ1.out.frozen 5
  go_wp2_with fail
  refine bodyPost_ret (v := .agg (six g (.slice A g.stamp.length c))) (by simp [results, Try.results19, go_sem, z0, z1, z2, z3, z4, z5, six]) rfl ?_
  have h4 : Mod [w.heap.size, w.heap.size + 1] w1 _ := ((Mod.refl [w.heap.size, w.heap.size + 1] w1).store (p := ⟨w.heap.size, 4, none⟩) (.inl (by simp)) (.slice A g.stamp.length c)).trans (set6 (w1.setCell ⟨w.heap.size, 4, none⟩ (.slice A g.stamp.length c)) (w.heap.size + 1) (.int .i64 g.id) (.int .i64 g.holder) (.string g.path) (.int .i64 g.mode) (.slice A g.stamp.length c) (.int .i64 g.term)) (fun x hx => by simp at hx; simp [hx])
  exact ⟨_, rfl, h4.own (own_low HO.out (by have := HS1.out; omega)) (fun k hk e => by have h1 := (HO.out.lt k hk).1; have := HS1.out; simp at e; omega), HX1.out.trans (h4.below HX1.out.size (by intro x hx; simp at hx; omega))⟩
/-- Grants with the headers of their stamps, one behind the other, as cells. -/
def flat (ps : List (Gr × Value)) : List Value := ps.flatMap fun p => (six p.1 p.2).toList
theorem flat_cons (p : Gr × Value) (ps : List (Gr × Value)) : flat (p :: ps) = (six p.1 p.2).toList ++ flat ps := rfl
theorem flat_append (a b : List (Gr × Value)) : flat (a ++ b) = flat a ++ flat b := by unfold flat; rw [List.flatMap_append]
theorem flat_len : ∀ ps : List (Gr × Value), (flat ps).length = ps.length * 6
  | [] => rfl
  | p :: ps => by rw [flat_cons, List.length_append, flat_len ps, List.length_cons]; simp [six]; omega
theorem flat_get : ∀ (ps : List (Gr × Value)) (j i : Nat) (p : Gr × Value), ps[j]? = some p → i < 6 → (flat ps)[j * 6 + i]? = (six p.1 p.2)[i]?
  | [], j, i, p, h, _ => by simp at h
  | q :: ps, 0, i, p, h, hi => by
    simp at h
    subst h
    rw [flat_cons, List.getElem?_append_left (by simp [six]; omega)]
    simp
  | q :: ps, j + 1, i, p, h, hi => by
    rw [List.getElem?_cons_succ] at h
    rw [flat_cons, List.getElem?_append_right (by simp [six]; omega)]
    have e : (j + 1) * 6 + i - (six q.1 q.2).toList.length = j * 6 + i := by simp [six]; omega
    rw [e]
    exact flat_get ps j i p h hi
/-- A list of grants that the call has made for itself, their stamps too. -/
structure OwnG (w : World) (base : Nat) (v : Value) (ps : List (Gr × Value)) : Prop where
  row : w.ownsRow base 26 6 v ps.length (flat ps)
  st : ∀ p ∈ ps, OwnI w base p.2 p.1.stamp
  wide : ∀ p ∈ ps, GW p.1 ∧ p.1.stamp.length * 8 ≤ 140737488355328 ∧ ∀ x ∈ p.1.stamp, In64 x
  room : ps.length * 72 ≤ 140737488355328
section
variable {w w' : World} {base : Nat} {v : Value} {ps : List (Gr × Value)} {F : List Nat}
theorem OwnG.gr (h : OwnG w base v ps) {g : Nat} (hg : v.ownBlock = some g) {j : Nat} {p : Gr × Value} (hp : ps[j]? = some p) : GrAt w g (j * 6) p.1 := by
  have hm := List.mem_of_getElem? hp
  have c : ∀ i, i < 6 → ∀ u, (flat ps)[j * 6 + i]? = some u → w.cell? ⟨g, j * 6 + i, none⟩ = some u := fun i hi u hu => by
    have := h.row.cells (g := g) hg (j * 6 + i) u hu
    rwa [Addr.add_lit, Nat.zero_add] at this
  refine ⟨p.2, ?_, ?_, ?_, ?_, ?_, ?_, ⟨(h.st p hm).hd (h.wide p hm).2.1 (h.wide p hm).2.2, (h.wide p hm).1⟩⟩
  · exact c 0 (by omega) _ (by rw [flat_get ps j 0 p hp (by omega)]; rfl)
  · exact c 1 (by omega) _ (by rw [flat_get ps j 1 p hp (by omega)]; rfl)
  · exact c 2 (by omega) _ (by rw [flat_get ps j 2 p hp (by omega)]; rfl)
  · exact c 3 (by omega) _ (by rw [flat_get ps j 3 p hp (by omega)]; rfl)
  · exact c 4 (by omega) _ (by rw [flat_get ps j 4 p hp (by omega)]; rfl)
  · exact c 5 (by omega) _ (by rw [flat_get ps j 5 p hp (by omega)]; rfl)
theorem OwnG.hd (h : OwnG w base v ps) : HdG w v (ps.map Prod.fst) := by
  obtain ⟨A, c, e, h1, h2⟩ := own_shape h.row
  refine ⟨A, c, by rw [List.length_map]; exact e, fun h0 => ?_, by rw [List.length_map]; exact h1, h2, by rw [List.length_map]; exact h.room⟩
  rw [List.length_map] at h0
  have hl := flat_len ps
  obtain ⟨g, cap, hv, _, hlt⟩ := h.row.form (by omega)
  rw [e] at hv
  injection hv with hA _ _
  subst hA
  refine ⟨g, 0, rfl, hlt, fun j x hx => ?_⟩
  rw [List.getElem?_map] at hx
  obtain ⟨p, hp, rfl⟩ := Option.map_eq_some_iff.1 hx
  have := h.gr (g := g) (by rw [e]; rfl) hp
  rwa [Nat.zero_add]
theorem OwnG.mod (h : OwnG w base v ps) (hm : Mod F w w') (hF : ∀ x ∈ F, x < base) : OwnG w' base v ps :=
  ⟨hm.own h.row (fun k hk hf => by have := (h.row.lt k hk).1; have := hF k hf; omega), fun p hp => hm.own (h.st p hp) (fun k hk hf => by have := ((h.st p hp).lt k hk).1; have := hF k hf; omega), h.wide, h.room⟩
theorem OwnG.below (h : OwnG w base v ps) (hb : Below w.heap.size w w') : OwnG w' base v ps := h.mod (Mod.of_below hb []) (by simp)
theorem OwnG.low {b2 : Nat} (h : OwnG w base v ps) (hb : b2 ≤ base) : OwnG w b2 v ps := ⟨own_low h.row hb, fun p hp => own_low (h.st p hp) hb, h.wide, h.room⟩
theorem OwnG.nil : OwnG w base (.slice none 0 0) [] := ⟨World.ownsRow_nil _ _ _ _, by simp, by simp, by simp⟩
end
/-- A copy of a list of grants, with no room behind it. -/
def AllPost (w : World) (gs : List Gr) (e : Ending) (w' : World) : Prop := ∃ A ps, e = .returned (.slice A gs.length gs.length) ∧ ps.map Prod.fst = gs ∧ OwnG w' w.heap.size (.slice A gs.length gs.length) ps ∧ Below w.heap.size w w'
/-- A list of grants that the call answers. -/
def ListPost (w : World) (gs : List Gr) (e : Ending) (w' : World) : Prop := ∃ v ps, e = .returned v ∧ ps.map Prod.fst = gs ∧ OwnG w' w.heap.size v ps ∧ Below w.heap.size w w'
theorem info_gr : (Try.prog.info? 26).map (fun i => (i.zero, i.size, i.bytes)) = some (some (.agg z6), 6, 72) := by kernel_rfl
theorem set_get {cs : Array Value} {i j : Nat} {v : Value} (h : i < cs.size) : (cs.setIfInBounds i v)[j]? = if j = i then some v else cs[j]? := by
  rw [Array.getElem?_setIfInBounds]
  by_cases e : i = j
  · subst e; rw [if_pos rfl, if_pos rfl, if_pos h]
  · rw [if_neg e, if_neg (fun x => e x.symm)]
/-- The first k cells of a list under way, as those of the grants that were copied. -/
def Under (cs : Array Value) (ps : List (Gr × Value)) (n : Nat) : Prop := cs.size = n * 6 ∧ ps.length ≤ n ∧ ∀ i, i < ps.length * 6 → cs[i]? = (flat ps)[i]?
theorem Under.next {cs : Array Value} {ps : List (Gr × Value)} {n : Nat} (h : Under cs ps n) (hn : ps.length < n) (g : Gr) (v : Value) :
    Under ((((((cs.setIfInBounds (ps.length * 6) (.int .i64 g.id)).setIfInBounds (ps.length * 6 + 1) (.int .i64 g.holder)).setIfInBounds (ps.length * 6 + 2) (.string g.path)).setIfInBounds (ps.length * 6 + 3) (.int .i64 g.mode)).setIfInBounds (ps.length * 6 + 4) v).setIfInBounds (ps.length * 6 + 5) (.int .i64 g.term)) (ps ++ [(g, v)]) n := by
  obtain ⟨h1, h2, h3⟩ := h
  refine ⟨by simp [h1], by rw [List.length_append, List.length_singleton]; omega, fun i hi => ?_⟩
  rw [set_get (by (try simp); omega), set_get (by (try simp); omega), set_get (by (try simp); omega), set_get (by (try simp); omega), set_get (by (try simp); omega), set_get (by (try simp); omega)]
  rw [List.length_append, List.length_singleton] at hi
  have hl := flat_len ps
  rw [flat_append]
  by_cases hlt : i < ps.length * 6
  · rw [if_neg (by omega), if_neg (by omega), if_neg (by omega), if_neg (by omega), if_neg (by omega), if_neg (by omega), List.getElem?_append_left (by omega)]
    exact h3 i hlt
  · rw [List.getElem?_append_right (by omega), hl]
    obtain ⟨k, rfl⟩ : ∃ k, i = ps.length * 6 + k := ⟨i - ps.length * 6, by omega⟩
    have hk : k < 6 := by omega
    rw [Nat.add_sub_cancel_left]
    match k, hk with
    | 0, _ => rw [if_neg (by omega), if_neg (by omega), if_neg (by omega), if_neg (by omega), if_neg (by omega), if_pos (by omega)]; rfl
    | 1, _ => rw [if_neg (by omega), if_neg (by omega), if_neg (by omega), if_neg (by omega), if_pos rfl]; rfl
    | 2, _ => rw [if_neg (by omega), if_neg (by omega), if_neg (by omega), if_pos rfl]; rfl
    | 3, _ => rw [if_neg (by omega), if_neg (by omega), if_pos rfl]; rfl
    | 4, _ => rw [if_neg (by omega), if_pos rfl]; rfl
    | 5, _ => rw [if_pos rfl]; rfl
theorem Under.done {cs : Array Value} {ps : List (Gr × Value)} {n : Nat} (h : Under cs ps n) (hn : ps.length = n) : cs.toList = flat ps := by
  obtain ⟨h1, h2, h3⟩ := h
  have hl := flat_len ps
  refine List.ext_getElem? fun i => ?_
  rw [Array.getElem?_toList]
  by_cases hi : i < ps.length * 6
  · exact h3 i hi
  · rw [Array.getElem?_eq_none (by omega), List.getElem?_eq_none (by omega)]
theorem mod6 (w : World) (b o0 o1 o2 o3 o4 o5 : Nat) (u0 u1 u2 u3 u4 u5 : Value) : Mod [b] w ((((((w.setCell ⟨b, o0, none⟩ u0).setCell ⟨b, o1, none⟩ u1).setCell ⟨b, o2, none⟩ u2).setCell ⟨b, o3, none⟩ u3).setCell ⟨b, o4, none⟩ u4).setCell ⟨b, o5, none⟩ u5) :=
  ((((((Mod.refl [b] w).store (p := ⟨b, o0, none⟩) (.inl (by simp)) u0).store (p := ⟨b, o1, none⟩) (.inl (by simp)) u1).store (p := ⟨b, o2, none⟩) (.inl (by simp)) u2).store (p := ⟨b, o3, none⟩) (.inl (by simp)) u3).store (p := ⟨b, o4, none⟩) (.inl (by simp)) u4).store (p := ⟨b, o5, none⟩) (.inl (by simp)) u5
set_option maxHeartbeats 8000000 in
theorem b_copiedAll (v : Value) (gs : List Gr) (w : World) (h : HdG w v gs) (h6 : gs.length ≤ 1000) :
    Calls Try.prog 63 #[v] w (AllPost w gs) := by
  obtain ⟨A, c, rfl, hA, ha, hc, hca⟩ := h
  have HA := Lib.hid hA; clear hA
  have hmk : ∀ w' : World, (Instr.makeSlice 43 (.int .i64 (gs.length : Int)) (.int .i64 (gs.length : Int))).run Try.prog w' = .ok (.slice (some ⟨w'.heap.size, 0, none⟩) gs.length gs.length) (w'.alloc (.cells (madeCells z6 (gs.length * 6)) 26)) := fun w' => by
    obtain ⟨i0, hi, hz0, hz1, hz2⟩ := info_parts info_gr
    have h := run_make (P := Try.prog) w' 43 26 i0 (.agg z6) Try.underlying43 hi hz0 .i64 .i64 (gs.length : Int) (gs.length : Int) (by omega) (by omega) (by rw [hz2]; omega) (by omega)
    simp only [Int.toNat_natCast, hz1, Value.cells] at h
    exact h
  go_enter Try.func63, Try.ntmps63
  go_wp2_with fail
  have HC1 := Lib.hid (Whole.new w 26 (madeCells z6 (gs.length * 6)))
  have HX1 := Lib.hid ((Below.refl _ w).alloc (Nat.le_refl _) (.cells (madeCells z6 (gs.length * 6)) 26))
  generalize w.alloc (.cells (madeCells z6 (gs.length * 6)) 26) = w1 at HC1 HX1 ⊢
  clear hmk
  go_loopw [4, 11] (fun _ i wx => ∃ (k : Nat) (cs : Array Value) (ps : List (Gr × Value)), i = .int .i64 (k : Int) ∧ k ≤ gs.length ∧ Hid (Whole wx w.heap.size 26 cs) ∧ Hid (Under cs ps gs.length) ∧ Hid (ps.map Prod.fst = gs.take k) ∧ Hid (∀ p ∈ ps, OwnI wx (w.heap.size + 1) p.2 p.1.stamp) ∧ Hid (∀ p ∈ ps, GW p.1 ∧ p.1.stamp.length * 8 ≤ 140737488355328 ∧ ∀ x ∈ p.1.stamp, In64 x) ∧ Hid (Below w.heap.size w wx)) (fun _ i _ => gs.length - (intOf i).toNat)
  case atStart => exact ⟨0, _, [], rfl, by omega, HC1, Lib.hid ⟨size_madeCells _ _, by simp, fun i hi => by simp at hi⟩, Lib.hid (by simp), Lib.hid (by simp), Lib.hid (by simp), HX1⟩
  case round =>
    obtain ⟨k, cs, ps, rfl, hk, HW, HU, HM, HP, HG, HB⟩ := hrel
    have HL := Lib.hid (show ps.length = k by have := congrArg List.length HM.out; simp at this; omega)
    by_cases hlt : k < gs.length
    · obtain ⟨ba, oa, eA, hza, hca'⟩ := (HA.out.below HB.out) (by omega)
      subst eA
      obtain ⟨Ax, cx, ⟨a0, a1, a2, a3, a4, a5⟩, hfa⟩ := (hca' k gs[k] (List.getElem?_eq_getElem hlt)).open_
      have HFA := Lib.hid hfa; clear hfa
      clear hca'
      have HTK := Lib.hid (show gs.take (k + 1) = gs.take k ++ [gs[k]] by rw [List.take_add_one, List.getElem?_eq_getElem hlt]; rfl)
      generalize gs[k] = x at HFA a0 a1 a2 a3 a4 a5 HTK
      have HX0 := Lib.hid ((Below.refl _ wr).alloc (Nat.le_refl _) (.cells (six x (.slice Ax x.stamp.length cx)) 26))
      have hwr : w.heap.size < wr.heap.size := HW.out.lt
      go_wp2_with fail
      refine (b_copied (.slice Ax x.stamp.length cx) x _ (HFA.out.below HX0.out)).mono ?_
      rintro e w5 ⟨nv, rfl, ho, hb5⟩
      have HO := Lib.hid (own_low ho (show w.heap.size + 1 ≤ _ by have := HX0.out.size; omega))
      obtain ⟨An, cn, hv, _, _⟩ := own_shape ho
      subst hv
      have HX5 := Lib.hid (HX0.out.trans (hb5.mono HX0.out.size))
      have HB5 := Lib.hid (below_on HB.out HX5.out)
      have HW5 := Lib.hid ((Mod.of_below HX5.out []).whole HW.out (by simp))
      have HP5 := Lib.hid (fun p hp => (Mod.of_below HX5.out []).own (HP.out p hp) (by simp))
      clear ho hb5 a0 a1 a2 a3 a4 a5
      have e0 := HL.out
      have hsz := HU.out.1
      obtain ⟨o0, q0⟩ : ∃ v, cs[k * 6]? = some v := ⟨_, Array.getElem?_eq_getElem (by omega)⟩
      obtain ⟨o1, q1⟩ : ∃ v, cs[k * 6 + 1]? = some v := ⟨_, Array.getElem?_eq_getElem (by omega)⟩
      obtain ⟨o2, q2⟩ : ∃ v, cs[k * 6 + 2]? = some v := ⟨_, Array.getElem?_eq_getElem (by omega)⟩
      obtain ⟨o3, q3⟩ : ∃ v, cs[k * 6 + 3]? = some v := ⟨_, Array.getElem?_eq_getElem (by omega)⟩
      obtain ⟨o4, q4⟩ : ∃ v, cs[k * 6 + 4]? = some v := ⟨_, Array.getElem?_eq_getElem (by omega)⟩
      obtain ⟨o5, q5⟩ : ∃ v, cs[k * 6 + 5]? = some v := ⟨_, Array.getElem?_eq_getElem (by omega)⟩
      clear e0 hsz
      have t0 : w5.cell? ⟨w.heap.size, k * 6, none⟩ = some o0 := (HW5.out.cell _).trans q0
      have t1 : w5.cell? ⟨w.heap.size, k * 6 + 1, none⟩ = some o1 := (HW5.out.cell _).trans q1
      have t2 : w5.cell? ⟨w.heap.size, k * 6 + 2, none⟩ = some o2 := (HW5.out.cell _).trans q2
      have t3 : w5.cell? ⟨w.heap.size, k * 6 + 3, none⟩ = some o3 := (HW5.out.cell _).trans q3
      have t4 : w5.cell? ⟨w.heap.size, k * 6 + 4, none⟩ = some o4 := (HW5.out.cell _).trans q4
      have t5 : w5.cell? ⟨w.heap.size, k * 6 + 5, none⟩ = some o5 := (HW5.out.cell _).trans q5
      have f0 := HW5.out.frozen (k * 6)
      have f1 := HW5.out.frozen (k * 6 + 1)
      have f2 := HW5.out.frozen (k * 6 + 2)
      have f3 := HW5.out.frozen (k * 6 + 3)
      have f4 := HW5.out.frozen (k * 6 + 4)
      have f5 := HW5.out.frozen (k * 6 + 5)
      clear q0 q1 q2 q3 q4 q5
      unfold six
      go_wp2_with fail
      have HMD := Lib.hid (mod6 w5 w.heap.size (k * 6) (k * 6 + 1) (k * 6 + 2) (k * 6 + 3) (k * 6 + 4) (k * 6 + 5) (.int .i64 x.id) (.int .i64 x.holder) (.string x.path) (.int .i64 x.mode) (.slice An x.stamp.length cn) (.int .i64 x.term))
      go_roundw
      case rel =>
        have hn := HU.out.next (by rw [HL.out]; exact hlt) x (.slice An x.stamp.length cn)
        rw [HL.out] at hn
        refine ⟨k + 1, _, ps ++ [(x, .slice An x.stamp.length cn)], rfl, hlt, Lib.hid ((((((HW5.out.store (k * 6) _).store (k * 6 + 1) _).store (k * 6 + 2) _).store (k * 6 + 3) _).store (k * 6 + 4) _).store (k * 6 + 5) _), Lib.hid hn, Lib.hid (by rw [List.map_append, HM.out, HTK.out]; rfl), Lib.hid (fun p hp => ?_), Lib.hid (fun p hp => ?_), Lib.hid (HB5.out.trans (HMD.out.below HB5.out.size (by simp)))⟩
        · rcases List.mem_append.1 hp with hp | hp
          · exact HMD.out.own (HP5.out p hp) (fun k' hk' e => by have := ((HP5.out p hp).lt k' hk').1; simp at e; omega)
          · rw [List.mem_singleton.1 hp]
            exact HMD.out.own HO.out (fun k' hk' e => by have := (HO.out.lt k' hk').1; simp at e; omega)
        · rcases List.mem_append.1 hp with hp | hp
          · exact HG.out p hp
          · rw [List.mem_singleton.1 hp]
            obtain ⟨_, _, _, hs⟩ := HFA.out.hd
            exact ⟨HFA.out.wide, hs.room, hs.rng⟩
      case measure => simp only [intOf]; omega
    · have hkn : k = gs.length := by omega
      have HPL := Lib.hid (show ps.length = gs.length by have := HL.out; omega)
      have HMM := Lib.hid (show ps.map Prod.fst = gs by rw [HM.out, List.take_of_length_le (by omega)])
      clear hkn
      go_wp2_with fail
      go_ret
      have hd := HU.out.done HPL.out
      have hsz := HU.out.1
      refine ⟨_, ps, rfl, HMM.out, ⟨?_, fun p hp => own_low (HP.out p hp) (by omega), HG.out, by rw [HPL.out]; exact hca⟩, HB.out⟩
      rw [HPL.out]
      exact ⟨by rw [flat_len, HPL.out], .inr ⟨_, _, cs, rfl, Nat.le_refl _, HW.out, Nat.le_refl _, by unfold maxLen; omega, by omega, by rw [hd, List.take_of_length_le (by rw [flat_len, HPL.out]; exact Nat.le_refl _)]⟩⟩
end Go.Proofs.Ytboflkadabagfab
