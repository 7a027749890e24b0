/- The package's calls on a set that write, and the small ones: New, Put, Drop, Get, Len. -/
import Derived.Test.YtpfljooceppcbaaDoorPtClash2
import Derived.Test.YtpfljooceppcbaaDoorPtRemove
import Derived.Laws.ResultCell
namespace Go.Proofs.YtpfljooceppcbaaDoor
open Go.RowKit
open SE (Ent)
open PM (str)
open PT (blk ids set cut kidPairs lies Agrees segs)
set_option linter.unusedVariables false
set_option maxRecDepth 100000
/-- The tree of an empty set. -/
def bare (b : Nat) : Tr := fun q => if q = [] then some ⟨b, none, 0, [], none, []⟩ else none
theorem bare_root (b : Nat) : bare b [] = some ⟨b, none, 0, [], none, []⟩ := if_pos rfl
theorem bare_else {b : Nat} {q : Way} (h : q ≠ []) : bare b q = none := if_neg h
def bareOwn (b : Nat) : Owner := fun x => if x = b then some ([], 0) else none
theorem bare_tree {w : World} {b : Nat} (h : Whole w b 49 #[.slice none 0 0, .map none]) : TreeAt w (bare b) (bareOwn b) := by
  refine ⟨by rw [bare_root]; rfl, fun p s h1 => ?_, fun p h1 => ?_, fun p n hn => ?_, fun x t e => ?_⟩
  · rw [bare_else (by simp)] at h1; cases h1
  · by_cases e : p = []
    · rw [e]; exact Nat.zero_le _
    · rw [bare_else e] at h1; cases h1
  · by_cases e : p = []
    · subst e
      rw [bare_root] at hn
      cases hn
      exact ⟨h, ⟨rfl, .inl ⟨rfl, rfl⟩⟩, fun _ => rfl, (fun mb e => by cases e), List.nodup_nil, (fun s => by rw [bare_else (by simp)]; simp), if_pos rfl, (fun ad e => by cases e), (fun mb e => by cases e)⟩
    · rw [bare_else e] at hn; cases hn
  · unfold bareOwn at e
    split at e
    · rename_i hx; rw [hx]; exact h.lt
    · cases e
set_option maxHeartbeats 2000000 in
theorem New_any (w : World) : Calls Tryd.prog 7 #[] w fun e w' => e = .returned (.pointer (some ⟨w.heap.size + 1 + 1, 0, none⟩)) ∧ SetAt w' (w.heap.size + 1 + 1) [] (bare (w.heap.size + 1)) (bareOwn (w.heap.size + 1)) w.heap.size [] ∧ Below w.heap.size w w' ∧ w'.heap.size = w.heap.size + 3 := by
  have hmm := @run_makeMap Tryd.prog
  have hz := fun w : World => Tryd.zeroValue49 w
  have hz2 := fun w : World => Tryd.zeroValue51 w
  go_enter Tryd.func7, Tryd.ntmps7
  go_wp2_with fail
  go_ret
  have hW : Whole (((w.alloc (.map #[] 0)).alloc (.cells #[.slice none 0 0, .map none] 49)).alloc (.cells #[.map (some w.heap.size), .pointer (some ⟨w.heap.size + 1, 0, none⟩)] 51)) (w.heap.size + 1) 49 #[.slice none 0 0, .map none] := by
    have := (Whole.new (w.alloc (.map #[] 0)) 49 #[.slice none 0 0, .map none]).alloc (.cells #[.map (some w.heap.size), .pointer (some ⟨w.heap.size + 1, 0, none⟩)] 51)
    rw [World.size_alloc] at this
    exact this
  refine ⟨rfl, ⟨bare_tree hW, ?_, ?_, List.Perm.refl _, fun q => ?_, SE.Inv.nil, by simp, ?_, ?_, by omega⟩, (((Below.refl _ w).alloc (Nat.le_refl _) _).alloc (by simp) _).alloc (by simp; omega) _, by rw [World.size_alloc, World.size_alloc, World.size_alloc]⟩
  · have := Whole.new ((w.alloc (.map #[] 0)).alloc (.cells #[.slice none 0 0, .map none] 49)) 51 #[.map (some w.heap.size), .pointer (some ⟨w.heap.size + 1, 0, none⟩)]
    rw [World.size_alloc, World.size_alloc] at this
    rw [PT.blk_some (bare_root _)]
    exact this
  · have h1 := MapAt.new w (.int .i64)
    exact (h1.below ((Below.refl _ _).alloc (Nat.le_refl _) _)).below ((Below.refl _ _).alloc (Nat.le_refl _) _)
  · have : ids (bare (w.heap.size + 1)) q = [] := by
      by_cases e : q = []
      · subst e; rw [PT.ids_some (bare_root _)]
      · rw [PT.ids_none (bare_else e)]
    rw [this]
    exact List.Perm.refl _
  · exact if_neg (by omega)
  · exact if_neg (by omega)
section
variable {g M : Nat} {L D : List Ent} {T : Tr} {own : Owner}
theorem Len_set (w : World) (hS : SetAt w g L T own M D) : Calls Tryd.prog 16 #[.pointer (some ⟨g, 0, none⟩)] w fun e w' => e = .returned (.int .i64 (L.length : Int)) ∧ w' = w := by
  have c0 := hS.cell0
  have hlen := fun ty => hS.map.len (P := Tryd.prog) Tryd.underlying45 ty
  have hl : (entPairs D).length = L.length := by
    unfold entPairs
    rw [List.length_map, hS.perm.length_eq]
  rw [hl] at hlen
  clear hS hl
  go_enter Tryd.func16, Tryd.ntmps16
  go_wp2_with fail
  go_ret
  exact ⟨rfl, rfl⟩
theorem Len_nil (w : World) : Calls Tryd.prog 16 #[.pointer none] w fun e w' => e = .returned (.int .i64 0) ∧ w' = w := by
  go_enter Tryd.func16, Tryd.ntmps16
  go_wp2_with fail
  go_ret
  exact ⟨rfl, rfl⟩
theorem SetAt.find (w : World) (hS : SetAt w g L T own M D) (id : Int) : (Instr.lookup 45 (.map (some M)) (.int .i64 id) true).run Tryd.prog w = .ok (.tuple #[agg (getE L id), .bool (SE.has L id)]) w := by
  cases h : SE.has L id with
  | true =>
    obtain ⟨e, he, rfl⟩ := SE.has_iff.1 h
    rw [getE_of hS.inv.ids he]
    exact hS.look he true
  | false =>
    have hn := SE.has_no h
    have : getE L id = noEnt := by
      unfold getE
      have : L.find? (fun e => decide (e.id = id)) = none := List.find?_eq_none.2 fun x hx => by simpa using hn x hx
      rw [this]; rfl
    rw [this]
    exact hS.look_none hn true
set_option maxHeartbeats 2000000 in
theorem Get_set (w : World) (hS : SetAt w g L T own M D) (id : Int) : Calls Tryd.prog 17 #[.pointer (some ⟨g, 0, none⟩), .int .i64 id] w fun e w' => e = .returned (.tuple #[agg (getE L id), .bool (SE.has L id)]) ∧ Below w.heap.size w w' := by
  have hz := fun w : World => Tryd.zeroValue25 w
  have HB := Lib.hid (fun o => (Below.refl w.heap.size w).alloc (Nat.le_refl _) o)
  have HS1 := Lib.hid (fun o => hS.below (HB.out o))
  have HF := Lib.hid (fun o => SetAt.find _ (hS.below (HB.out o)) id)
  have hc := fun o => (hS.below (HB.out o)).cell0
  clear hS
  generalize getE L id = x at *
  unfold agg at *
  go_enter Tryd.func17, Tryd.ntmps17
  go_wp2_with (at_lookup; refine wp_look rfl _ _ _ _ rfl _ _ _ rfl rfl (HF.out _) ?_)
  refine bodyPost_ret (v := .tuple #[.agg #[.int .i64 x.id, .string x.path, .int .i64 x.mode, .int .i64 x.who], .bool (SE.has L id)]) ?_ rfl ?_
  · rw [results_cell_tmp rfl]
    go_simp
  · exact ⟨rfl, ((Below.refl w.heap.size w).alloc (Nat.le_refl _) _).alloc (by simp) _⟩
set_option maxHeartbeats 2000000 in
theorem Get_nil (w : World) (id : Int) : Calls Tryd.prog 17 #[.pointer none, .int .i64 id] w fun e w' => e = .returned (.tuple #[agg noEnt, .bool false]) ∧ Below w.heap.size w w' := by
  have hz := fun w : World => Tryd.zeroValue25 w
  go_enter Tryd.func17, Tryd.ntmps17
  go_wp2_with fail
  refine bodyPost_ret (v := .tuple #[agg noEnt, .bool false]) ?_ rfl ?_
  · rw [results_cell_tmp rfl]
    unfold agg noEnt
    go_simp
    try rfl
  · exact ⟨rfl, (Below.refl w.heap.size w).alloc (Nat.le_refl _) _⟩
/-- What Put leaves of a set. -/
def PutSet (w : World) (g : Nat) (own : Owner) (M : Nat) (L' : List Ent) (w' : World) : Prop :=
  ∃ T' own' D', SetAt w' g L' T' own' M D' ∧ (∀ F, Of own F → g ∈ F → M ∈ F → Mod F w w') ∧ Longer w own own'
theorem PutSet.same {w w' : World} {g M : Nat} {L D : List Ent} {T : Tr} {own : Owner} (hS : SetAt w g L T own M D) (hb : Below w.heap.size w w') : PutSet w g own M L w' :=
  ⟨T, own, D, hS.below hb, fun F _ _ _ => Mod.of_below hb F, Longer.refl w own⟩
set_option maxHeartbeats 4000000 in
theorem Put_bad (w : World) (hS : SetAt w g L T own M D) (e : Ent) (hE : Fair e) (hx : HasMax w) (ho : PM.okB (SE.p e) = false) : Calls Tryd.prog 8 #[.pointer (some ⟨g, 0, none⟩), agg e] w fun x w' => x = .returned (.int .i64 10) ∧ Below w.heap.size w w' := by
  have hB := (Below.refl w.heap.size w).alloc (Nat.le_refl _) (.cells (four e).toArray 25)
  have HSP := Lib.hid (fun W => Split_no e.path W (by have := hE.2.1; omega) ho)
  have hz := fun w : World => Tryd.zeroValue25 w
  have hS1 := hS.below hB
  have c0 := hS1.cell0
  have hf : (Instr.lookup 45 (.map (some M)) (.int .i64 e.id) true).run Tryd.prog (w.alloc (.cells (four e).toArray 25)).drew = .ok (.tuple #[agg (getE L e.id), .bool (SE.has L e.id)]) (w.alloc (.cells (four e).toArray 25)).drew := SetAt.find _ (hS1.mod ((Mod.refl [] _).drew) (by simp)) e.id
  have HB := Lib.hid hB
  have hS2 := hS1.below ((Below.refl _ _).alloc (Nat.le_refl _) (.cells #[.int .i64 0, .string ⟨#[]⟩, .int .i64 0, .int .i64 0] 25))
  have c0b := hS2.cell0
  have hfb : (Instr.lookup 45 (.map (some M)) (.int .i64 e.id) true).run Tryd.prog ((w.alloc (.cells (four e).toArray 25)).alloc (.cells #[.int .i64 0, .string ⟨#[]⟩, .int .i64 0, .int .i64 0] 25)).drew = .ok (.tuple #[agg (getE L e.id), .bool (SE.has L e.id)]) ((w.alloc (.cells (four e).toArray 25)).alloc (.cells #[.int .i64 0, .string ⟨#[]⟩, .int .i64 0, .int .i64 0] 25)).drew := SetAt.find _ (hS2.mod ((Mod.refl [] _).drew) (by simp)) e.id
  clear hS hS1 hE ho hB hx hS2
  generalize getE L e.id = x at *
  unfold agg four at *
  go_enter Tryd.func8, Tryd.ntmps8
  go_wp2_with fail
  refine (HSP.out _).mono ?_
  rintro e1 w1 ⟨rfl, rfl⟩
  go_wp2_with fail
  go_region
  all_goals
    go_wp2_with fail
    go_ret
    exact ⟨rfl, (HB.out.trans ((Below.refl w.heap.size _).alloc HB.out.size _)).drew⟩
/-- Split at a path: its segments lie in a block of the call's own. -/
theorem Split_new (s : ByteArray) (w : World) (hw : HasMax w) (h : PM.okB s.data.toList = true) :
    Calls Tryd.prog 18 #[.string s] w fun e w' => ∃ A c, e = .returned (.tuple #[.slice A (PM.segsOf s.data.toList).length c, .int .i64 0]) ∧ StrsAt w' A c (PM.segsOf s.data.toList) ∧ Below w.heap.size w w' ∧ (∀ ad, A = some ad → w.heap.size ≤ ad.block) ∧ c ≤ 4 := by
  by_cases h0 : s.toList = []
  · refine (Split_nil s w h0 h).mono ?_
    rintro e w' ⟨rfl, rfl⟩
    have : PM.segsOf s.data.toList = [] := by rw [PM.segsOf_nil_iff, ← Lib.toList_data, h0]
    rw [this]
    exact ⟨none, 0, rfl, StrsAt.nil _ _ _, Below.refl _ _, fun _ e => (by cases e), by omega⟩
  · refine (Split_some s w hw (by simpa using h0) h).mono ?_
    rintro e w' ⟨rfl, rfl⟩
    have : PM.segsOf s.data.toList = PM.pcs [] s.data.toList := by
      unfold PM.segsOf
      rw [if_neg (by rw [← Lib.toList_data]; exact h0)]
    have hl : (PM.segsOf s.data.toList).length ≤ 4 := by
      have := h
      rw [PM.okB_segs] at this
      simp only [PM.segsB, Bool.and_eq_true, decide_eq_true_eq] at this
      exact this.1
    rw [this] at hl ⊢
    exact ⟨_, _, rfl, StrsAt.new _ _ _ (Nat.le_refl _), (Below.refl _ _).alloc (Nat.le_refl _) _, (fun ad h => by cases h; exact Nat.le_refl _), hl⟩
theorem EntCells.on {w w' : World} {b : Nat} {e : Ent} (h : EntCells w b 0 e) (hb : b < w.heap.size) (hw : Below w.heap.size w w') : EntCells w' b 0 e := h.below hb hw
theorem Inv.put_in {L : List Ent} {e : Ent} (h : SE.Inv L) (h1 : PM.okB (SE.p e) = true) (h2 : SE.okMode e.mode = true) (h3 : SE.has L e.id = false) (h4 : ¬ L.length = 64) : SE.Inv (SE.ins L e) := by
  have := h.put e
  rw [Go.Proofs.YtpfljooceppcbaaDoor.put_in h1 h2 h3 h4] at this
  exact this
theorem put_end {w w2 w3 w5 : World} {g M : Nat} {L D : List Ent} {T T5 : Tr} {own own5 : Owner} {e : Ent} (hS : SetAt w g L T own M D) (hb2 : Below w.heap.size w w2) (hh : SE.has L e.id = false) (ho : PM.okB (SE.p e) = true) (hm : SE.okMode e.mode = true) (hf : ¬ L.length = 64) (hE : Fair e)
    (hmod : Mod [M] w2 w3) (hT3 : TreeAt w3 T own) (hW3 : Whole w3 g 51 #[.map (some M), .pointer (some ⟨blk T [], 0, none⟩)]) (hM3 : MapAt w3 M (.int .i64) (entPairs D ++ [(.int .i64 e.id, agg e)]))
    (k1 : TreeAt w5 T5 own5) (k2 : Turned w3 own w5) (k3 : Longer w3 own own5) (k4 : blk T5 [] = blk T []) (k5 : ∀ q, ids T5 q = if q = PM.segsOf e.path.data.toList then ids T (PM.segsOf e.path.data.toList) ++ [e.id] else ids T q) :
    PutSet w g own M (SE.ins L e) w5 := by
  have hglt := hS.cells.lt
  have hMlt := hS.map.lt
  have hsz : w.heap.size ≤ w3.heap.size := Nat.le_trans hb2.size hmod.size
  have keep : ∀ b, b < w.heap.size → own b = none → w5.heap[b]? = w3.heap[b]? := fun b hb hn => k2.block hT3 (Nat.lt_of_lt_of_le hb hsz) hn
  have new : ∀ b, b < w.heap.size → own b = none → own5 b = none := fun b hb hn => by
    cases h : own5 b with
    | none => rfl
    | some t =>
      rcases k3.new b t h with h1 | h1
      · rw [hn] at h1; cases h1
      · omega
  have hinv := (Inv.put_in hS.inv ho hm hh hf)
  refine ⟨T5, own5, D ++ [e], ⟨k1, ?_, ?_, ?_, fun q => ?_, hinv, fun x hx => ?_, new g hglt hS.own3, new M hMlt hS.own4, hS.gM⟩, fun F hF hgF hMF => ?_, ?_⟩
  · rw [k4]
    exact (keep g hglt hS.own3).trans hW3
  · have : entPairs (D ++ [e]) = entPairs D ++ [(.int .i64 e.id, agg e)] := by
      unfold entPairs
      rw [List.map_append]; rfl
    rw [this]
    exact hM3.of_block (keep M hMlt hS.own4)
  · refine List.Perm.trans ?_ (SE.ins_perm L e).symm
    exact (hS.perm.append_right [e]).trans (List.perm_append_comm)
  · have hp := ((SE.ins_perm L e).filter (fun x => decide (segs x = q))).map (·.id)
    refine List.Perm.trans ?_ hp.symm
    rw [k5 q]
    by_cases hq : q = PM.segsOf e.path.data.toList
    · subst hq
      rw [if_pos rfl, List.filter_cons_of_pos (by unfold PT.segs SE.p; simp), List.map_cons]
      exact ((hS.agree _).append_right [e.id]).trans (List.perm_append_comm)
    · rw [if_neg hq, List.filter_cons_of_neg (by
        intro h
        have h1 : segs e = q := by simpa using h
        exact hq h1.symm)]
      exact hS.agree q
  · rcases SE.ins_mem.1 hx with h | h
    · rw [h]; exact hE
    · exact hS.fair x h
  · refine ((Mod.of_below hb2 F).trans hmod (fun x hx => ?_)).trans (k2 (g :: M :: F) (fun b t h => List.mem_cons_of_mem _ (List.mem_cons_of_mem _ (hF b t h)))) (fun x hx => ?_)
    · rw [List.mem_singleton.1 hx]; exact .inl hMF
    · rcases List.mem_cons.1 hx with h | h
      · rw [h]; exact .inl hgF
      · rcases List.mem_cons.1 h with h | h
        · rw [h]; exact .inl hMF
        · exact .inl h
  · exact ⟨k3.old, fun b t h => by
      rcases k3.new b t h with h1 | h1
      · exact .inl h1
      · exact .inr (Nat.le_trans hsz h1)⟩
theorem StrsAt.grown {w w' : World} {A : Option Addr} {c : Nat} {xs : Way} {row : Option Nat} (h : StrsAt w A c xs) (hg : w.grownBy w' row) (hn : ∀ ad, A = some ad → some ad.block ≠ row) : StrsAt w' A c xs :=
  ⟨h.1, fun h0 => by
    obtain ⟨b, o, e, hlt, hc⟩ := h.2 h0
    exact ⟨b, o, e, Nat.lt_of_lt_of_le hlt hg.size, fun j x hx => (World.cell?_of_block (w := w) (a := ⟨b, o + j, none⟩) (hg.block b hlt (hn _ e))).trans (hc j x hx)⟩⟩
set_option maxHeartbeats 8000000 in
theorem Put_ok (w : World) (hS : SetAt w g L T own M D) (e : Ent) (hE : Fair e) (hx : HasMax w) (ho : PM.okB (SE.p e) = true) : Calls Tryd.prog 8 #[.pointer (some ⟨g, 0, none⟩), agg e] w fun x w' => x = .returned (.int .i64 (SE.put L e).2) ∧ PutSet w g own M (SE.put L e).1 w' := by
  have hB := (Below.refl w.heap.size w).alloc (Nat.le_refl _) (.cells (four e).toArray 25)
  have HSP := Lib.hid (Split_new e.path _ (hx.below hB) ho)
  have hz := fun w : World => Tryd.zeroValue25 w
  have HB := Lib.hid hB
  have HS := Lib.hid hS
  have HO := Lib.hid ho
  have HBX := Lib.hid (fun w2 => boxed (w := w) (w2 := w2) e)
  have HMODE := Lib.hid (fun W => isMode_any e.mode W)
  clear hS ho hB hx
  unfold agg
  unfold four at *
  go_enter Tryd.func8, Tryd.ntmps8
  go_wp2_with fail
  refine HSP.out.mono ?_
  rintro e1 w1 ⟨A, c, rfl, hst, hb, hnew, hc4⟩
  have HNEW := Lib.hid (show ∀ ad, A = some ad → w.heap.size ≤ ad.block from fun ad e => Nat.le_trans HB.out.size (hnew ad e))
  clear hnew
  obtain ⟨hxc, hbw, hlt⟩ := HBX.out w1 hb
  have HX1 := Lib.hid hxc; have HBW := Lib.hid hbw; have HLT := Lib.hid hlt; have HST := Lib.hid hst
  have hS1 := HS.out.below hbw
  have c0 := hS1.cell0
  have hS2 := hS1.below ((Below.refl _ _).alloc (Nat.le_refl _) (.cells #[.int .i64 0, .string ⟨#[]⟩, .int .i64 0, .int .i64 0] 25))
  have c0b := hS2.cell0
  have hf : (Instr.lookup 45 (.map (some M)) (.int .i64 e.id) true).run Tryd.prog w1.drew = .ok (.tuple #[agg (getE L e.id), .bool (SE.has L e.id)]) w1.drew := SetAt.find _ (hS1.mod ((Mod.refl [] _).drew) (by simp)) e.id
  have hfb : (Instr.lookup 45 (.map (some M)) (.int .i64 e.id) true).run Tryd.prog (w1.alloc (.cells #[.int .i64 0, .string ⟨#[]⟩, .int .i64 0, .int .i64 0] 25)).drew = .ok (.tuple #[agg (getE L e.id), .bool (SE.has L e.id)]) (w1.alloc (.cells #[.int .i64 0, .string ⟨#[]⟩, .int .i64 0, .int .i64 0] 25)).drew := SetAt.find _ (hS2.mod ((Mod.refl [] _).drew) (by simp)) e.id
  obtain ⟨x0, _, _, _⟩ := hxc
  have hxb := (HX1.out.on hlt ((Below.refl _ w1).alloc (Nat.le_refl _) (.cells #[.int .i64 0, .string ⟨#[]⟩, .int .i64 0, .int .i64 0] 25))).1
  have HRN := Lib.hid (fun o => (show Below w.heap.size w (w1.alloc o).drew from (hbw.trans ((Below.refl w.heap.size w1).alloc hbw.size _)).drew))
  have HXN := Lib.hid (fun o => (show EntCells (w1.alloc o).drew w.heap.size 0 e from (HX1.out.on hlt ((Below.refl _ w1).alloc (Nat.le_refl _) o).drew)))
  have HLN := Lib.hid (fun o => (show w.heap.size < (w1.alloc o).drew.heap.size by show w.heap.size < (w1.alloc o).heap.size; rw [World.size_alloc]; omega))
  have HSTN := Lib.hid (fun o => (show StrsAt (w1.alloc o).drew A c (PM.segsOf e.path.data.toList) from (hst.below ((Below.refl _ w1).alloc (Nat.le_refl _) o).drew)))
  clear hb hbw hlt hst hS1 hS2
  generalize getE L e.id = x at hf hfb
  unfold agg at hf hfb
  have hxb' : (w1.alloc (.cells #[.int .i64 0, .string ⟨#[]⟩, .int .i64 0, .int .i64 0] 25)).cell? ⟨w.heap.size, 0, none⟩ = some (.int .i64 e.id) := hxb
  go_wp2_with fail
  go_region
  all_goals
    have HB2 := Lib.hid (HRN.out (.cells #[.int .i64 x.id, .string x.path, .int .i64 x.mode, .int .i64 x.who] 25))
    have HX2 := Lib.hid (HXN.out (.cells #[.int .i64 x.id, .string x.path, .int .i64 x.mode, .int .i64 x.who] 25))
    have HL2 := Lib.hid (HLN.out (.cells #[.int .i64 x.id, .string x.path, .int .i64 x.mode, .int .i64 x.who] 25))
    have HST2 := Lib.hid (HSTN.out (.cells #[.int .i64 x.id, .string x.path, .int .i64 x.mode, .int .i64 x.who] 25))
    clear c0 c0b hf hfb x0 hxb hxb' HRN HXN HLN HSTN
    generalize (w1.alloc (.cells #[.int .i64 x.id, .string x.path, .int .i64 x.mode, .int .i64 x.who] 25)).drew = w2 at *
    obtain ⟨y0, y1, y2, y3⟩ := HX2.out
    rw [Nat.zero_add] at y1 y2 y3
    have hS2 := HS.out.below HB2.out
    have d0 := hS2.cell0
    have hlen := fun ty => hS2.map.len (P := Tryd.prog) Tryd.underlying45 ty
    have hll : (entPairs D).length = L.length := by
      unfold entPairs
      rw [List.length_map, HS.out.perm.length_eq]
    rw [hll] at hlen
    have HLEN := Lib.hid hlen
    have h64 := HS.out.inv.len
    clear hS2 hll hlen
    cases hm : SE.okMode e.mode with
    | false =>
      rw [hm] at HMODE
      have HPE := Lib.hid (put_mode (l := L) (e := e) HO.out hm)
      go_wp2_with fail
      refine (HMODE.out _).mono ?_
      rintro e3 w3 ⟨rfl, rfl⟩
      go_wp2_with fail
      go_ret
      exact (by rw [HPE.out]; exact ⟨rfl, PutSet.same HS.out HB2.out⟩)
    | true =>
      rw [hm] at HMODE
      cases hh : SE.has L e.id with
      | true =>
        have HPE := Lib.hid (put_twice (l := L) (e := e) HO.out hm hh)
        go_wp2_with fail
        refine (HMODE.out _).mono ?_
        rintro e3 w3 ⟨rfl, rfl⟩
        go_wp2_with fail
        go_ret
        exact (by rw [HPE.out]; exact ⟨rfl, PutSet.same HS.out HB2.out⟩)
      | false =>
        by_cases hf : L.length = 64
        · have HPE := Lib.hid (put_full (l := L) (e := e) HO.out hm hh hf)
          have hge : (64 : Int) ≤ (L.length : Int) := by omega
          have hlen := HLEN.out
          go_wp2_with fail
          refine (HMODE.out _).mono ?_
          rintro e3 w3 ⟨rfl, rfl⟩
          go_wp2_with fail
          go_ret
          exact (by rw [HPE.out]; exact ⟨rfl, PutSet.same HS.out HB2.out⟩)
        · have HPE := Lib.hid (put_in (l := L) (e := e) HO.out hm hh hf)
          have hge : ¬ (64 : Int) ≤ (L.length : Int) := by omega
          have hlen := HLEN.out
          have d1 := (HS.out.below HB2.out).cell1
          have hS2 := HS.out.below HB2.out
          have hMlt : M < w.heap.size := HS.out.map.lt
          have hglt : g < w.heap.size := HS.out.cells.lt
          have hMA : MapAt w2.drew M (.int .i64) (entPairs D) := hS2.map
          obtain ⟨w3, hupd, hM3, hg3, hs3⟩ := hMA.store (P := Tryd.prog) Tryd.underlying45 Tryd.underlying3 (key_int e.id) (entPairs_no fun x hx => SE.has_no hh x (HS.out.perm.mem_iff.1 hx)) (agg e)
          have hb3 : ∀ b, b ≠ M → b < w2.heap.size → w3.heap[b]? = w2.heap[b]? := fun b hb hlt => hg3.block b hlt (fun e => hb (Option.some.inj e))
          have z0 : w3.drew.cell? ⟨w.heap.size, 0, none⟩ = some (.int .i64 e.id) := (World.cell?_of_block (w := w2) (a := ⟨w.heap.size, 0, none⟩) (hb3 w.heap.size (by omega) HL2.out)).trans y0
          have z1 : w3.drew.cell? ⟨g, 1, none⟩ = some (.pointer (some ⟨blk T [], 0, none⟩)) := (World.cell?_of_block (w := w2) (a := ⟨g, 1, none⟩) (hb3 g HS.out.gM (Nat.lt_of_lt_of_le hglt HB2.out.size))).trans d1
          have hmod : Mod [M] w2 w3.drew := ((Mod.refl [M] w2).drew.grown hg3 (fun k hk => .inl (by cases hk; simp))).drew
          have hT3 : TreeAt w3.drew T own := hS2.tree.mod hmod (fun b hb => by rw [List.mem_singleton.1 hb]; exact HS.out.own4)
          have hW3 : Whole w3.drew g 51 #[.map (some M), .pointer (some ⟨blk T [], 0, none⟩)] := hmod.whole hS2.cells (fun hm => HS.out.gM (List.mem_singleton.1 hm))
          have hM3' : MapAt w3.drew M (.int .i64) (entPairs D ++ [(.int .i64 e.id, agg e)]) := hM3
          have hst3 : StrsAt w3.drew A c (PM.segsOf e.path.data.toList) := HST2.out.grown (w' := w3.drew) (row := some M) ⟨hg3.os, hg3.tape, hg3.output, hg3.size, hg3.block⟩ (fun ad e2 e3 => by have := HNEW.out ad e2; have := Option.some.inj e3; omega)
          have hsl : (PM.segsOf e.path.data.toList).length ≤ 4 := by
            have := HO.out
            rw [PM.okB_segs] at this
            simp only [PM.segsB, Bool.and_eq_true, decide_eq_true_eq] at this
            exact this.1
          have hwsz : w.heap.size ≤ w3.drew.heap.size := by
            show w.heap.size ≤ w3.heap.size
            have h1 := hg3.size
            have h2 := HB2.out.size
            exact Nat.le_trans h2 h1
          have hfree : ∀ b, w.heap.size ≤ b → own b = none := fun b hb => HS.out.tree.fresh hb
          have HADD := Lib.hid (show Calls Tryd.prog 20 #[.pointer (some ⟨blk T [], 0, none⟩), .slice A (PM.segsOf e.path.data.toList).length c, .int .i64 e.id] w3.drew (fun x w' => Added w3.drew T own (PM.segsOf e.path.data.toList) e.id x w' ∧ w'.cell? ⟨g, 1, none⟩ = some (.pointer (some ⟨blk T [], 0, none⟩)) ∧ w'.cell? ⟨w.heap.size, 0, none⟩ = some (.int .i64 e.id)) from by
            refine (add_any w3.drew T own hT3 A c _ e.id hsl hst3 (fun ad e2 => hfree _ (HNEW.out ad e2)) hc4 ?_).mono ?_
            · have := (HS.out.agree (PM.segsOf e.path.data.toList)).length_eq
              rw [List.length_map] at this
              have h3 := List.length_filter_le (fun x => decide (segs x = PM.segsOf e.path.data.toList)) L
              omega
            · intro x w' hA
              refine ⟨hA, ?_⟩
              obtain ⟨_, _, _, _, k2, _⟩ := hA
              exact ⟨(World.cell?_of_block (k2.block hT3 (Nat.lt_of_lt_of_le hglt hwsz) HS.out.own3)).trans z1, (World.cell?_of_block (k2.block hT3 (Nat.lt_of_lt_of_le HL2.out hg3.size) (hfree _ (Nat.le_refl _)))).trans z0⟩)
          have HMOD := Lib.hid hmod; have HT3 := Lib.hid hT3; have HW3 := Lib.hid hW3; have HM3 := Lib.hid hM3'; have HMLT := Lib.hid hMlt; have HGLT := Lib.hid hglt; have HWSZ := Lib.hid hwsz; have HZ0 := Lib.hid z0; have HZ1 := Lib.hid z1
          clear hS2 hMA hM3 hg3 hs3 hb3 hmod hT3 hW3 hM3' hst3 hfree hMlt hglt hwsz hsl
          unfold agg at hupd
          go_wp2_with fail
          refine (HMODE.out _).mono ?_
          rintro e3 w4 ⟨rfl, rfl⟩
          go_wp2_with fail
          go_region
          go_wp2_with fail
          go_region_held3 (fun w' => w'.cell? ⟨g, 1, none⟩ = some (.pointer (some ⟨blk T [], 0, none⟩)) ∧ w'.cell? ⟨w.heap.size, 0, none⟩ = some (.int .i64 e.id))
            (first
              | (go_keep; done)
              | exact HSK)
            (first
              | (go_at_call 20; refine HADD.out.mono ?_; rintro x5 w5 ⟨⟨T5, own5, rfl, k1, k2, k3, k4, k5⟩, HSK⟩; have HT5 := Lib.hid k1; have H2 := Lib.hid k2; have H3 := Lib.hid k3; have H4 := Lib.hid k4; have H5 := Lib.hid k5; clear k1 k2 k3 k4 k5))
          go_wp2_with fail
          go_ret
          rw [HPE.out]
          refine ⟨rfl, ?_⟩
          exact put_end HS.out HB2.out hh HO.out hm hf hE HMOD.out HT3.out HW3.out HM3.out HT5.out H2.out H3.out H4.out H5.out
theorem drop_none {L : List Ent} {id : Int} (h : SE.has L id = false) : SE.drop L id = L := List.filter_eq_self.2 fun x hx => by simpa using SE.has_no h x hx
theorem entPairs_split {D : List Ent} {l1 l2 : List (Value × Value)} {e : Ent} (h : entPairs D = l1 ++ (.int .i64 e.id, agg e) :: l2) : ∃ D1 x D2, D = D1 ++ x :: D2 ∧ x.id = e.id ∧ entPairs (D1 ++ D2) = l1 ++ l2 := by
  unfold entPairs at h
  obtain ⟨a, b, hab, ha, hb⟩ := List.map_eq_append_iff.1 h
  obtain ⟨x, r, hxr, hx, hr⟩ := List.map_eq_cons_iff.1 hb
  refine ⟨a, x, r, by rw [hab, hxr], ?_, by unfold entPairs; rw [List.map_append, ha, hr]⟩
  have := congrArg Prod.fst hx
  simp only at this
  injection this
theorem drop_end {w w3 w4 w5 : World} {g M : Nat} {L D : List Ent} {T T4 : Tr} {own : Owner} {e : Ent} {l1 l2 : List (Value × Value)} (hS : SetAt w g L T own M D) (hb3 : Below w.heap.size w w3) (he : e ∈ L) (hT3 : TreeAt w3 T own)
    (k1 : TreeAt w4 T4 own) (k2 : Turned w3 own w4) (k3 : blk T4 [] = blk T []) (k5 : ∀ q, ids T4 q = if q = segs e then (ids T q).filter (fun x => decide (x ≠ e.id)) else ids T q)
    (hl : entPairs D = l1 ++ (.int .i64 e.id, agg e) :: l2) (hM5 : MapAt w5 M (.int .i64) (l1 ++ l2)) (hg5 : w4.grownBy w5 (some M)) : PutSet w g own M (SE.drop L e.id) w5 := by
  have hglt := hS.cells.lt
  have hMlt := hS.map.lt
  have hm5 : Mod [M] w4 w5 := (Mod.refl [M] w4).grown hg5 (fun k hk => .inl (by cases hk; simp))
  obtain ⟨D1, x, D2, hD, hxid, hD12⟩ := entPairs_split hl
  have hnd := hS.ids
  rw [hD, List.map_append, List.map_cons] at hnd
  have hnd2 := List.nodup_append.1 hnd
  have hne1 : ∀ y ∈ D1, y.id ≠ e.id := fun y hy h => hnd2.2.2 y.id (List.mem_map.2 ⟨y, hy, rfl⟩) x.id (by simp) (by rw [hxid, h])
  have hne2 : ∀ y ∈ D2, y.id ≠ e.id := fun y hy h => (List.nodup_cons.1 hnd2.2.1).1 (List.mem_map.2 ⟨y, hy, by rw [hxid, h]⟩)
  have hdp : (D1 ++ D2).Perm (SE.drop L e.id) := by
    have h1 := hS.perm.filter (fun y => decide (y.id ≠ e.id))
    have h2 : D.filter (fun y => decide (y.id ≠ e.id)) = D1 ++ D2 := by
      rw [hD, List.filter_append, List.filter_cons_of_neg (by rw [hxid]; simp), List.filter_eq_self.2 (fun y hy => by simpa using hne1 y hy), List.filter_eq_self.2 (fun y hy => by simpa using hne2 y hy)]
    rw [h2] at h1
    exact h1
  refine ⟨T4, own, D1 ++ D2, ⟨k1.mod hm5 (fun b hb => by rw [List.mem_singleton.1 hb]; exact hS.own4), ?_, ?_, hdp, fun q => ?_, hS.inv.drop e.id, fun y hy => hS.fair y ((SE.drop_sublist L e.id).subset hy), hS.own3, hS.own4, hS.gM⟩, fun F hF hgF hMF => ?_, Longer.refl w own⟩
  · rw [k3]
    have h3 : Whole w3 g 51 #[.map (some M), .pointer (some ⟨blk T [], 0, none⟩)] := (hS.below hb3).cells
    have h4 : w4.heap[g]? = w3.heap[g]? := k2.block hT3 h3.lt hS.own3
    exact hm5.whole (h4.trans h3) (fun hm => hS.gM (List.mem_singleton.1 hm))
  · rw [hD12]; exact hM5
  · have hf : ((SE.drop L e.id).filter (fun y => decide (segs y = q))).map (·.id) = ((L.filter (fun y => decide (segs y = q))).map (·.id)).filter (fun x => decide (x ≠ e.id)) := by
      unfold SE.drop
      rw [List.filter_filter, List.filter_map, List.filter_filter]
      congr 1
      refine List.filter_congr fun y _ => ?_
      simp only [Function.comp_apply, Bool.and_comm]
    rw [hf, k5 q]
    by_cases hq : q = segs e
    · rw [if_pos hq]
      exact (hS.agree q).filter _
    · rw [if_neg hq]
      rw [List.filter_eq_self.2 fun y hy => ?_]
      · exact hS.agree q
      · obtain ⟨z, hz, rfl⟩ := List.mem_map.1 hy
        obtain ⟨hz1, hz2⟩ := List.mem_filter.1 hz
        have hz3 : segs z = q := by simpa using hz2
        have : z.id ≠ e.id := fun h => by
          have h1 := getE_of hS.inv.ids hz1
          have h2 := getE_of hS.inv.ids he
          rw [h, h2] at h1
          rw [← h1] at hz3
          exact hq hz3.symm
        simpa using this
  · refine ((Mod.of_below hb3 F).trans (k2 F hF) (fun x hx => .inl hx)).trans hm5 (fun x hx => ?_)
    rw [List.mem_singleton.1 hx]; exact .inl hMF
set_option maxHeartbeats 8000000 in
theorem Drop_set (w : World) (hS : SetAt w g L T own M D) (id : Int) (hx : HasMax w) : Calls Tryd.prog 9 #[.pointer (some ⟨g, 0, none⟩), .int .i64 id] w fun x w' => x = .returned (.bool (SE.has L id)) ∧ PutSet w g own M (SE.drop L id) w' := by
  have hz := fun w : World => Tryd.zeroValue25 w
  have HG := Lib.hid (Get_set w hS id)
  have HS := Lib.hid hS
  have HXM := Lib.hid hx
  clear hS hx
  cases hh : SE.has L id with
  | false =>
    rw [drop_none hh]
    rw [hh] at HG
    generalize getE L id = x at HG
    unfold agg at HG
    go_enter Tryd.func9, Tryd.ntmps9
    go_wp2_with fail
    refine HG.out.mono ?_
    rintro e w1 ⟨rfl, hb⟩
    have HB := Lib.hid hb; clear hb
    go_wp2_with fail
    go_ret
    exact ⟨rfl, PutSet.same HS.out (HB.out.alloc HB.out.size _)⟩
  | true =>
    obtain ⟨e, he, rfl⟩ := SE.has_iff.1 hh
    rw [hh, getE_of HS.out.inv.ids he] at HG
    have ho := HS.out.inv.paths e he
    have HSP := Lib.hid (fun W hW => Split_new e.path W (HXM.out.below hW) ho)
    obtain ⟨r, hr⟩ := Option.isSome_iff_exists.1 HS.out.tree.root
    have HR := Lib.hid hr
    have HBR := Lib.hid (PT.blk_some hr)
    have HE := Lib.hid he
    clear hr ho he hh
    unfold agg at HG
    go_enter Tryd.func9, Tryd.ntmps9
    go_wp2_with fail
    refine HG.out.mono ?_
    rintro e1 w1 ⟨rfl, hb⟩
    have HB := Lib.hid (show Below w.heap.size w (w1.alloc (.cells #[.int .i64 e.id, .string e.path, .int .i64 e.mode, .int .i64 e.who] 25)) from hb.alloc hb.size _); clear hb
    go_wp2_with fail
    refine (HSP.out _ HB.out).mono ?_
    rintro e2 w3 ⟨A, c, rfl, hst, hb3, hnew, hc4⟩
    have HB3 := Lib.hid (show Below w.heap.size w w3 from HB.out.trans (hb3.mono HB.out.size))
    have hS3 := HS.out.below HB3.out
    have c1 := hS3.cell1
    rw [HBR.out] at c1
    have HT3 := Lib.hid hS3.tree
    have HREM := Lib.hid (remove_any (PM.segsOf e.path.data.toList) w3 T own hS3.tree [] r HR.out A c hst (fun ad e => HS.out.tree.fresh (Nat.le_trans HB.out.size (hnew ad e))) hc4 (HS.out.agree.there HE.out) e.id)
    clear hst hb3 hnew hS3
    go_wp2_with fail
    refine HREM.out.mono ?_
    rintro e3 w4 ⟨T4, rfl, k1, k2, k3, k4, k5⟩
    have hM4 : MapAt w4 M (.int .i64) (entPairs D) := (HS.out.below HB3.out).map.of_block (k2.block HT3.out (HS.out.below HB3.out).map.lt HS.out.own4)
    obtain ⟨w5, l1, l2, hdel0, hl, hM5, hg5, hs5⟩ := hM4.drop (P := Tryd.prog) Tryd.underlying45 Tryd.underlying3 (entPairs_keys HS.out.ids) (entPairs_mem (HS.out.perm.mem_iff.2 HE.out)) 0
    have hdel : ∀ ty, (Builtin.delete_ #[45, 3] ty #[.map (some M), .int .i64 e.id]).run Tryd.prog w4 = .ok (.tuple #[]) w5 := fun ty => hdel0
    have hW4 : Whole w4 g 51 #[.map (some M), .pointer (some ⟨blk T [], 0, none⟩)] := (k2.block HT3.out (HS.out.below HB3.out).cells.lt HS.out.own3).trans (HS.out.below HB3.out).cells
    have d0 : w4.cell? ⟨g, 0, none⟩ = some (.map (some M)) := hW4.cell 0
    have HEND := Lib.hid (drop_end HS.out HB3.out HE.out HT3.out k1 k2 ((k4 [] k3).2) (fun q => by rw [k5 q]; rfl) hl hM5 hg5)
    clear k1 k2 k3 k4 k5 hM4 hl hM5 hg5 hs5 hW4 hdel0
    go_wp2_with fail
    go_ret
    exact ⟨rfl, HEND.out⟩
theorem Drop_nil (w : World) (id : Int) : Calls Tryd.prog 9 #[.pointer none, .int .i64 id] w fun x w' => x = .returned (.bool false) ∧ Below w.heap.size w w' := by
  have hz := fun w : World => Tryd.zeroValue25 w
  have HG := Lib.hid (Get_nil w id)
  unfold agg noEnt at HG
  go_enter Tryd.func9, Tryd.ntmps9
  go_wp2_with fail
  refine HG.out.mono ?_
  rintro e w1 ⟨rfl, hb⟩
  have HB := Lib.hid hb; clear hb
  go_wp2_with fail
  go_ret
  exact ⟨rfl, HB.out.alloc HB.out.size _⟩
theorem Put_nil (w : World) (e : Ent) : Calls Tryd.prog 8 #[.pointer none, agg e] w fun x w' => x = .returned (.int .i64 1) ∧ Below w.heap.size w w' := by
  have HB := Lib.hid (fun o => (Below.refl w.heap.size w).alloc (Nat.le_refl _) o)
  unfold agg
  go_enter Tryd.func8, Tryd.ntmps8
  go_wp2_with fail
  go_ret
  exact ⟨rfl, HB.out _⟩
end
end Go.Proofs.YtpfljooceppcbaaDoor
