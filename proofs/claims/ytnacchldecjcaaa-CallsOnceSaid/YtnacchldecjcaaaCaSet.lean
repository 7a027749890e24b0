/- An open call is sent once more, or is over: Again, Close. -/
import Derived.Test.YtnacchldecjcaaaCaLow
namespace Go.Proofs.Ytnacchldecjcaaa
open Go.RowKit
open Go.MapKept Go.ChangeMaps
open CA (Cl St)
set_option linter.unusedVariables false
set_option linter.unusedSimpArgs false
set_option maxRecDepth 100000
theorem row10 {w : World} {g : Nat} {x0 : Cl} (h : ClBlk w g x0) (x : Cl) : ClBlk (w.setRow g (ten x)) g x ∧ Mod [g] w (w.setRow g (ten x)) :=
  ⟨setRow_heap w g _ _ _ _ h, ⟨rfl, rfl, rfl, by simp [World.setRow], fun k _ hn => setRow_other w g k _ (by simpa using hn)⟩⟩
theorem cl_range {w : World} {g : Nat} {x : Cl} (h : ClBlk w g x) : w.rangeAt g 0 (ten x).toList := fun j v hv => by
  rw [Nat.zero_add, h.cell j]
  simpa using hv
theorem map_set {l : List Cl} (hn : (l.map (·.seq)).Nodup) {q : Int} {i : Nat} {x : Cl} (hi : l[i]? = some x) (hx : x.seq = q) (f : Cl → Cl) : l.map (fun y => if y.seq = q then f y else y) = l.set i (f x) := by
  have hil : i < l.length := (List.getElem?_eq_some_iff.1 hi).1
  apply List.ext_getElem?
  intro m
  rw [List.getElem?_map, List.getElem?_set]
  by_cases hm : i = m
  · subst hm
    rw [hi]
    simp [hx, hil]
  · rw [if_neg hm]
    cases hy : l[m]? with
    | none => rfl
    | some y =>
      have hml : m < l.length := (List.getElem?_eq_some_iff.1 hy).1
      have hne : y.seq ≠ q := fun e => hm (by
        have a1 : (l.map (·.seq))[i]'(by simpa using hil) = q := by rw [List.getElem_map, (List.getElem?_eq_some_iff.1 hi).2]; exact hx
        have a2 : (l.map (·.seq))[m]'(by simpa using hml) = q := by rw [List.getElem_map, (List.getElem?_eq_some_iff.1 hy).2]; exact e
        exact (List.getElem_inj hn).1 (a1.trans a2.symm))
      simp [hne]
theorem wrap_rng (n : Int) : In64 (IntKind.i64.wrap n) := by
  unfold In64
  simp only [IntKind.wrap, IntKind.bits, IntKind.signed]
  simp
  split <;> omega
theorem clw_more {x : Cl} (h : ClW x) : ClW (CA.more x) := ⟨h.seq, h.dst, h.verb, h.mode, h.term, h.id, h.sent, wrap_rng _, h.path⟩
section
variable {w w' : World} {g M : Nat} {s : St}
/-- The map has been turned, and nothing else. -/
theorem CallsAt.over (h : CallsAt w g M s) {q : Int} (hh : CA.has s q = true) :
    ∃ w', (Instr.mapUpdate 52 (.map (some M)) (.int .i64 q) (aggC (CA.more (CA.get s q)))).run Try.prog w = .ok () w' ∧ CallsAt w' g M (CA.again s q) ∧ Mod [M] w w' ∧ w'.heap.size = w.heap.size := by
  obtain ⟨hx, e⟩ := CA.get_mem hh
  obtain ⟨i, hi, hg⟩ := List.getElem_of_mem hx
  have hi2 : s.on[i]? = some (CA.get s q) := by rw [List.getElem?_eq_getElem hi, hg]
  have hp : (pairsC s.on)[i]? = some (.int .i64 q, aggC (CA.get s q)) := by unfold pairsC; rw [List.getElem?_map, hi2, ← e]; simp [e]
  obtain ⟨w', h1, h2, h3, h4⟩ := h.map.over (P := Try.prog) Try.underlying52 Try.underlying3 (pairsC_keys h.inv.ids) hp (aggC (CA.more (CA.get s q)))
  have hm : Mod [M] w w' := (Mod.refl [M] w).grown h3 (fun k hk => .inl (by cases hk; simp))
  have he : (CA.again s q).on = s.on.set i (CA.more (CA.get s q)) := map_set h.inv.ids hi2 e CA.more
  refine ⟨w', h1, ⟨hm.whole h.cells (by simpa using h.ne), ?_, h.inv.again q, ?_⟩, hm, h4⟩
  · rw [he]
    unfold pairsC at h2 ⊢
    rw [List.map_set]
    have e2 : (CA.more (CA.get s q)).seq = q := e
    rw [e2]
    exact h2
  · intro x hx2
    rw [he] at hx2
    rcases List.mem_or_eq_of_mem_set hx2 with hx2 | hx2
    · exact h.wide x hx2
    · subst hx2; exact clw_more (h.wide _ hx)
theorem CallsAt.drop (h : CallsAt w g M s) {q : Int} (hh : CA.has s q = true) (ty : TypeId) :
    ∃ w', (Builtin.delete_ #[52, 3] ty #[.map (some M), .int .i64 q]).run Try.prog w = .ok (.tuple #[]) w' ∧ CallsAt w' g M (CA.close s q) ∧ Mod [M] w w' ∧ w'.heap.size = w.heap.size := by
  obtain ⟨hx, e⟩ := CA.get_mem hh
  obtain ⟨w', l1, l2, h1, hl, h2, h3, h4⟩ := h.map.drop (P := Try.prog) Try.underlying52 Try.underlying3 (pairsC_keys h.inv.ids) (pairsC_mem hx) ty
  have hm : Mod [M] w w' := (Mod.refl [M] w).grown h3 (fun k hk => .inl (by cases hk; simp))
  rw [e] at h1 hl
  refine ⟨w', h1, ⟨hm.whole h.cells (by simpa using h.ne), ?_, h.inv.close q, fun x hx2 => h.wide x (List.mem_filter.1 hx2).1⟩, hm, h4⟩
  have hk := pairsC_keys h.inv.ids
  have : pairsC (CA.close s q).on = l1 ++ l2 := by
    unfold pairsC at hl
    obtain ⟨a, b, hab, ha, hb⟩ := List.map_eq_append_iff.1 hl
    obtain ⟨x, r, hxr, hx1, hr⟩ := List.map_eq_cons_iff.1 hb
    have hxq : x.seq = q := by
      have := congrArg Prod.fst hx1
      simp only at this
      injection this
    have hn := h.inv.ids
    rw [hab, hxr, List.map_append, List.map_cons] at hn
    have hn2 := List.nodup_append.1 hn
    unfold CA.close pairsC
    simp only
    rw [hab, hxr, List.filter_append, List.filter_cons_of_neg (by simp [hxq])]
    rw [List.filter_eq_self.2 fun y hy => ?_, List.filter_eq_self.2 fun y hy => ?_]
    · rw [List.map_append, ha, hr]
    · have : y.seq ≠ q := fun e2 => (List.nodup_cons.1 hn2.2.1).1 (List.mem_map.2 ⟨y, hy, by rw [e2, hxq]⟩)
      simpa using this
    · have : y.seq ≠ q := fun e2 => hn2.2.2 y.seq (List.mem_map.2 ⟨y, hy, rfl⟩) x.seq (by simp) (by rw [e2, hxq])
      simpa using this
  rw [this]
  exact h2
end
/-- What a call that may turn the calls leaves. -/
def Turned (w : World) (g M : Nat) (F : List Nat) (s' : St) (w' : World) : Prop := CallsAt w' g M s' ∧ Mod F w w'
section
variable {w : World} {g M : Nat} {s : St}
set_option maxHeartbeats 2000000 in
theorem Again_no (h : CallsAt w g M s) (q : Int) (hh : CA.has s q = false) : Calls Try.prog 11 #[.pointer (some ⟨g, 0, none⟩), .int .i64 q] w fun e w' => e = .returned (.tuple #[aggC CA.zero, .bool false]) ∧ Below w.heap.size w w' := by
  have hz := fun w : World => Try.zeroValue32 w
  have HC := Lib.hid (h.below ((Below.refl _ w).alloc (Nat.le_refl _) (.cells (ten CA.zero) 32)))
  have HX := Lib.hid ((Below.refl _ w).alloc (Nat.le_refl _) (.cells (ten CA.zero) 32))
  have HR := Lib.hid (show ClBlk (w.alloc (.cells (ten CA.zero) 32)) w.heap.size CA.zero from Whole.new w _ _)
  have HG := Lib.hid (Get_any HC.out q)
  rw [hh, CA.get_no hh] at HG
  clear h hh
  rw [show ten CA.zero = #[.int .i64 0, .int .i64 0, .int .i64 0, .string ⟨#[]⟩, .int .i64 0, .int .i64 0, .int .i64 0, .bool false, .int .i64 0, .int .i64 0] from rfl] at HC HX HR HG
  go_enter Try.func11, Try.ntmps11
  go_wp2_with fail
  generalize w.alloc _ = w1 at HC HX HR HG ⊢
  refine HG.out.mono ?_
  rintro e w2 ⟨rfl, hb⟩
  have HX2 := Lib.hid (below_on HX.out hb)
  have HR2 := Lib.hid ((Mod.of_below hb []).whole HR.out (by simp))
  clear hb HX HR HC HG
  unfold aggC
  rw [show ten CA.zero = #[.int .i64 0, .int .i64 0, .int .i64 0, .string ⟨#[]⟩, .int .i64 0, .int .i64 0, .int .i64 0, .bool false, .int .i64 0, .int .i64 0] from rfl]
  have HX3 := Lib.hid (HX2.out.alloc HX2.out.size (.cells #[.int .i64 0, .int .i64 0, .int .i64 0, .string ⟨#[]⟩, .int .i64 0, .int .i64 0, .int .i64 0, .bool false, .int .i64 0, .int .i64 0] 32))
  have HR3 := Lib.hid (show ClBlk (w2.alloc (.cells #[.int .i64 0, .int .i64 0, .int .i64 0, .string ⟨#[]⟩, .int .i64 0, .int .i64 0, .int .i64 0, .bool false, .int .i64 0, .int .i64 0] 32)) w.heap.size CA.zero from HR2.out.alloc _)
  clear HX2 HR2
  go_upto_region 2 with (fail)
  generalize w2.alloc _ = w3 at HX3 HR3 ⊢
  have hrow := row10 HR3.out CA.zero
  have HX4 := Lib.hid (HX3.out.trans (hrow.2.below HX3.out.size (by simp)))
  have HR4 := Lib.hid hrow.1
  clear hrow
  go_wp2_with (refine wpList_store_row rfl 32 (.tmp 4) (.tmp 16) rfl w.heap.size (ten CA.zero) rfl rfl 32 _ HR3.out (by kernel_rfl) rfl (by simp [ten, Value.oneCell']) ?_)
  generalize (World.setRow _ _ _) = w4 at HX4 HR4 ⊢
  obtain ⟨c0, c1, c2, c3, c4, c5, c6, c7, c8, c9⟩ := cl_cells HR4.out
  refine bodyPost_ret (v := .tuple #[.agg (ten CA.zero), .bool false]) ?_ rfl ?_
  · rw [results_cell_tmp rfl]
    go_simp
    try rfl
  · exact ⟨rfl, HX4.out⟩
set_option maxHeartbeats 2000000 in
theorem Close_no (h : CallsAt w g M s) (q : Int) (hh : CA.has s q = false) : Calls Try.prog 10 #[.pointer (some ⟨g, 0, none⟩), .int .i64 q] w fun e w' => e = .returned (.tuple #[aggC CA.zero, .bool false]) ∧ Below w.heap.size w w' := by
  have hz := fun w : World => Try.zeroValue32 w
  have HC := Lib.hid (h.below ((Below.refl _ w).alloc (Nat.le_refl _) (.cells (ten CA.zero) 32)))
  have HX := Lib.hid ((Below.refl _ w).alloc (Nat.le_refl _) (.cells (ten CA.zero) 32))
  have HR := Lib.hid (show ClBlk (w.alloc (.cells (ten CA.zero) 32)) w.heap.size CA.zero from Whole.new w _ _)
  have HG := Lib.hid (Get_any HC.out q)
  rw [hh, CA.get_no hh] at HG
  clear h hh
  rw [show ten CA.zero = #[.int .i64 0, .int .i64 0, .int .i64 0, .string ⟨#[]⟩, .int .i64 0, .int .i64 0, .int .i64 0, .bool false, .int .i64 0, .int .i64 0] from rfl] at HC HX HR HG
  go_enter Try.func10, Try.ntmps10
  go_wp2_with fail
  generalize w.alloc _ = w1 at HC HX HR HG ⊢
  refine HG.out.mono ?_
  rintro e w2 ⟨rfl, hb⟩
  have HX2 := Lib.hid (below_on HX.out hb)
  have HR2 := Lib.hid ((Mod.of_below hb []).whole HR.out (by simp))
  clear hb HX HR HC HG
  unfold aggC
  rw [show ten CA.zero = #[.int .i64 0, .int .i64 0, .int .i64 0, .string ⟨#[]⟩, .int .i64 0, .int .i64 0, .int .i64 0, .bool false, .int .i64 0, .int .i64 0] from rfl]
  have HX3 := Lib.hid (HX2.out.alloc HX2.out.size (.cells #[.int .i64 0, .int .i64 0, .int .i64 0, .string ⟨#[]⟩, .int .i64 0, .int .i64 0, .int .i64 0, .bool false, .int .i64 0, .int .i64 0] 32))
  have HR3 := Lib.hid (show ClBlk (w2.alloc (.cells #[.int .i64 0, .int .i64 0, .int .i64 0, .string ⟨#[]⟩, .int .i64 0, .int .i64 0, .int .i64 0, .bool false, .int .i64 0, .int .i64 0] 32)) w.heap.size CA.zero from HR2.out.alloc _)
  clear HX2 HR2
  go_upto_region 2 with (fail)
  generalize w2.alloc _ = w3 at HX3 HR3 ⊢
  have hrow := row10 HR3.out CA.zero
  have HX4 := Lib.hid (HX3.out.trans (hrow.2.below HX3.out.size (by simp)))
  have HR4 := Lib.hid hrow.1
  clear hrow
  go_wp2_with (refine wpList_store_row rfl 32 (.tmp 4) (.tmp 16) rfl w.heap.size (ten CA.zero) rfl rfl 32 _ HR3.out (by kernel_rfl) rfl (by simp [ten, Value.oneCell']) ?_)
  generalize (World.setRow _ _ _) = w4 at HX4 HR4 ⊢
  obtain ⟨c0, c1, c2, c3, c4, c5, c6, c7, c8, c9⟩ := cl_cells HR4.out
  refine bodyPost_ret (v := .tuple #[.agg (ten CA.zero), .bool false]) ?_ rfl ?_
  · rw [results_cell_tmp rfl]
    go_simp
    try rfl
  · exact ⟨rfl, HX4.out⟩
/-! ### Where it is open -/
set_option maxHeartbeats 4000000 in
theorem Again_yes (h : CallsAt w g M s) (q : Int) (hh : CA.has s q = true) : Calls Try.prog 11 #[.pointer (some ⟨g, 0, none⟩), .int .i64 q] w fun e w' => e = .returned (.tuple #[aggC (CA.more (CA.get s q)), .bool true]) ∧ Turned w g M [M] (CA.again s q) w' := by
  have hz := fun w : World => Try.zeroValue32 w
  have HC := Lib.hid (h.below ((Below.refl _ w).alloc (Nat.le_refl _) (.cells (ten CA.zero) 32)))
  have HX := Lib.hid ((Below.refl _ w).alloc (Nat.le_refl _) (.cells (ten CA.zero) 32))
  have HR := Lib.hid (show ClBlk (w.alloc (.cells (ten CA.zero) 32)) w.heap.size CA.zero from Whole.new w _ _)
  have HG := Lib.hid (Get_any HC.out q)
  have HH := Lib.hid hh
  have HLT := Lib.hid (show g < w.heap.size ∧ M < w.heap.size from ⟨h.lt, h.ltM⟩)
  have HGM := Lib.hid h.ne
  rw [hh] at HG
  clear h hh
  rw [show ten CA.zero = #[.int .i64 0, .int .i64 0, .int .i64 0, .string ⟨#[]⟩, .int .i64 0, .int .i64 0, .int .i64 0, .bool false, .int .i64 0, .int .i64 0] from rfl] at HC HX HR HG
  go_enter Try.func11, Try.ntmps11
  go_wp2_with fail
  generalize w.alloc _ = w1 at HC HX HR HG ⊢
  refine HG.out.mono ?_
  rintro e w2 ⟨rfl, hb⟩
  have HX2 := Lib.hid (below_on HX.out hb)
  have HR2 := Lib.hid ((Mod.of_below hb []).whole HR.out (by simp))
  have HC2 := Lib.hid (HC.out.below hb)
  clear hb HX HR HC HG
  generalize hgx : CA.get s q = x at *
  have HGX := Lib.hid hgx; clear hgx
  have HX3 := Lib.hid (HX2.out.alloc HX2.out.size (.cells (ten x) 32))
  have HR3 := Lib.hid (show ClBlk (w2.alloc (.cells (ten x) 32)) w.heap.size CA.zero from HR2.out.alloc _)
  have HC3 := Lib.hid (HC2.out.below ((Below.refl _ w2).alloc (Nat.le_refl _) (.cells (ten x) 32)))
  have HK3 := Lib.hid (show ClBlk (w2.alloc (.cells (ten x) 32)) w2.heap.size x from Whole.new w2 _ _)
  have HN := Lib.hid (show w.heap.size < w2.heap.size from HR2.out.lt)
  clear HX2 HR2 HC2
  unfold aggC
  rw [show ten x = #[.int .i64 x.seq, .int .i64 x.dst, .int .i64 x.verb, .string x.path, .int .i64 x.mode, .int .i64 x.term, .int .i64 x.id, .bool x.fresh, .int .i64 x.sent, .int .i64 x.tries] from rfl] at HX3 HR3 HC3 HK3 ⊢
  go_upto_region 2 with (fail)
  generalize w2.alloc _ = w3 at HX3 HR3 HC3 HK3 ⊢
  generalize w2.heap.size = b at *
  have HK4 := Lib.hid (show ClBlk (w3.setCell ⟨b, 9, none⟩ (.int .i64 (wrap64 (x.tries + 1)))) b (CA.more x) from by rw [← IntWalk.i64_left]; exact HK3.out.store 9 _)
  have HX4 := Lib.hid (HX3.out.setCell (p := ⟨b, 9, none⟩) (Nat.le_of_lt HN.out) (.int .i64 (wrap64 (x.tries + 1))))
  have HR4 := Lib.hid (show ClBlk (w3.setCell ⟨b, 9, none⟩ (.int .i64 (wrap64 (x.tries + 1)))) w.heap.size CA.zero from HR3.out.far (q := ⟨b, 9, none⟩) (by have := HN.out; show w.heap.size ≠ b; omega) _)
  have HC4 := Lib.hid (HC3.out.mod ((Mod.refl [b] w3).store (p := ⟨b, 9, none⟩) (.inl (by simp)) (.int .i64 (wrap64 (x.tries + 1)))) (by have := HLT.out; have := HN.out; simp; omega) (by have := HLT.out; have := HN.out; simp; omega))
  obtain ⟨c0, c1, c2, c3, c4, c5, c6, c7, c8, c9⟩ := cl_cells HK3.out
  have f9 := HK3.out.frozen 9
  clear HX3 HR3 HC3 HK3
  go_upto_region 5 with (fail)
  clear c0 c1 c2 c3 c4 c5 c6 c7 c8 c9 f9
  generalize (World.setCell _ _ _) = w4 at HK4 HX4 HR4 HC4 ⊢
  obtain ⟨c0, c1, c2, c3, c4, c5, c6, c7, c8, c9⟩ := cl_cells HK4.out
  have g2 := HC4.out.c2
  obtain ⟨w5, hupd, hC5, hm5, hs5⟩ := CallsAt.over (w := w4.drew) (HC4.out.mod ((Mod.refl [] w4).drew) (by simp) (by simp)) HH.out
  rw [HGX.out] at hupd
  have HC5 := Lib.hid hC5
  have HM5 := Lib.hid (show Mod [M] w w5 from (Mod.of_below HX4.out [M]).drew.trans hm5 (fun k hk => .inl hk))
  have HK5 := Lib.hid (show ClBlk w5 b (CA.more x) from hm5.whole (show ClBlk w4.drew b (CA.more x) from HK4.out) (by have := HLT.out; have := HN.out; simp; omega))
  have HR5 := Lib.hid (show ClBlk w5 w.heap.size CA.zero from hm5.whole (show ClBlk w4.drew w.heap.size CA.zero from HR4.out) (by have := HLT.out; simp; omega))
  clear hC5 hm5 hs5 HC4 HX4
  unfold aggC at hupd
  unfold ten CA.more at hupd
  unfold CA.more at c0 c1 c2 c3 c4 c5 c6 c7 c8 c9
  simp only at hupd c0 c1 c2 c3 c4 c5 c6 c7 c8 c9
  go_cut [21] from 22 to 26 (fun s21 wx => wx = w5)
  case first =>
    go_wp2_with fail
    go_region
    all_goals
      go_wp2_with fail
      go_meet
      rfl
  case rest =>
  obtain rfl := hcut
  clear hupd c0 c1 c2 c3 c4 c5 c6 c7 c8 c9 g2
  generalize hgy : CA.more x = y at *
  have HGY := Lib.hid hgy; clear hgy
  have HLD := Lib.hid (cl_range HK5.out)
  have hrow := row10 HR5.out y
  have HX6 := Lib.hid (HM5.out.trans hrow.2 (fun k hk => .inr (by rw [List.mem_singleton.1 hk]; exact Nat.le_refl _)))
  have HR6 := Lib.hid hrow.1
  have HC6 := Lib.hid (HC5.out.mod hrow.2 (by have := HLT.out; simp; omega) (by have := HLT.out; simp; omega))
  clear hrow
  go_wp2_with (first
    | (refine wpList_load_mid rfl 32 (.tmp 6) rfl b 0 rfl (ten y).toList _ HLD.out Try.underlying32 rfl (by kernel_rfl) ?_)
    | (refine wpList_store_row rfl 32 (.tmp 4) (.tmp 27) rfl w.heap.size (ten y) rfl rfl 32 _ HR5.out (by kernel_rfl) rfl (by simp [ten, Value.oneCell']) ?_))
  generalize (World.setRow _ _ _) = w6 at HX6 HR6 HC6 ⊢
  obtain ⟨c0, c1, c2, c3, c4, c5, c6, c7, c8, c9⟩ := cl_cells HR6.out
  refine bodyPost_ret (v := .tuple #[.agg (ten y), .bool true]) ?_ rfl ?_
  · rw [results_cell_tmp rfl]
    go_simp
    try rfl
  · rw [HGX.out, HGY.out]
    exact ⟨rfl, HC6.out, HX6.out⟩
set_option maxHeartbeats 4000000 in
theorem Close_yes (h : CallsAt w g M s) (q : Int) (hh : CA.has s q = true) : Calls Try.prog 10 #[.pointer (some ⟨g, 0, none⟩), .int .i64 q] w fun e w' => e = .returned (.tuple #[aggC (CA.get s q), .bool true]) ∧ Turned w g M [M] (CA.close s q) w' := by
  have hz := fun w : World => Try.zeroValue32 w
  have HC := Lib.hid (h.below ((Below.refl _ w).alloc (Nat.le_refl _) (.cells (ten CA.zero) 32)))
  have HX := Lib.hid ((Below.refl _ w).alloc (Nat.le_refl _) (.cells (ten CA.zero) 32))
  have HR := Lib.hid (show ClBlk (w.alloc (.cells (ten CA.zero) 32)) w.heap.size CA.zero from Whole.new w _ _)
  have HG := Lib.hid (Get_any HC.out q)
  have HH := Lib.hid hh
  have HLT := Lib.hid (show g < w.heap.size ∧ M < w.heap.size from ⟨h.lt, h.ltM⟩)
  have HGM := Lib.hid h.ne
  rw [hh] at HG
  clear h hh
  rw [show ten CA.zero = #[.int .i64 0, .int .i64 0, .int .i64 0, .string ⟨#[]⟩, .int .i64 0, .int .i64 0, .int .i64 0, .bool false, .int .i64 0, .int .i64 0] from rfl] at HC HX HR HG
  go_enter Try.func10, Try.ntmps10
  go_wp2_with fail
  generalize w.alloc _ = w1 at HC HX HR HG ⊢
  refine HG.out.mono ?_
  rintro e w2 ⟨rfl, hb⟩
  have HX2 := Lib.hid (below_on HX.out hb)
  have HR2 := Lib.hid ((Mod.of_below hb []).whole HR.out (by simp))
  have HC2 := Lib.hid (HC.out.below hb)
  clear hb HX HR HC HG
  generalize hgx : CA.get s q = x at *
  have HGX := Lib.hid hgx; clear hgx
  have HX3 := Lib.hid (HX2.out.alloc HX2.out.size (.cells (ten x) 32))
  have HR3 := Lib.hid (show ClBlk (w2.alloc (.cells (ten x) 32)) w.heap.size CA.zero from HR2.out.alloc _)
  have HC3 := Lib.hid (HC2.out.below ((Below.refl _ w2).alloc (Nat.le_refl _) (.cells (ten x) 32)))
  have HK3 := Lib.hid (show ClBlk (w2.alloc (.cells (ten x) 32)) w2.heap.size x from Whole.new w2 _ _)
  have HN := Lib.hid (show w.heap.size < w2.heap.size from HR2.out.lt)
  clear HX2 HR2 HC2
  unfold aggC
  rw [show ten x = #[.int .i64 x.seq, .int .i64 x.dst, .int .i64 x.verb, .string x.path, .int .i64 x.mode, .int .i64 x.term, .int .i64 x.id, .bool x.fresh, .int .i64 x.sent, .int .i64 x.tries] from rfl] at HX3 HR3 HC3 HK3 ⊢
  go_upto_region 2 with (fail)
  generalize w2.alloc _ = w3 at HX3 HR3 HC3 HK3 ⊢
  generalize w2.heap.size = b at *
  have g2 := HC3.out.c2
  obtain ⟨w5, hdel, hC5, hm5, hs5⟩ := CallsAt.drop HC3.out HH.out 0
  have hdl : ∀ ty, (Builtin.delete_ #[52, 3] ty #[.map (some M), .int .i64 q]).run Try.prog w3 = .ok (.tuple #[]) w5 := fun ty => hdel
  have HC5 := Lib.hid hC5
  have HM5 := Lib.hid (show Mod [M] w w5 from (Mod.of_below HX3.out [M]).trans hm5 (fun k hk => .inl hk))
  have HK5 := Lib.hid (show ClBlk w5 b x from hm5.whole HK3.out (by have := HLT.out; have := HN.out; simp; omega))
  have HR5 := Lib.hid (show ClBlk w5 w.heap.size CA.zero from hm5.whole HR3.out (by have := HLT.out; simp; omega))
  clear hC5 hm5 hs5 HC3 HX3 hdel
  go_upto_region 5 with (fail)
  clear g2 hdl
  generalize hgy : x = y at *
  have HGY := Lib.hid hgy; clear hgy
  have HLD := Lib.hid (cl_range HK5.out)
  have hrow := row10 HR5.out y
  have HX6 := Lib.hid (HM5.out.trans hrow.2 (fun k hk => .inr (by rw [List.mem_singleton.1 hk]; exact Nat.le_refl _)))
  have HR6 := Lib.hid hrow.1
  have HC6 := Lib.hid (HC5.out.mod hrow.2 (by have := HLT.out; simp; omega) (by have := HLT.out; simp; omega))
  clear hrow
  go_wp2_with (first
    | (refine wpList_load_mid rfl 32 (.tmp 6) rfl b 0 rfl (ten y).toList _ HLD.out Try.underlying32 rfl (by kernel_rfl) ?_)
    | (refine wpList_store_row rfl 32 (.tmp 4) (.tmp 22) rfl w.heap.size (ten y) rfl rfl 32 _ HR5.out (by kernel_rfl) rfl (by simp [ten, Value.oneCell']) ?_))
  generalize (World.setRow _ _ _) = w6 at HX6 HR6 HC6 ⊢
  obtain ⟨c0, c1, c2, c3, c4, c5, c6, c7, c8, c9⟩ := cl_cells HR6.out
  refine bodyPost_ret (v := .tuple #[.agg (ten y), .bool true]) ?_ rfl ?_
  · rw [results_cell_tmp rfl]
    go_simp
    try rfl
  · rw [HGX.out]
    exact ⟨rfl, HC6.out, HX6.out⟩
end
end Go.Proofs.Ytnacchldecjcaaa
