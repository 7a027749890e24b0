/- slices.Insert of one grant amid a list of the call's own. -/
import Derived.Test.YtboflkadabagfabBkW19
import Derived.Deep.RegionLaw
namespace Go.Proofs.Ytboflkadabagfab
open Go.RowKit
open BM (Gr Rc Bk g0 r0 b0)
set_option linter.unusedVariables false
set_option linter.unusedSimpArgs false
set_option maxRecDepth 100000
theorem zc_size (k : Nat) : (Builtin.zeroCells (Value.agg z6).cells k).size = k * 6 := by
  unfold Builtin.zeroCells
  simp [Value.cells, z6]
/-- The new list: what was ahead, room for one more and all that was behind. -/
theorem run_room (w : World) (ty : TypeId) {b n m : Nat} {cur : Array Value} {ps : List (Gr × Value)} (hn : ps.length = n) (hm : m < n) (hl : n ≤ 1000) (hc : Whole w b 26 cur) (htk : cur.toList.take (n * 6) = flat ps) :
    ∃ cap cs, (Builtin.append_ #[43, 3] ty #[.slice (some ⟨b, 0, none⟩) m n, .int .i64 ((n : Int) + 1 - (m : Int))]).run Try.prog w = .ok (.slice (some ⟨w.heap.size, 0, none⟩) (n + 1) cap) (w.drew.alloc (.cells cs 26)) ∧
      n + 1 ≤ cap ∧ cap ≤ maxLen ∧ cs.size = cap * 6 ∧ ∀ i, i < m * 6 → cs[i]? = (flat ps)[i]? := by
  obtain ⟨i0, hi, hz0, hz1, hz2⟩ := info_parts info_gr
  have hfl := flat_len ps
  have hold : (Builtin.firstCells i0.size m (.slice (some ⟨b, 0, none⟩) m n)).run Try.prog w.drew = .ok ((flat ps).take (m * 6)).toArray w.drew := by
    have h := run_loadCells_list (P := Try.prog) w.drew ⟨b, 0, none⟩ ((flat ps).take (m * 6)) (fun j v hj => by
      rw [List.getElem?_take] at hj
      split at hj
      · rw [Addr.add_lit, Nat.zero_add]
        have hcell := (show Whole w.drew b 26 cur from hc).cell j
        rw [hcell]
        rw [← htk, List.getElem?_take] at hj
        split at hj
        · rw [← Array.getElem?_toList]; exact hj
        · cases hj
      · cases hj)
    have e : ((flat ps).take (m * 6)).length = m * 6 := by rw [List.length_take]; omega
    rw [e] at h
    simpa [Builtin.firstCells, hz1] using h
  have hk : (n : Int) + 1 - (m : Int) = ((n + 1 - m : Nat) : Int) := by omega
  have hns : Builtin.nextslicecap (m + (n + 1 - m)) n * i0.bytes ≤ 281474976710656 := by
    have := nextslicecap_le (need := m + (n + 1 - m)) (old := n) (by omega)
    rw [hz2]
    omega
  have hr := Lib.run_append_grow_zeros (P := Try.prog) w 43 3 ty 26 i0 (.agg z6) .i64 .i64 Try.underlying43 Try.underlying3 hi hz0 (some ⟨b, 0, none⟩) m n ((flat ps).take (m * 6)) hold (n + 1 - m) (by omega) (by rw [hz1]; omega) (by omega) (by omega) (by rw [hz2]; omega) hns
  have e1 : m + (n + 1 - m) = n + 1 := by omega
  rw [e1] at hr
  rw [hk]
  have hge := grownCap_ge w (n + 1) n 26
  refine ⟨_, _, hr, hge, grownCap_le_maxLen w (n + 1) n 26 (by unfold maxLen; omega), ?_, fun i hi' => ?_⟩
  · simp only [Array.size_append, zc_size, List.size_toArray, List.length_take, hfl]
    omega
  · rw [Array.getElem?_append_left (by simp only [Array.size_append, zc_size, List.size_toArray, List.length_take, hfl]; omega), Array.getElem?_append_left (by simp only [List.size_toArray, List.length_take, hfl]; omega)]
    rw [List.getElem?_toArray, List.getElem?_take, if_pos hi']
/-- The new list's cells, once both copies are done. -/
theorem ins_cells {ps : List (Gr × Value)} {n m cap : Nat} {x : Gr × Value} {cs c1 c2 : Array Value} (hn : ps.length = n) (hm : m < n) (hcap : n + 1 ≤ cap) (hs : cs.size = cap * 6) (h0 : ∀ i, i < m * 6 → cs[i]? = (flat ps)[i]?)
    (h1 : ∀ i, c1[i]? = if m * 6 ≤ i ∧ i < m * 6 + (six x.1 x.2).toList.length ∧ i < cs.size then (six x.1 x.2).toList[i - m * 6]? else cs[i]?) (hs1 : c1.size = cs.size)
    (h2 : ∀ i, c2[i]? = if (m + 1) * 6 ≤ i ∧ i < (m + 1) * 6 + (flat (ps.drop m)).length ∧ i < c1.size then (flat (ps.drop m))[i - (m + 1) * 6]? else c1[i]?) :
    c2.toList.take ((put ps m x).length * 6) = flat (put ps m x) := by
  have hl6 : (six x.1 x.2).toList.length = 6 := rfl
  have hld : (flat (ps.drop m)).length = (n - m) * 6 := by rw [flat_len, List.length_drop, hn]
  have hlt : (flat (ps.take m)).length = m * 6 := by rw [flat_len, List.length_take]; congr 1; omega
  have hlp : (put ps m x).length = n + 1 := by unfold put; simp; omega
  have hfp : flat ps = flat (ps.take m) ++ flat (ps.drop m) := by rw [← flat_append, List.take_append_drop]
  rw [hlp]
  unfold put
  rw [flat_append, flat_cons]
  refine List.ext_getElem? fun i => ?_
  rw [List.getElem?_take]
  by_cases hi : i < (n + 1) * 6
  · rw [if_pos hi, Array.getElem?_toList, h2, hld]
    by_cases ha : (m + 1) * 6 ≤ i
    · rw [if_pos ⟨ha, by omega, by omega⟩, List.getElem?_append_right (by omega), List.getElem?_append_right (by omega), hlt, hl6]
      congr 1
      omega
    · rw [if_neg (by omega), h1, hl6]
      by_cases hb : m * 6 ≤ i
      · rw [if_pos ⟨hb, by omega, by omega⟩, List.getElem?_append_right (by omega), hlt, List.getElem?_append_left (by omega)]
      · rw [if_neg (by omega), h0 i (by omega), hfp, List.getElem?_append_left (by omega), List.getElem?_append_left (by omega)]
  · rw [if_neg hi, List.getElem?_eq_none]
    rw [List.length_append, List.length_append, hlt, hl6, hld]
    omega
theorem step_copy6 {w : World} {ops : Array Oper} {d : Option Tmp} {s x : Operand} {ty : TypeId} {ps : String} {af : Array Edge} {a : Act} {K : Act → World → Prop} {Q : Exit → Act → World → Prop} {E : Prop} {v u v' : Value} {w' : World}
    (hd : a.eval s = v) (hs : a.eval x = u) (hr : (Builtin.copy_ #[43, 43] ty #[v, u]).run Try.prog w = .ok v' w') (hK : K (a.put d v') w') :
    if Region.wanted { dst := d, op := .call { callee := .builtin .copy, args := #[s, x], argTypes := #[43, 43] }, type := ty, pos := ps, after := af, guard := none } (yielded ops a.tmps) = true
      then Oper.wp Try.prog { dst := d, op := .call { callee := .builtin .copy, args := #[s, x], argTypes := #[43, 43] }, type := ty, pos := ps, after := af, guard := none } a w K Q else E := by
  rw [if_pos (by simp [Region.wanted])]
  exact Lib.wp_copy_run w s x _ _ rfl v u hd hs hr hK
set_option maxHeartbeats 4000000 in
theorem Insert_mid {base : Nat} {A : Option Addr} {ps : List (Gr × Value)} {p m n : Nat} {g : Gr} {gv : Value} (w : World) (hn : ps.length = n) (hown : OwnG w base (.slice A n n) ps) (hm : m < n) (hp : Whole w p 26 (six g gv)) (hl : n ≤ 1000) (hb : base ≤ w.heap.size) (hgv : OwnI w base gv g.stamp) (hgw : GW g ∧ g.stamp.length * 8 ≤ 140737488355328 ∧ ∀ x ∈ g.stamp, In64 x) :
    Calls Try.prog 65 #[.slice A n n, .int .i64 (m : Int), .slice (some ⟨p, 0, none⟩) 1 1] w (InsPost w base ps m (g, gv)) := by
  obtain ⟨b, cur, rfl, hbb, hcur, hsz, htk, hnn⟩ := hown.whole (by omega)
  clear hnn
  have HO := Lib.hid hown
  have HP := Lib.hid hp
  have HG := Lib.hid hgv; clear hgv
  have HW := Lib.hid hgw; clear hgw
  have hne : ((m : Int) == (n : Int)) = false := by simp; omega
  have HRUN := Lib.hid (fun ty => run_room w ty hn hm hl hcur (by rw [← hn]; exact htk))
  obtain ⟨cap, cs, hrun0, hcap, hcapm, hcs, hget⟩ := HRUN.out 43
  have HR := Lib.hid hrun0
  have hbz : b < w.heap.size := hcur.lt
  have hpz : p < w.heap.size := hp.lt
  have HX1 := Lib.hid (show Below w.heap.size w (w.alloc (.cells cs 26)).drew from ((Below.refl _ w).alloc (Nat.le_refl _) _).drew)
  have HH := Lib.hid (show Whole (w.alloc (.cells cs 26)).drew w.heap.size 26 cs from Whole.new w _ _)
  have HC0 := Lib.hid hcur
  have HC1 := Lib.hid ((Mod.of_below HX1.out []).whole hcur (by simp))
  have HP1 := Lib.hid ((Mod.of_below HX1.out []).whole hp (by simp))
  have HSZ := Lib.hid hsz
  have HTK := Lib.hid (show cur.toList.take (n * 6) = flat ps by rw [← hn]; exact htk)
  have HGET := Lib.hid hget
  have HCS := Lib.hid hcs
  have HN := Lib.hid hn
  have ho1 := hown.ones
  have HONE := Lib.hid (flat_one (ps := ps.drop m) (fun q hq => ho1 q (List.mem_of_mem_drop hq)))
  clear hown hp hcur hsz htk hrun0 hget hcs HRUN hn ho1
  go_enter Try.func65, Try.ntmps65
  have HCP1 := Lib.hid (fun ty => run_copy6 ((w.alloc (.cells cs 26)).drew) ty w.heap.size (m * 6) (n + 1 - m) (cap - m) ⟨p, 0, none⟩ 1 1 1 (six g gv).toList (Nat.min_eq_left (by omega)).symm rfl
    (fun j v hj => by rw [Addr.add_lit, Nat.zero_add, HP1.out.cell, ← Array.getElem?_toList]; exact hj)
    (fun j hj => by
      have hj6 : j < 6 := hj
      have hs := HCS.out
      rw [HH.out.cell, Array.getElem?_eq_getElem (by omega)]; rfl) (fun j hj => HH.out.frozen _) (six_one HG.out.one))
  go_wp2_with (first | (at_builtin; refine Lib.wpList_append_run w rfl (.tmp 34) (.tmp 39) 43 3 rfl _ _ rfl rfl _ _ HR.out ?_) | (with_reducible refine Lib.wpList_copy_run _ rfl (.tmp 43) (.tmp 44) 43 43 rfl _ _ rfl rfl (HCP1.out _) ?_))
  obtain ⟨c1, k1, k2, k3, k4⟩ := whole_cells (six g gv).toList (m * 6) _ cs HH.out
  have HH1 := Lib.hid k1
  have HX2 := Lib.hid (show Below w.heap.size w (((w.alloc (.cells cs 26)).drew).setCells w.heap.size (m * 6) (six g gv).toList) from HX1.out.trans (k3.below HX1.out.size (by simp)))
  have HC2 := Lib.hid ((Mod.of_below HX2.out []).whole (show Whole w b 26 cur from HC0.out) (by simp))
  have HK2 := Lib.hid k2
  have HK4 := Lib.hid k4
  clear k1 k2 k3 k4 HCP1 HH HC1 HP1 HR HX1
  generalize ((w.alloc (.cells cs 26)).drew).setCells w.heap.size (m * 6) (six g gv).toList = w2 at HH1 HX2 HC2 ⊢
  have hfd : (flat (ps.drop m)).length = (n - m) * 6 := by rw [flat_len, List.length_drop, HN.out]
  have HFD := Lib.hid hfd
  clear hfd
  have HCP2 := Lib.hid (fun ty dl dc (hdl : n - m ≤ dl) => run_copy6 w2.drew ty w.heap.size ((m + 1) * 6) dl dc ⟨b, m * 6, none⟩ (n - m) (n - m) (n - m) (flat (ps.drop m)) (Nat.min_eq_left hdl).symm HFD.out
    (fun j v hj => by
      have hjl := (List.getElem?_eq_some_iff.1 hj).1
      rw [HFD.out] at hjl
      have hfp : flat ps = flat (ps.take m) ++ flat (ps.drop m) := by rw [← flat_append, List.take_append_drop]
      have hlt : (flat (ps.take m)).length = m * 6 := by have := HN.out; rw [flat_len, List.length_take]; congr 1; omega
      rw [Addr.add_lit, (show Whole w2.drew b 26 cur from HC2.out).cell, ← Array.getElem?_toList]
      have e : (flat ps)[m * 6 + j]? = some v := by rw [hfp, List.getElem?_append_right (by omega), hlt, Nat.add_sub_cancel_left]; exact hj
      rw [← HTK.out, List.getElem?_take] at e
      split at e
      · exact e
      · cases e)
    (fun j hj => by
      rw [HFD.out] at hj
      have hs := HCS.out
      have hs2 := HK2.out
      rw [(show Whole w2.drew w.heap.size 26 c1 from HH1.out).cell, Array.getElem?_eq_getElem (by omega)]; rfl) (fun j hj => (show Whole w2.drew w.heap.size 26 c1 from HH1.out).frozen _) HONE.out)
  have j0 : (0 : Int) ≤ (m : Int) + 1 := by omega
  have j1 : ((m : Int) + 1).toNat = m + 1 := by omega
  have j2 : (m : Int) + 1 ≤ (n : Int) + 1 := by omega
  have j3 : (m : Int) ≤ (n : Int) := by omega
  have j5 : ¬ cap = m + 1 := by omega
  have j6 : ¬ n = m := by omega
  have j4 : IntKind.i64.wrap ((m : Int) + 1) = (m : Int) + 1 := IntWalk.i64_in _ (by omega)
  refine wp_region_noPanic ?_
  refine wp_region_held_drew (S := fun _ : World => True) (by kernel_rfl) (trivial) (fun hHeld => ?_)
  refine wpAnyH_take (i := 0) (oi := { dst := some 46, op := Op.move (Operand.tmp 9), type := 43, pos := _, after := #[], guard := none }) (v := ?_) rfl (by kernel_rfl) (by kernel_rfl) (by kernel_rfl) (fun _ _ _ h => h) (Or.inl ⟨by rfl, ?_⟩) hHeld ?_
  rotate_left
  · (intro w hSw; (try dsimp only at hSw); first | (go_simp; done) | (go_simp; with_reducible rfl))
  try simp only [Act.put, List.setIfInBounds_toArray, List.set_cons_zero, List.set_cons_succ]
  refine wpAnyH_take (i := 1) (oi := { dst := some 47, op := Op.move (Operand.tmp 1), type := 3, pos := _, after := #[], guard := none }) (v := ?_) rfl (by kernel_rfl) (by kernel_rfl) (by kernel_rfl) (fun _ _ _ h => h) (Or.inl ⟨by rfl, ?_⟩) hHeld ?_
  rotate_left
  · (intro w hSw; (try dsimp only at hSw); first | (go_simp; done) | (go_simp; with_reducible rfl))
  try simp only [Act.put, List.setIfInBounds_toArray, List.set_cons_zero, List.set_cons_succ]
  refine wpAnyH_take (i := 2) (oi := { dst := some 48, op := Op.move (Operand.tmp 7), type := 3, pos := _, after := #[], guard := none }) (v := ?_) rfl (by kernel_rfl) (by kernel_rfl) (by kernel_rfl) (fun _ _ _ h => h) (Or.inl ⟨by rfl, ?_⟩) hHeld ?_
  rotate_left
  · (intro w hSw; (try dsimp only at hSw); first | (go_simp; done) | (go_simp; with_reducible rfl))
  try simp only [Act.put, List.setIfInBounds_toArray, List.set_cons_zero, List.set_cons_succ]
  refine wpAnyH_take (i := 3) (oi := { dst := some 49, op := Op.binOp BinOp.add 3 (Operand.tmp 47) (Operand.tmp 48) 3, type := 3, pos := _, after := #[{ on := 1, ground := Ground.data }, { on := 2, ground := Ground.data }], guard := none }) (v := ?_) rfl (by kernel_rfl) (by kernel_rfl) (by kernel_rfl) (fun _ _ _ h => h) (Or.inl ⟨by rfl, ?_⟩) hHeld ?_
  rotate_left
  · (intro w hSw; (try dsimp only at hSw); first | (go_simp; done) | (go_simp; with_reducible rfl))
  try simp only [Act.put, List.setIfInBounds_toArray, List.set_cons_zero, List.set_cons_succ]
  refine wpAnyH_take (i := 4) (oi := { dst := some 50, op := Op.slice 43 (Operand.tmp 46) (some (Operand.tmp 49)) none none, type := 43, pos := _, after := #[{ on := 0, ground := Ground.data }, { on := 3, ground := Ground.data }], guard := none }) (v := ?_) rfl (by kernel_rfl) (by kernel_rfl) (by kernel_rfl) (fun _ _ _ h => h) (Or.inl ⟨by rfl, ?_⟩) hHeld ?_
  rotate_left
  · (intro w hSw; (try dsimp only at hSw); first | (go_simp; done) | (go_simp; with_reducible rfl))
  try simp only [Act.put, List.setIfInBounds_toArray, List.set_cons_zero, List.set_cons_succ]
  refine wpAnyH_take (i := 5) (oi := { dst := some 51, op := Op.move (Operand.tmp 0), type := 43, pos := _, after := #[], guard := none }) (v := ?_) rfl (by kernel_rfl) (by kernel_rfl) (by kernel_rfl) (fun _ _ _ h => h) (Or.inl ⟨by rfl, ?_⟩) hHeld ?_
  rotate_left
  · (intro w hSw; (try dsimp only at hSw); first | (go_simp; done) | (go_simp; with_reducible rfl))
  try simp only [Act.put, List.setIfInBounds_toArray, List.set_cons_zero, List.set_cons_succ]
  refine wpAnyH_take (i := 6) (oi := { dst := some 52, op := Op.move (Operand.tmp 1), type := 3, pos := _, after := #[], guard := none }) (v := ?_) rfl (by kernel_rfl) (by kernel_rfl) (by kernel_rfl) (fun _ _ _ h => h) (Or.inl ⟨by rfl, ?_⟩) hHeld ?_
  rotate_left
  · (intro w hSw; (try dsimp only at hSw); first | (go_simp; done) | (go_simp; with_reducible rfl))
  try simp only [Act.put, List.setIfInBounds_toArray, List.set_cons_zero, List.set_cons_succ]
  refine wpAnyH_take (i := 7) (oi := { dst := some 53, op := Op.slice 43 (Operand.tmp 51) (some (Operand.tmp 52)) none none, type := 43, pos := _, after := #[{ on := 5, ground := Ground.data }, { on := 6, ground := Ground.data }], guard := none }) (v := ?_) rfl (by kernel_rfl) (by kernel_rfl) (by kernel_rfl) (fun _ _ _ h => h) (Or.inl ⟨by rfl, ?_⟩) hHeld ?_
  rotate_left
  · (intro w hSw; (try dsimp only at hSw); first | (go_simp; done) | (go_simp; with_reducible rfl))
  try simp only [Act.put, List.setIfInBounds_toArray, List.set_cons_zero, List.set_cons_succ]
  refine wpAnyH_ready (rs := [8]) (by kernel_rfl) (by simp) (AllReadyH.cons (o := { dst := some 54, op := Op.call { callee := Callee.builtin Builtin.copy, args := #[Operand.tmp 50, Operand.tmp 53], argTypes := #[43, 43] }, type := 3, pos := _, after := #[{ on := 4, ground := Ground.data }, { on := 7, ground := Ground.data }], guard := none }) rfl (fun K hK => ?_) AllReadyH.nil)
  refine step_copy6 (v := .slice (some ⟨w.heap.size, (m + 1) * 6, none⟩) (n - m) (cap - (m + 1))) (u := .slice (some ⟨b, m * 6, none⟩) (n - m) (n - m)) (by exact rfl) (by exact rfl) (HCP2.out _ (n - m) (cap - (m + 1)) (Nat.le_refl _)) ?_
  refine hK.out _ _ (trivial) (fun hHeld => ?_)
  clear hK K
  try simp only [Act.put, List.setIfInBounds_toArray, List.set_cons_zero, List.set_cons_succ]
  refine wpAnyH_done (by kernel_rfl) ?_ _
  refine NoPanic.normal ?_
  obtain ⟨c2, k1, k2, k3, k4⟩ := whole_cells (flat (ps.drop m)) ((m + 1) * 6) w2.drew c1 (show Whole w2.drew w.heap.size 26 c1 from HH1.out)
  have HCUR := Lib.hid (ins_cells (x := (g, gv)) HN.out hm hcap HCS.out HGET.out HK4.out HK2.out k4)
  have HH2 := Lib.hid k1
  have HS2 := Lib.hid (show c2.size = cap * 6 by have h1 := HK2.out; have h2 := HCS.out; omega)
  have HX3 := Lib.hid (show Below w.heap.size w (w2.drew.setCells w.heap.size ((m + 1) * 6) (flat (ps.drop m))) from HX2.out.trans ((Mod.refl [w.heap.size] w2).drew.trans k3 (fun x hx => .inl hx) |>.below HX2.out.size (by simp)))
  clear k1 k2 k3 k4 HCP2 HH1
  generalize w2.drew.setCells w.heap.size ((m + 1) * 6) (flat (ps.drop m)) = w3 at HH2 HX3 ⊢
  clear j0 j1 j2 j3 j4 j5 j6
  go_wp2_with fail
  go_ret
  have hlp : (put ps m (g, gv)).length = n + 1 := by have := HN.out; unfold put; simp; omega
  have hfp := flat_len (put ps m (g, gv))
  have hmem : ∀ q ∈ put ps m (g, gv), q ∈ ps ∨ q = (g, gv) := by
    intro q hq
    unfold put at hq
    rcases List.mem_append.1 hq with hq | hq
    · exact .inl (List.mem_of_mem_take hq)
    · rcases List.mem_cons.1 hq with hq | hq
      · exact .inr hq
      · exact .inl (List.mem_of_mem_drop hq)
  have hst : ∀ q : Gr × Value, OwnI w base q.2 q.1.stamp → OwnI w3 base q.2 q.1.stamp := fun q hq => (Mod.of_below HX3.out []).own hq (by simp)
  refine ⟨_, rfl, ⟨?_, ?_, ?_, ?_⟩, HX3.out.mono hb⟩
  · rw [hlp]
    refine ⟨by rw [hfp, hlp], .inr ⟨w.heap.size, cap, c2, rfl, hb, HH2.out, hcap, hcapm, HS2.out, ?_⟩⟩
    have := HCUR.out
    rwa [hlp] at this
  · intro q hq
    rcases hmem q hq with hq | hq
    · exact hst q (HO.out.st q hq)
    · rw [hq]; exact hst (g, gv) HG.out
  · intro q hq
    rcases hmem q hq with hq | hq
    · exact HO.out.wide q hq
    · rw [hq]; exact HW.out
  · rw [hlp]; omega
end Go.Proofs.Ytboflkadabagfab
