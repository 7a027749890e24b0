/- Several lists that a call has grown for itself, no two in one block: what a store and an append leave of them; 'same' as a call that only draws; a row of lists. -/
import Derived.Test.YthhkgdknmehaoaaDoorStampsW9
import Derived.Deep.QuietTactic
import Derived.BigQuiet
namespace Go.Proofs.YthhkgdknmehaoaaDoor
open Go.RowKit
set_option linter.unusedVariables false
set_option maxRecDepth 100000
set_option maxHeartbeats 1000000 in
theorem same_draws (A B : Option Addr) (c d : Nat) (a b : List Int) (w : World) (hA : IntsAt w A a) (hB : IntsAt w B b) (ha : a.length ≤ c) (hb : b.length ≤ d) (hc : c ≤ 9223372036854775807) (hd : d ≤ 9223372036854775807) :
    Calls Tryd.prog 21 #[.slice A a.length c, .slice B b.length d] w fun e w' => e = .returned (.bool (decide (a = b))) ∧ ∃ m, w' = w.drewN m := by
  have HA := Lib.hid hA; clear hA
  have HB := Lib.hid hB; clear hB
  by_cases hlen : a.length = b.length
  · go_enter Tryd.func21, Tryd.ntmps21
    rw [← hlen]
    go_wp2_with fail
    go_loopw [13] (fun i wx => ∃ k m : Nat, i = .int .i64 (k : Int) ∧ k ≤ a.length ∧ Hid (wx = w.drewN m) ∧ Hid (a.take k = b.take k)) (fun i _ => a.length - (intOf i).toNat)
    case atStart => exact ⟨0, 0, rfl, by omega, Lib.hid rfl, Lib.hid (by rw [List.take_zero, List.take_zero])⟩
    case round =>
      obtain ⟨k, m, rfl, hk, HW, HT⟩ := hrel
      by_cases hlt : k < a.length
      · have hltb : k < b.length := by omega
        obtain ⟨ba, oa, eA, _, hca⟩ := HA.out (by omega)
        obtain ⟨bb, ob, eB, _, hcb⟩ := HB.out (by omega)
        subst eA
        subst eB
        have ca : wr.cell? ⟨ba, oa + k, none⟩ = some (.int .i64 a[k]) := by rw [HW.out]; exact hca k a[k] (List.getElem?_eq_getElem hlt)
        have cb : wr.cell? ⟨bb, ob + k, none⟩ = some (.int .i64 b[k]) := by rw [HW.out]; exact hcb k b[k] (List.getElem?_eq_getElem hltb)
        clear hca hcb
        by_cases he : a[k] = b[k]
        · have HS := Lib.hid (take_same HT.out hlt hltb he)
          rw [← he] at cb
          clear he
          generalize a[k] = x at ca cb
          go_wp2_with fail
          go_region
          all_goals
            go_wp2
            go_roundw
            case rel => exact ⟨k + 1, m + 1, rfl, by omega, Lib.hid (by rw [HW.out]; rfl), HS⟩
            case measure => simp only [intOf]; omega
        · have HN := Lib.hid (take_not hlt hltb he)
          have hd2 : (a[k] == b[k]) = false := by simpa using he
          clear he
          generalize a[k] = x at ca hd2
          generalize b[k] = y at cb hd2
          go_wp2_with fail
          go_region
          all_goals
            go_wp2
            go_ret
            exact ⟨ret_bool (decide_eq_false HN.out).symm, m + 1, by rw [HW.out]; rfl⟩
      · have HE := Lib.hid (show a = b by have := HT.out; rwa [List.take_of_length_le (by omega), List.take_of_length_le (by omega)] at this)
        go_wp2_with fail
        go_ret
        exact ⟨ret_bool (decide_eq_true HE.out).symm, m, HW.out⟩
  · go_enter Tryd.func21, Tryd.ntmps21
    go_wp2_with fail
    go_ret
    exact ⟨ret_bool (decide_eq_false (fun e => hlen (by rw [e]))).symm, 0, rfl⟩
/-- Two rows of unlike elements lie in unlike blocks. -/
theorem rows_ne {w : World} {b1 b2 : Nat} {e t : TypeId} {s1 s2 n m : Nat} {v u : Value} {xs ys : List Value} (h : w.ownsRow b1 e s1 v n xs) (k : w.ownsRow b2 t s2 u m ys) (hne : e ≠ t) : v.ownBlock = none ∨ v.ownBlock ≠ u.ownBlock := by
  rcases h.2 with ⟨rfl, _⟩ | ⟨g, cap, cur, rfl, _, hh, _⟩
  · exact .inl rfl
  · refine .inr fun he => ?_
    rcases k.2 with ⟨rfl, _⟩ | ⟨g', cap', cur', rfl, _, hh', _⟩
    · cases he
    · have e2 : g = g' := by simpa [Value.ownBlock] using he
      subst e2
      exact Whole.ne (t := _) hh hh' hne rfl
theorem row_from {w : World} {b1 b2 : Nat} {e : TypeId} {s n : Nat} {v : Value} {xs : List Value} (h : w.ownsRow b1 e s v n xs) (hb : b2 ≤ b1) : w.ownsRow b2 e s v n xs := by
  refine ⟨h.1, ?_⟩
  rcases h.2 with h0 | ⟨g, cap, cur, e1, h1, hr⟩
  · exact .inl h0
  · exact .inr ⟨g, cap, cur, e1, Nat.le_trans hb h1, hr⟩
/-- Lists of numbers, each the call's own; what each holds. -/
def Owns (B : Nat) (vs : List Value) (f : Nat → List Int) (w : World) : Prop := ∀ j v, vs[j]? = some v → w.ownsRow B 3 1 v (f j).length (i64s (f j))
/-- No two in one block. -/
def Apart (vs : List Value) : Prop := ∀ (i j : Nat) v u, vs[i]? = some v → vs[j]? = some u → v.ownBlock = u.ownBlock → i = j ∨ v.ownBlock = none
section
variable {B : Nat} {vs : List Value} {f : Nat → List Int} {w w' : World}
theorem Owns.nil (B : Nat) (f : Nat → List Int) (w : World) : Owns B [] f w := fun j v h => by simp at h
theorem Apart.nil : Apart [] := fun i j v u h => by simp at h
theorem Owns.below (h : Owns B vs f w) (hb : Below w.heap.size w w') : Owns B vs f w' := fun j v hv => (Mod.of_below hb []).own (h j v hv) (by simp)
theorem Owns.kept {row : Option Nat} (h : Owns B vs f w) (hg : w.grownBy w' row) (hr : ∀ v ∈ vs, v.ownBlock = none ∨ v.ownBlock ≠ row) : Owns B vs f w' := fun j v hv => (h j v hv).kept hg (hr v (List.mem_of_getElem? hv))
theorem Owns.mod {F : List Nat} (h : Owns B vs f w) (hm : Mod F w w') (hr : ∀ v ∈ vs, ∀ k, v.ownBlock = some k → k ∉ F) : Owns B vs f w' := fun j v hv => hm.own (h j v hv) (hr v (List.mem_of_getElem? hv))
theorem Owns.lt (h : Owns B vs f w) {v : Value} (hv : v ∈ vs) {k : Nat} (hk : v.ownBlock = some k) : B ≤ k ∧ k < w.heap.size := by
  obtain ⟨j, hj⟩ := List.getElem?_of_mem hv
  exact (h j v hj).lt k hk
theorem Owns.snoc {v : Value} {l : List Int} (h : Owns B vs f w) (hv : w.ownsRow B 3 1 v l.length (i64s l)) (hf : f vs.length = l) : Owns B (vs ++ [v]) f w := fun j u hu => by
  rw [List.getElem?_append] at hu
  split at hu
  · exact h j u hu
  · rename_i hj
    have hlt := (List.getElem?_eq_some_iff.1 hu).1
    simp only [List.length_singleton] at hlt
    have e : j = vs.length := by omega
    subst e
    simp only [Nat.sub_self, List.getElem?_cons_zero, Option.some.injEq] at hu
    subst hu
    rw [hf]
    exact hv
theorem Apart.snoc {v : Value} {N : Nat} (h : Apart vs) (h1 : ∀ u ∈ vs, ∀ k, u.ownBlock = some k → k < N) (h2 : ∀ k, v.ownBlock = some k → N ≤ k) : Apart (vs ++ [v]) := by
  have key : ∀ u ∈ vs, u.ownBlock = v.ownBlock → u.ownBlock = none := fun u hu e => by
    cases hk : u.ownBlock with
    | none => rfl
    | some k =>
      have a1 := h1 u hu k hk
      have a2 := h2 k (by rw [← e]; exact hk)
      omega
  have last : ∀ (j : Nat) (u : Value), (vs ++ [v])[j]? = some u → (vs[j]? = some u) ∨ (j = vs.length ∧ u = v) := fun j u hu => by
    rw [List.getElem?_append] at hu
    split at hu
    · exact .inl hu
    · have hlt := (List.getElem?_eq_some_iff.1 hu).1
      simp only [List.length_singleton] at hlt
      have e : j - vs.length = 0 := by omega
      rw [e] at hu
      simp only [List.getElem?_cons_zero, Option.some.injEq] at hu
      exact .inr ⟨by omega, hu.symm⟩
  intro i j a b ha hb e
  rcases last i a ha with h3 | ⟨h3, rfl⟩
  · rcases last j b hb with h4 | ⟨h4, rfl⟩
    · exact h i j a b h3 h4 e
    · exact .inr (key a (List.mem_of_getElem? h3) e)
  · rcases last j b hb with h4 | ⟨h4, rfl⟩
    · exact .inr (by rw [e]; exact key b (List.mem_of_getElem? h4) e.symm)
    · exact .inl (by omega)
end
/-- The contents with one list's turned. -/
def upd (f : Nat → List Int) (k : Nat) (l : List Int) : Nat → List Int := fun j => if j = k then l else f j
theorem upd_same (f : Nat → List Int) (k : Nat) (l : List Int) : upd f k l k = l := if_pos rfl
theorem upd_other {f : Nat → List Int} {k j : Nat} {l : List Int} (h : j ≠ k) : upd f k l j = f j := if_neg h
/-- A number stored in one of them. -/
theorem Owns.store {B : Nat} {vs : List Value} {f : Nat → List Int} {w : World} {k g n c i : Nat} (x : Int) (h : Owns B vs f w) (ha : Apart vs) (hk : vs[k]? = some (.slice (some ⟨g, 0, none⟩) n c)) : Owns B vs (upd f k ((f k).set i x)) (w.setCell ⟨g, i, none⟩ (.int .i64 x)) := by
  intro j v hv
  by_cases hj : j = k
  · subst hj
    rw [upd_same]
    have e := hv.symm.trans hk
    injection e with e
    subst e
    have hlen : n = (f j).length := by
      rcases (h j _ hk).2 with ⟨e, _⟩ | ⟨_, _, _, e, _⟩
      · cases e
      · injection e
    subst hlen
    have hs := ((h j _ hk).stored i (.int .i64 x)).1
    have e2 : (i64s (f j)).set i (.int .i64 x) = i64s ((f j).set i x) := by
      unfold i64s
      rw [List.map_set]
      rfl
    rw [e2] at hs
    rw [List.length_set]
    exact hs
  · rw [upd_other hj]
    refine own_far (h j v hv) (fun e => ?_) _
    rcases ha j k v _ hv hk e with h1 | h1
    · exact hj h1
    · rw [h1] at e
      cases e
/-- One number put behind a list of the call's own: every other such list stays, and so does a shorter one at the head of the same block. -/
theorem run_app_kept (W : World) (ty : TypeId) (base : Nat) (v : Value) (n : Nat) (xs : List Value) (hown : W.ownsRow base 3 1 v n xs) (a : Addr) (c : Nat) (y : Value) (hy : W.cell? (a.add 0) = some y) (h1 : y.oneCell' = true) (hn : (n + 1) * 8 ≤ 140737488355328) (hbase : base ≤ W.heap.size) :
    ∃ v' w', (Builtin.append_ #[22, 22] ty #[v, .slice (some a) 1 c]).run Tryd.prog W = .ok v' w' ∧ w'.ownsRow base 3 1 v' (n + 1) (xs ++ [y]) ∧ W.grownBy w' v.ownBlock ∧ (v'.ownBlock = v.ownBlock ∨ v'.ownBlock = some W.heap.size) ∧
      ∀ b u m ys, W.ownsRow b 3 1 u m ys → (u.ownBlock = v.ownBlock → m ≤ n) → w'.ownsRow b 3 1 u m ys := by
  obtain ⟨i0, hi, hz0, hz1, hz2⟩ := info_parts info_int
  have hnews : ∀ j u, [y][j]? = some u → W.cell? (a.add j) = some u := by
    intro j u hj
    match j, hj with
    | 0, hj =>
      simp only [List.getElem?_cons_zero, Option.some.injEq] at hj
      subst hj
      exact hy
  have hone : ∀ u ∈ [y], u.oneCell' = true := by
    intro u hu
    rw [List.mem_singleton.1 hu]
    exact h1
  obtain ⟨v', w', hr, h2, h3, _, h5⟩ := run_append_own_at (P := Tryd.prog) W base 22 ty 3 i0 (.int .i64 0) 1 8 Tryd.underlying22 hi hz0 hz1 hz2 rfl (by decide) v n xs hown a 1 c [y] rfl hnews hone (by unfold maxLen; omega) (by omega) hbase
  refine ⟨v', w', hr, h2, h3, h5, fun b u m ys hu hm => ?_⟩
  rcases hown.2 with ⟨rfl, rfl⟩ | ⟨g, cap, cur, rfl, hbg, hg, hnc, hcm, hcs, htake⟩
  · refine hu.kept h3 ?_
    cases hk : u.ownBlock with
    | none => exact .inl rfl
    | some k => exact .inr (by simp [Value.ownBlock])
  · by_cases hroom : n + 1 ≤ cap
    · have hr2 := run_append_room (P := Tryd.prog) W 22 ty 3 i0 Tryd.underlying22 hi g n cap cur hg a 1 c [y] (by rw [hz1]; rfl) hnews hone hroom (by rw [hz1, List.length_singleton]; omega)
      have e := hr.symm.trans hr2
      injection e with e1 e2
      subst e2
      rcases hu.2 with ⟨rfl, rfl⟩ | ⟨g', cap', cur', rfl, hb', hg', hnc', hcm', hcs', ht'⟩
      · exact ⟨hu.1, .inl ⟨rfl, rfl⟩⟩
      · by_cases hgg : g' = g
        · subst hgg
          have hm' := hm rfl
          have hcc := hg.symm.trans hg'
          injection hcc with hcc
          injection hcc with hcc
          subst hcc
          refine ⟨hu.1, .inr ⟨g', cap', _, rfl, hb', setRow_heap W g' cur _ 3 _ hg, hnc', hcm', ?_, ?_⟩⟩
          · rw [hz1]
            simp only [List.size_toArray, List.length_append, List.length_take, List.length_drop, List.length_singleton, Array.length_toList]
            omega
          · rw [hz1, List.toList_toArray, List.append_assoc, List.take_append_of_le_length (by simp only [List.length_take, Array.length_toList]; omega), List.take_take]
            rw [show min (m * 1) (n * 1) = m * 1 by omega]
            exact ht'
        · exact ⟨hu.1, .inr ⟨g', cap', cur', rfl, hb', by rw [setRow_other _ _ _ _ hgg]; exact hg', hnc', hcm', hcs', ht'⟩⟩
    · have holds : ∀ j u, xs[j]? = some u → W.cell? ((⟨g, 0, none⟩ : Addr).add j) = some u := hown.cells (g := g) rfl
      have hr2 := run_append_grow (P := Tryd.prog) W 22 ty 3 i0 (.int .i64 0) Tryd.underlying22 hi hz0 ⟨g, 0, none⟩ n cap xs (by rw [hz1]; exact hown.1) holds a 1 c [y] (by rw [hz1]; rfl) hnews (by omega) (by omega) (growslice_fits (by omega) (by rw [hz2]; exact hn))
      have e := hr.symm.trans hr2
      injection e with e1 e2
      subst e2
      exact World.ownsRow.alloc (w := W.drew) hu _
theorem app_kept {w : World} {ops : Array Oper} {rest : List Oper} {o : Oper} {a : Act} {Q : Exit → Act → World → Prop} (hgd : o.guard = none) (s x : Operand)
    (ho : o.op = .call { callee := .builtin .append, args := #[s, x], argTypes := #[22, 22] })
    (base : Nat) (v : Value) (n : Nat) (zs : List Value) (hown : w.ownsRow base 3 1 v n zs) (hs : a.eval s = v) (y : Int) (hx : a.eval x = .slice (some ⟨w.heap.size, 0, none⟩) 1 1) (hl : (n + 1) * 8 ≤ 140737488355328) (hb : base ≤ w.heap.size)
    (h : ∀ v' w', w'.ownsRow base 3 1 v' (n + 1) (zs ++ [.int .i64 y]) → (w.alloc (.cells #[.int .i64 y] 3)).grownBy w' v.ownBlock → (v'.ownBlock = v.ownBlock ∨ v'.ownBlock = some (w.heap.size + 1)) →
      (∀ b u m ys, w.ownsRow b 3 1 u m ys → (u.ownBlock = v.ownBlock → m ≤ n) → w'.ownsRow b 3 1 u m ys) → wpList Tryd.prog ops Q rest (a.put o.dst v') w') :
    wpList Tryd.prog ops Q (o :: rest) a (w.alloc (.cells #[.int .i64 y] 3)) := by
  refine wpList_plain hgd fun K hK => ?_
  obtain ⟨v', w', hr, h2, h3, h4, h5⟩ := run_app_kept (w.alloc (.cells #[.int .i64 y] 3)) o.type base v n zs (hown.alloc _) ⟨w.heap.size, 0, none⟩ 1 (.int .i64 y)
    (by rw [add_none, World.cell?_alloc_new]; rfl) rfl hl (by rw [World.size_alloc]; omega)
  unfold Oper.wp execOp
  simp only [ho, resolve, invoke, builtin, Sem.run_bind, Sem.run_pure, Result.andThen_ok, List.map_toArray, List.map_cons, List.map_nil, hs, hx, hr]
  exact hK _ _ (h v' w' h2 h3 (by rw [World.size_alloc] at h4; exact h4) (fun b u m ys hu hm => h5 b u m ys (hu.alloc _) hm))
theorem own_none {w : World} {B n : Nat} {u : Value} {ys : List Value} (h : w.ownsRow B 3 1 u n ys) (hu : u.ownBlock = none) : n = 0 := by
  rcases h.2 with ⟨_, h0⟩ | ⟨g, cap, cur, rfl, _⟩
  · exact h0
  · cases hu
end Go.Proofs.YthhkgdknmehaoaaDoor
