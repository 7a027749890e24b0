/- Lists of numbers in memory: one that came in, one that a call has grown for itself; append of one number and of all of a list. -/
import Derived.Test.YtbjemihcbbiiaaaMem
import Derived.Maps.AppendAt
import Derived.OpenShut
import Derived.ProofKit
import Derived.Deep.CondSized
import Derived.SizedLaws
import Derived.WideShapes
import Derived.Deep.Slices
import Derived.Deep.OwnRows
import Derived.LoopN
namespace Go.Proofs.Ytbjemihcbbiiaaa
open Go.RowKit
set_option linter.unusedVariables false
/-- A number as a value, numbers as values. -/
def i64 (x : Int) : Value := .int .i64 x
def i64s (l : List Int) : List Value := l.map i64
theorem i64s_len (l : List Int) : (i64s l).length = l.length := by simp [i64s]
theorem i64s_append (a b : List Int) : i64s (a ++ b) = i64s a ++ i64s b := by simp [i64s]
theorem one_i64 {l : List Int} : ∀ u ∈ i64s l, u.oneCell' = true := by
  intro u hu
  obtain ⟨x, _, rfl⟩ := List.mem_map.1 hu
  rfl
theorem info_int : (Try.prog.info? 3).map (fun i => (i.zero, i.size, i.bytes)) = some (some (.int .i64 0), 1, 8) := by kernel_rfl

/-- A slice that reads as numbers, nil let in; its cells lie in a block that was there. -/
def IntsAt (w : World) (A : Option Addr) (xs : List Int) : Prop :=
  0 < xs.length → ∃ b o, A = some ⟨b, o, none⟩ ∧ b < w.heap.size ∧ ∀ j x, xs[j]? = some x → w.cell? ⟨b, o + j, none⟩ = some (.int .i64 x)
theorem IntsAt.nil (w : World) (A : Option Addr) : IntsAt w A [] := fun h => absurd h (Nat.lt_irrefl 0)
theorem IntsAt.mod {w w' : World} {A : Option Addr} {xs : List Int} {G : List Nat} (h : IntsAt w A xs) (hm : Mod G w w') (hn : ∀ ad, A = some ad → ad.block ∉ G) : IntsAt w' A xs := fun h0 => by
  obtain ⟨b, o, e, hb, hc⟩ := h h0
  exact ⟨b, o, e, Nat.lt_of_lt_of_le hb hm.size, fun j x hx => (hm.cell (p := ⟨b, o + j, none⟩) hb (show b ∉ G from hn _ e)).trans (hc j x hx)⟩
theorem IntsAt.below {w w' : World} {A : Option Addr} {xs : List Int} (h : IntsAt w A xs) (hb : Below w.heap.size w w') : IntsAt w' A xs := h.mod (Mod.of_below hb []) (by simp)
theorem IntsAt.drew {w : World} {A : Option Addr} {xs : List Int} (h : IntsAt w A xs) : IntsAt w.drew A xs := h
theorem IntsAt.own {w : World} {A : Option Addr} {n c : Nat} {xs : List Int} {base : Nat} (h : w.ownsRow base 3 1 (.slice A n c) n (i64s xs)) : IntsAt w A xs := fun h0 => by
  have hl := h.1
  rw [i64s_len, Nat.mul_one] at hl
  obtain ⟨g, cap, hv, _, hlt⟩ := h.form (by omega)
  have hA : A = some ⟨g, 0, none⟩ := by injection hv
  subst hA
  refine ⟨g, 0, rfl, hlt, fun j x hx => ?_⟩
  have := h.cells (g := g) rfl j (i64 x) (by simp [i64s, hx])
  rwa [Addr.add_lit] at this
theorem IntsAt.cells {w : World} {ad : Addr} {xs : List Int} (h : IntsAt w (some ad) xs) : ∀ j u, (i64s xs)[j]? = some u → w.cell? (ad.add j) = some u := by
  intro j u hu
  have hlt : j < xs.length := by
    have h1 : j < (i64s xs).length := (List.getElem?_eq_some_iff.1 hu).1
    rw [i64s_len] at h1; exact h1
  obtain ⟨b, o, e, _, hc⟩ := h (by omega)
  injection e with e
  subst e
  rw [Addr.add_lit]
  have h2 : (i64s xs)[j]? = some (i64 xs[j]) := by unfold i64s; rw [List.getElem?_map, List.getElem?_eq_getElem hlt]; rfl
  rw [h2] at hu
  injection hu with hu
  rw [← hu]
  exact hc j xs[j] (List.getElem?_eq_getElem hlt)
/-- A list's first numbers. -/
theorem IntsAt.take {w : World} {A : Option Addr} {xs : List Int} (h : IntsAt w A xs) (k : Nat) : IntsAt w A (xs.take k) := fun h0 => by
  have hl : 0 < xs.length := by rw [List.length_take] at h0; omega
  obtain ⟨b, o, e, hb, hc⟩ := h hl
  refine ⟨b, o, e, hb, fun j x hx => hc j x ?_⟩
  rw [List.getElem?_take] at hx
  split at hx
  · exact hx
  · cases hx

/-- What the call itself has grown holds these numbers. -/
def Grew (w : World) (xs : List Int) (v : Value) (w' : World) : Prop := w'.ownsRow w.heap.size 3 1 v xs.length (i64s xs) ∧ Below w.heap.size w w'
theorem Grew.nil (w : World) : Grew w [] (.slice none 0 0) w := ⟨World.ownsRow_nil _ _ _ _, Below.refl _ _⟩
/-- One number put behind what the call itself has grown. -/
theorem app_one {w w1 : World} {ops : Array Oper} {rest : List Oper} {o : Oper} {a : Act} {Q : Exit → Act → World → Prop} (hgd : o.guard = none) (s x : Operand)
    (ho : o.op = .call { callee := .builtin .append, args := #[s, x], argTypes := #[30, 30] })
    (v : Value) (pre : List Int) (hG : Grew w pre v w1) (hs : a.eval s = v) (k : Int) (hx : a.eval x = .slice (some ⟨w1.heap.size, 0, none⟩) 1 1) (hl : (pre.length + 1) * 8 ≤ 140737488355328)
    (h : ∀ v' w2, Grew w (pre ++ [k]) v' w2 → wpList Try.prog ops Q rest (a.put o.dst v') w2) : wpList Try.prog ops Q (o :: rest) a (w1.alloc (.cells #[.int .i64 k] 3)) := by
  obtain ⟨i0, hi, hz0, hz1, hz2⟩ := info_parts info_int
  refine wpList_append_own_at _ hgd s x 30 ho w.heap.size 3 i0 (.int .i64 0) 1 8 Try.underlying30 hi hz0 hz1 hz2 rfl (by decide) v pre.length (i64s pre) hs (hG.1.alloc _) ⟨w1.heap.size, 0, none⟩ 1 1 [.int .i64 k] hx rfl
    (World.news_of_block (cs := #[.int .i64 k]) (t := 3) (fr := (0, 0)) (heap_alloc_new w1 _)) (one_i64 (l := [k])) (by unfold maxLen; omega) (by omega) (by have := hG.2.size; rw [World.size_alloc]; omega) ?_
  intro v' w2 hown hgrow _ _
  refine h v' w2 ⟨by rw [List.length_append, i64s_append]; exact hown, (hG.2.alloc hG.2.size _).grown hgrow ?_ (fun k hk => (hG.1.lt k hk).1)⟩
  have := hG.2.size
  rw [World.size_alloc]
  omega
theorem own_shape {w : World} {base : Nat} {e : TypeId} {size n : Nat} {v : Value} {xs : List Value} (h : w.ownsRow base e size v n xs) : ∃ A c, v = .slice A n c ∧ n ≤ c ∧ c ≤ 9223372036854775807 := by
  rcases h.2 with ⟨rfl, rfl⟩ | ⟨g, cap, cur, rfl, _, _, h1, h2, _⟩
  · exact ⟨none, 0, rfl, Nat.le_refl _, by omega⟩
  · exact ⟨_, cap, rfl, h1, by unfold maxLen at h2; omega⟩
/-- What is known of a list of numbers that was made just now. -/
def Made (w : World) (xs : List Int) (A : Option Addr) (n c : Nat) (w' : World) : Prop :=
  Hid (n = xs.length) ∧ Hid (IntsAt w' A xs) ∧ Hid (w'.ownsRow w.heap.size 3 1 (.slice A n c) n (i64s xs)) ∧ Hid (Below w.heap.size w w') ∧ n ≤ c ∧ c ≤ 9223372036854775807
theorem run_app_all {w : World} {A : Option Addr} {c : Nat} {l : List Int} (ty : TypeId) (hB : IntsAt w A l) (hl : l.length * 8 ≤ 140737488355328) :
    ∃ A' n' c' w2, (Builtin.append_ #[30, 30] ty #[.slice (some ⟨w.heap.size, 0, none⟩) 0 0, .slice A l.length c]).run Try.prog (w.alloc (.cells #[] 3)) = .ok (.slice A' n' c') w2 ∧ Made w l A' n' c' w2 := by
  obtain ⟨i0, hi, hz0, hz1, hz2⟩ := info_parts info_int
  have hown : (w.alloc (.cells #[] 3)).ownsRow w.heap.size 3 1 (.slice (some ⟨w.heap.size, 0, none⟩) 0 0) 0 [] := World.ownsRow_lit w #[] 0 (Nat.le_refl _) (by decide) rfl
  cases A with
  | some ad =>
    obtain ⟨v', w', hrun, h2, h3, _, _⟩ := run_append_own_at (P := Try.prog) (w.alloc (.cells #[] 3)) w.heap.size 30 ty 3 i0 (.int .i64 0) 1 8 Try.underlying30 hi hz0 hz1 hz2 rfl (by decide) _ 0 [] hown ad l.length c (i64s l) (by rw [i64s_len, Nat.mul_one]) (hB.below ((Below.refl _ w).alloc (Nat.le_refl _) _)).cells one_i64 (by unfold maxLen; omega) (by omega) (by simp)
    rw [Nat.zero_add, List.nil_append] at h2
    obtain ⟨A', c', rfl, k1, k2⟩ := own_shape h2
    exact ⟨A', _, c', w', hrun, Lib.hid rfl, Lib.hid (IntsAt.own h2), Lib.hid h2, Lib.hid (((Below.refl _ w).alloc (Nat.le_refl _) _).grown h3 (by simp) (fun k hk => by cases hk; exact Nat.le_refl _)), k1, k2⟩
  | none =>
    have h0 : l = [] := by
      cases l with
      | nil => rfl
      | cons y r =>
        obtain ⟨b, o, e, _⟩ := hB (by simp)
        cases e
    subst h0
    refine ⟨some ⟨w.heap.size, 0, none⟩, 0, 0, w.alloc (.cells #[] 3), ?_, Lib.hid rfl, Lib.hid (IntsAt.nil _ _), Lib.hid hown, Lib.hid ((Below.refl _ w).alloc (Nat.le_refl _) _), Nat.le_refl _, by omega⟩
    simp [Builtin.append_, run_underlying Try.underlying30, sizeOf, typeInfo, hi, Builtin.lenOf, Builtin.firstCells, storeCells]
theorem wp_app_all {w : World} {o : Oper} {a : Act} {K : Act → World → Prop} {Q : Exit → Act → World → Prop} (s x : Operand)
    (ho : o.op = .call { callee := .builtin .append, args := #[s, x], argTypes := #[30, 30] })
    (A : Option Addr) (c n : Nat) (l : List Int) (hn : n = l.length) (hB : IntsAt w A l) (H : Nat) (hH : w.heap.size = H) (hs : a.eval s = .slice (some ⟨H, 0, none⟩) 0 0) (hx : a.eval x = .slice A n c) (hl : l.length * 8 ≤ 140737488355328)
    (h : ∀ A' n' c' w2, Made w l A' n' c' w2 → K (a.put o.dst (.slice A' n' c')) w2) : o.wp Try.prog a (w.alloc (.cells #[] 3)) K Q := by
  subst hn
  subst hH
  obtain ⟨A', n', c', w2, hrun, hm⟩ := run_app_all (c := c) o.type hB hl
  unfold Oper.wp execOp
  simp only [ho, resolve, invoke, builtin, Sem.run_bind, Sem.run_pure, Result.andThen_ok, List.map_toArray, List.map_cons, List.map_nil, hs, hx, hrun]
  exact h A' n' c' w2 hm
theorem app_all {w : World} {ops : Array Oper} {rest : List Oper} {o : Oper} {a : Act} {Q : Exit → Act → World → Prop} (hgd : o.guard = none) (s x : Operand)
    (ho : o.op = .call { callee := .builtin .append, args := #[s, x], argTypes := #[30, 30] })
    (A : Option Addr) (c n : Nat) (l : List Int) (hn : n = l.length) (hB : IntsAt w A l) (H : Nat) (hH : w.heap.size = H) (hs : a.eval s = .slice (some ⟨H, 0, none⟩) 0 0) (hx : a.eval x = .slice A n c) (hl : l.length * 8 ≤ 140737488355328)
    (h : ∀ A' n' c' w2, Made w l A' n' c' w2 → wpList Try.prog ops Q rest (a.put o.dst (.slice A' n' c')) w2) : wpList Try.prog ops Q (o :: rest) a (w.alloc (.cells #[] 3)) :=
  wpList_plain hgd fun _ hK => wp_app_all s x ho A c n l hn hB H hH hs hx hl fun A' n' c' w2 hm => hK _ _ (h A' n' c' w2 hm)
theorem step_app_all {w : World} {ops : Array Oper} {o : Oper} {a : Act} {K : Act → World → Prop} {Q : Exit → Act → World → Prop} {E : Prop} (hgd : o.guard = none) (s x : Operand)
    (ho : o.op = .call { callee := .builtin .append, args := #[s, x], argTypes := #[30, 30] })
    (A : Option Addr) (c n : Nat) (l : List Int) (hn : n = l.length) (hB : IntsAt w A l) (H : Nat) (hH : w.heap.size = H) (hs : a.eval s = .slice (some ⟨H, 0, none⟩) 0 0) (hx : a.eval x = .slice A n c) (hl : l.length * 8 ≤ 140737488355328)
    (h : ∀ A' n' c' w2, Made w l A' n' c' w2 → K (a.put o.dst (.slice A' n' c')) w2) : if Region.wanted o (yielded ops a.tmps) = true then Oper.wp Try.prog o a (w.alloc (.cells #[] 3)) K Q else E := by
  have hw : Region.wanted o (yielded ops a.tmps) = true := by simp [Region.wanted, hgd]
  rw [if_pos hw]
  exact wp_app_all s x ho A c n l hn hB H hH hs hx hl h
/-- The same where the operation stands written out: it fails at once at any other. -/
theorem step_app_lit {w W : World} {ops : Array Oper} {d : Option Tmp} {s x : Operand} {ty : TypeId} {ps : String} {af : Array Edge} {a : Act} {K : Act → World → Prop} {Q : Exit → Act → World → Prop} {E : Prop}
    (A : Option Addr) (c n : Nat) (l : List Int) (hn : n = l.length) (hB : IntsAt w A l) (H : Nat) (hH : w.heap.size = H) (hW : W = w.alloc (.cells #[] 3)) (hs : a.eval s = .slice (some ⟨H, 0, none⟩) 0 0) (hx : a.eval x = .slice A n c) (hl : l.length * 8 ≤ 140737488355328)
    (h : ∀ A' n' c' w2, Made w l A' n' c' w2 → K (a.put d (.slice A' n' c')) w2) :
    if Region.wanted { dst := d, op := .call { callee := .builtin .append, args := #[s, x], argTypes := #[30, 30] }, type := ty, pos := ps, after := af, guard := none } (yielded ops a.tmps) = true
      then Oper.wp Try.prog { dst := d, op := .call { callee := .builtin .append, args := #[s, x], argTypes := #[30, 30] }, type := ty, pos := ps, after := af, guard := none } a W K Q else E := by
  subst hW
  exact step_app_all rfl s x rfl A c n l hn hB H hH hs hx hl h
theorem add_none (a : Addr) : a.add 0 = a := by unfold Addr.add; simp
theorem list_of {α : Type} [Inhabited α] {Q : Nat → α → Prop} (len : Nat) (h : ∀ i, i < len → ∃ x, Q i x) : ∃ xs : List α, xs.length = len ∧ ∀ i x, xs[i]? = some x → Q i x := by
  classical
  refine ⟨(List.range len).map fun i => if h' : i < len then Classical.choose (h i h') else default, by simp, fun i x hx => ?_⟩
  rw [List.getElem?_map] at hx
  obtain ⟨j, hj, rfl⟩ := Option.map_eq_some_iff.1 hx
  obtain ⟨hl, hj'⟩ := List.getElem?_eq_some_iff.1 hj
  have hji : i = j := by simpa using hj'
  subst hji
  have hlt : i < len := by simpa using hl
  rw [dif_pos hlt]
  exact Classical.choose_spec (h i hlt)
section
open Go.ChangeShapes Go.WideShapes Go.ChangeAt Go.Deep
theorem cells_int : Try.prog.cellsOf 3 = 1 := by kernel_rfl
theorem bytes_int : Try.prog.bytesOf 3 = 8 := by kernel_rfl
set_option maxRecDepth 100000 in
/-- Numbers that came in. -/
theorem open_nums {H : Type} {enc : TypeId × Value → H} {W : World} {base : Nat} {v : Value} {d : DataW H} {p : List MemPlace} {ts : List TypeId} {ds : List (DataW H)} {j : Nat}
    (hv : Value.okWide Try.prog W .any base 30 v) (h : DataW.Trod enc Try.prog W 0 (fun _ => true) true 30 v d p)
    (hw : (DataW.weightsEach Try.prog ts ds).all (· ≤ reachBytes) = true) (ht : ts[j]? = some 30) (hd : ds[j]? = some d) :
    ∃ A c xs, v = .slice A xs.length c ∧ IntsAt W A xs ∧ xs.length ≤ c ∧ c * 8 ≤ 140737488351232 ∧ ∀ x ∈ xs, -9223372036854775808 ≤ x ∧ x ≤ 9223372036854775807 := by
  obtain ⟨A, len, cap, rfl⟩ := okWide_slice Try.underlying30 hv
  obtain ⟨fuel, hf⟩ := h
  rcases open_slice Try.underlying30 hf with ⟨hcs, hx⟩ | ⟨a, len', cap', m, n, D, Pl, hcs, _, hl, hm, hmm, hx, hi⟩
  · simp [Value.cells] at hcs
    obtain ⟨rfl, rfl, rfl⟩ := hcs
    exact ⟨none, 0, [], rfl, IntsAt.nil _ _, Nat.le_refl _, by omega, by simp⟩
  · simp [Value.cells] at hcs
    obtain ⟨rfl, rfl, rfl⟩ := hcs
    simp only [Prod.mk.injEq] at hx
    obtain ⟨rfl, _⟩ := hx
    have hmc : m = cap := by simpa using hmm
    subst hmc
    have hcap := sized_slice hw ht hd Try.underlying30
    rw [bytes_int] at hcap
    simp only [List.length_map, List.length_range] at hcap
    obtain ⟨xs, hxl, hxs⟩ := list_of (Q := fun i (x : Int) => W.cell? (a.add i) = some (.int .i64 x) ∧ (-9223372036854775808 ≤ x ∧ x ≤ 9223372036854775807)) len (fun i hil => by
      obtain ⟨cs, hc, ht'⟩ := hi i (by omega)
      rw [cells_int, Nat.mul_one] at hc
      obtain ⟨k, e, _, hk⟩ := DataW.trod_int Try.underlying3 ht'
      obtain ⟨_, hcl, hat⟩ := World.cells?_some hc
      have hk' : -9223372036854775808 ≤ k ∧ k ≤ 9223372036854775807 := by simpa [Lit.wf, IntKind.min, IntKind.max, IntKind.signed, IntKind.bits] using hk
      have h0 := hat 0 (by decide)
      rw [e, add_none] at h0
      exact ⟨k, h0, hk'⟩)
    have hreach : reachBytes = 140737488351232 := rfl
    refine ⟨some a, m, xs, by rw [hxl], fun h0 => ?_, by omega, by omega, fun x hx => ?_⟩
    case refine_2 =>
      obtain ⟨i, hi', e⟩ := List.getElem_of_mem hx
      exact (hxs i x (by rw [List.getElem?_eq_getElem hi', e])).2
    obtain ⟨b, o, sp⟩ := a
    have c0 := (hxs 0 xs[0] (List.getElem?_eq_getElem h0)).1
    have hsp : sp = none := by simpa [Addr.add] using World.cell?_spot c0
    subst hsp
    have hlt : b < W.heap.size := by
      have := World.block_lt_of_cell? W _ c0
      simpa [Addr.add] using this
    refine ⟨b, o, rfl, hlt, fun j x hx => ?_⟩
    have c1 := (hxs j x hx).1
    rw [Addr.add_lit] at c1
    exact c1
end
end Go.Proofs.Ytbjemihcbbiiaaa
