/- A message that came in, opened to its cells. -/
import Derived.Test.YtbjemihcbbiiaaaWireF
namespace Go.Proofs.Ytbjemihcbbiiaaa
open Go.RowKit Go.ChangeShapes Go.WideShapes Go.ChangeAt Go.Deep
open WM (Msg)
set_option linter.unusedVariables false
set_option linter.unusedSimpArgs false
set_option maxRecDepth 100000
theorem c1_kind : Try.prog.cellsOf 26 = 1 := by kernel_rfl
theorem c1_verb : Try.prog.cellsOf 27 = 1 := by kernel_rfl
theorem c1_mode : Try.prog.cellsOf 28 = 1 := by kernel_rfl
theorem c1_errno : Try.prog.cellsOf 29 = 1 := by kernel_rfl
theorem c1_string : Try.prog.cellsOf 9 = 1 := by kernel_rfl
theorem c1_bool : Try.prog.cellsOf 4 = 1 := by kernel_rfl
theorem c1_ints : Try.prog.cellsOf 30 = 1 := by kernel_rfl
theorem c1_msg : Try.prog.cellsOf 32 = 16 := by kernel_rfl
/-- A message that came in: its stamp reads so. -/
structure Came (w : World) (A : Option Addr) (c : Nat) (m : Msg) : Prop where
  wide : Wide m
  ints : IntsAt w A m.stamp
  le : m.stamp.length ≤ c
  cap : c * 8 ≤ 140737488351232
theorem Came.below {w w' : World} {A : Option Addr} {c : Nat} {m : Msg} (h : Came w A c m) (hb : Below w.heap.size w w') : Came w' A c m := ⟨h.wide, h.ints.below hb, h.le, h.cap⟩
theorem open_row {H : Type} {enc : TypeId × Value → H} {W : World} {n : Nat} {cs : List Value} {d : DataW H} {pl : List MemPlace}
    (h : DataW.trod enc Try.prog W 0 (fun _ => true) true n 30 cs = some (d, pl)) (hw : ∀ m ∈ d.weights Try.prog 30, m ≤ reachBytes) :
    ∃ A c xs, cs = [.slice A (List.length xs) c] ∧ IntsAt W A xs ∧ xs.length ≤ c ∧ c * 8 ≤ 140737488351232 ∧ ∀ x ∈ xs, In64 x := by
  rcases open_slice Try.underlying30 h with ⟨hcs, hx⟩ | ⟨a, len', cap', m, n, D, Pl, hcs, _, hl, hm, hmm, hx, hi⟩
  · exact ⟨none, 0, [], hcs, IntsAt.nil _ _, Nat.le_refl _, by omega, by simp⟩
  · simp only [Prod.mk.injEq] at hx
    obtain ⟨rfl, _⟩ := hx
    have hmc : m = cap' := by simpa using hmm
    subst hmc
    have hcap := hw ((((List.range len').map D).length + ((List.range (m - len')).map fun j => D (len' + j)).length) * Try.prog.bytesOf 3) (by simp [DataW.weights, Try.underlying30])
    rw [bytes_int] at hcap
    simp only [List.length_map, List.length_range] at hcap
    obtain ⟨xs, hxl, hxs⟩ := list_of (Q := fun i (x : Int) => W.cell? (a.add i) = some (.int .i64 x) ∧ In64 x) len' (fun i hil => by
      obtain ⟨cs, hc, ht'⟩ := hi i (by omega)
      rw [cells_int, Nat.mul_one] at hc
      obtain ⟨k, e, _, hk⟩ := DataW.trod_int Try.underlying3 ht'
      obtain ⟨_, hcl, hat⟩ := World.cells?_some hc
      have hk' : In64 k := by unfold In64; simpa [Lit.wf, IntKind.min, IntKind.max, IntKind.signed, IntKind.bits] using hk
      have h0 := hat 0 (by decide)
      rw [e, add_none] at h0
      exact ⟨k, h0, hk'⟩)
    have hreach : reachBytes = 140737488351232 := rfl
    refine ⟨some a, m, xs, by rw [hxl]; exact hcs, fun h0 => ?_, by omega, by omega, fun x hx => ?_⟩
    case refine_2 =>
      obtain ⟨i, hi', e⟩ := List.getElem_of_mem hx
      exact (hxs i x (by rw [List.getElem?_eq_getElem hi', e])).2
    obtain ⟨b, o, sp⟩ := a
    have c0 := (hxs 0 xs[0] (List.getElem?_eq_getElem h0)).1
    have hsp : sp = none := by simpa [Addr.add] using World.cell?_spot c0
    subst hsp
    have hlt : b < W.heap.size := by
      have := World.block_lt_of_cell? W _ c0
      simpa [Addr.add] using this
    refine ⟨b, o, rfl, hlt, fun j x hx => ?_⟩
    have c1 := (hxs j x hx).1
    rw [Addr.add_lit] at c1
    exact c1
theorem in64_of {k : Int} (hk : (Lit.int .i64 k).wf = true) : In64 k := by unfold In64; simpa [Lit.wf, IntKind.min, IntKind.max, IntKind.signed, IntKind.bits] using hk
set_option maxHeartbeats 4000000 in
theorem msg_vals {H : Type} {enc : TypeId × Value → H} {W : World} {n : Nat} {d : DataW H} {pl : List MemPlace} {cs : List Value}
    (hcl : cs.length = 16) (h : DataW.trod enc Try.prog W 0 (fun _ => true) true n 32 cs = some (d, pl)) (hw : ∀ m ∈ d.weights Try.prog 32, m ≤ reachBytes) :
    ∃ (A : Option Addr) (c : Nat) (m : Msg), cs = (cellsM m (.slice A m.stamp.length c)).toList ∧ Came W A c m := by
  obtain ⟨ys, n', _, hy, _, hyl, hf⟩ := DataW.trod_struct Try.underlying32 h
  match cs, hcl with
  | [v0, v1, v2, v3, v4, v5, v6, v7, v8, v9, v10, v11, v12, v13, v14, v15], _ =>
    match ys, hyl with
    | [y0, y1, y2, y3, y4, y5, y6, y7, y8, y9, y10, y11, y12, y13, y14, y15], _ =>
      simp only [Prod.mk.injEq, List.map_cons, List.map_nil] at hy
      obtain ⟨rfl, _⟩ := hy
      have f0 : DataW.trod enc Try.prog W 0 (fun _ => true) true n' 26 [v0] = some y0 := by
        have h := hf 0 _ rfl
        have e : List.take (Try.prog.cellsOf 26) (List.drop 0 [v0, v1, v2, v3, v4, v5, v6, v7, v8, v9, v10, v11, v12, v13, v14, v15]) = [v0] := by rw [c1_kind]; rfl
        exact (congrArg (DataW.trod enc Try.prog W 0 (fun _ => true) true n' 26) e.symm).trans h
      have f1 : DataW.trod enc Try.prog W 0 (fun _ => true) true n' 3 [v1] = some y1 := by
        have h := hf 1 _ rfl
        have e : List.take (Try.prog.cellsOf 3) (List.drop 1 [v0, v1, v2, v3, v4, v5, v6, v7, v8, v9, v10, v11, v12, v13, v14, v15]) = [v1] := by rw [cells_int]; rfl
        exact (congrArg (DataW.trod enc Try.prog W 0 (fun _ => true) true n' 3) e.symm).trans h
      have f2 : DataW.trod enc Try.prog W 0 (fun _ => true) true n' 3 [v2] = some y2 := by
        have h := hf 2 _ rfl
        have e : List.take (Try.prog.cellsOf 3) (List.drop 2 [v0, v1, v2, v3, v4, v5, v6, v7, v8, v9, v10, v11, v12, v13, v14, v15]) = [v2] := by rw [cells_int]; rfl
        exact (congrArg (DataW.trod enc Try.prog W 0 (fun _ => true) true n' 3) e.symm).trans h
      have f3 : DataW.trod enc Try.prog W 0 (fun _ => true) true n' 3 [v3] = some y3 := by
        have h := hf 3 _ rfl
        have e : List.take (Try.prog.cellsOf 3) (List.drop 3 [v0, v1, v2, v3, v4, v5, v6, v7, v8, v9, v10, v11, v12, v13, v14, v15]) = [v3] := by rw [cells_int]; rfl
        exact (congrArg (DataW.trod enc Try.prog W 0 (fun _ => true) true n' 3) e.symm).trans h
      have f4 : DataW.trod enc Try.prog W 0 (fun _ => true) true n' 3 [v4] = some y4 := by
        have h := hf 4 _ rfl
        have e : List.take (Try.prog.cellsOf 3) (List.drop 4 [v0, v1, v2, v3, v4, v5, v6, v7, v8, v9, v10, v11, v12, v13, v14, v15]) = [v4] := by rw [cells_int]; rfl
        exact (congrArg (DataW.trod enc Try.prog W 0 (fun _ => true) true n' 3) e.symm).trans h
      have f5 : DataW.trod enc Try.prog W 0 (fun _ => true) true n' 3 [v5] = some y5 := by
        have h := hf 5 _ rfl
        have e : List.take (Try.prog.cellsOf 3) (List.drop 5 [v0, v1, v2, v3, v4, v5, v6, v7, v8, v9, v10, v11, v12, v13, v14, v15]) = [v5] := by rw [cells_int]; rfl
        exact (congrArg (DataW.trod enc Try.prog W 0 (fun _ => true) true n' 3) e.symm).trans h
      have f6 : DataW.trod enc Try.prog W 0 (fun _ => true) true n' 27 [v6] = some y6 := by
        have h := hf 6 _ rfl
        have e : List.take (Try.prog.cellsOf 27) (List.drop 6 [v0, v1, v2, v3, v4, v5, v6, v7, v8, v9, v10, v11, v12, v13, v14, v15]) = [v6] := by rw [c1_verb]; rfl
        exact (congrArg (DataW.trod enc Try.prog W 0 (fun _ => true) true n' 27) e.symm).trans h
      have f7 : DataW.trod enc Try.prog W 0 (fun _ => true) true n' 9 [v7] = some y7 := by
        have h := hf 7 _ rfl
        have e : List.take (Try.prog.cellsOf 9) (List.drop 7 [v0, v1, v2, v3, v4, v5, v6, v7, v8, v9, v10, v11, v12, v13, v14, v15]) = [v7] := by rw [c1_string]; rfl
        exact (congrArg (DataW.trod enc Try.prog W 0 (fun _ => true) true n' 9) e.symm).trans h
      have f8 : DataW.trod enc Try.prog W 0 (fun _ => true) true n' 28 [v8] = some y8 := by
        have h := hf 8 _ rfl
        have e : List.take (Try.prog.cellsOf 28) (List.drop 8 [v0, v1, v2, v3, v4, v5, v6, v7, v8, v9, v10, v11, v12, v13, v14, v15]) = [v8] := by rw [c1_mode]; rfl
        exact (congrArg (DataW.trod enc Try.prog W 0 (fun _ => true) true n' 28) e.symm).trans h
      have f9 : DataW.trod enc Try.prog W 0 (fun _ => true) true n' 3 [v9] = some y9 := by
        have h := hf 9 _ rfl
        have e : List.take (Try.prog.cellsOf 3) (List.drop 9 [v0, v1, v2, v3, v4, v5, v6, v7, v8, v9, v10, v11, v12, v13, v14, v15]) = [v9] := by rw [cells_int]; rfl
        exact (congrArg (DataW.trod enc Try.prog W 0 (fun _ => true) true n' 3) e.symm).trans h
      have f10 : DataW.trod enc Try.prog W 0 (fun _ => true) true n' 3 [v10] = some y10 := by
        have h := hf 10 _ rfl
        have e : List.take (Try.prog.cellsOf 3) (List.drop 10 [v0, v1, v2, v3, v4, v5, v6, v7, v8, v9, v10, v11, v12, v13, v14, v15]) = [v10] := by rw [cells_int]; rfl
        exact (congrArg (DataW.trod enc Try.prog W 0 (fun _ => true) true n' 3) e.symm).trans h
      have f11 : DataW.trod enc Try.prog W 0 (fun _ => true) true n' 4 [v11] = some y11 := by
        have h := hf 11 _ rfl
        have e : List.take (Try.prog.cellsOf 4) (List.drop 11 [v0, v1, v2, v3, v4, v5, v6, v7, v8, v9, v10, v11, v12, v13, v14, v15]) = [v11] := by rw [c1_bool]; rfl
        exact (congrArg (DataW.trod enc Try.prog W 0 (fun _ => true) true n' 4) e.symm).trans h
      have f12 : DataW.trod enc Try.prog W 0 (fun _ => true) true n' 29 [v12] = some y12 := by
        have h := hf 12 _ rfl
        have e : List.take (Try.prog.cellsOf 29) (List.drop 12 [v0, v1, v2, v3, v4, v5, v6, v7, v8, v9, v10, v11, v12, v13, v14, v15]) = [v12] := by rw [c1_errno]; rfl
        exact (congrArg (DataW.trod enc Try.prog W 0 (fun _ => true) true n' 29) e.symm).trans h
      have f13 : DataW.trod enc Try.prog W 0 (fun _ => true) true n' 30 [v13] = some y13 := by
        have h := hf 13 _ rfl
        have e : List.take (Try.prog.cellsOf 30) (List.drop 13 [v0, v1, v2, v3, v4, v5, v6, v7, v8, v9, v10, v11, v12, v13, v14, v15]) = [v13] := by rw [c1_ints]; rfl
        exact (congrArg (DataW.trod enc Try.prog W 0 (fun _ => true) true n' 30) e.symm).trans h
      have f14 : DataW.trod enc Try.prog W 0 (fun _ => true) true n' 3 [v14] = some y14 := by
        have h := hf 14 _ rfl
        have e : List.take (Try.prog.cellsOf 3) (List.drop 14 [v0, v1, v2, v3, v4, v5, v6, v7, v8, v9, v10, v11, v12, v13, v14, v15]) = [v14] := by rw [cells_int]; rfl
        exact (congrArg (DataW.trod enc Try.prog W 0 (fun _ => true) true n' 3) e.symm).trans h
      have f15 : DataW.trod enc Try.prog W 0 (fun _ => true) true n' 3 [v15] = some y15 := by
        have h := hf 15 _ rfl
        have e : List.take (Try.prog.cellsOf 3) (List.drop 15 [v0, v1, v2, v3, v4, v5, v6, v7, v8, v9, v10, v11, v12, v13, v14, v15]) = [v15] := by rw [cells_int]; rfl
        exact (congrArg (DataW.trod enc Try.prog W 0 (fun _ => true) true n' 3) e.symm).trans h
      clear hf h
      obtain ⟨x0, e0, g0, h0⟩ := DataW.trod_int Try.underlying26 f0
      obtain ⟨x1, e1, g1, h1⟩ := DataW.trod_int Try.underlying3 f1
      obtain ⟨x2, e2, g2, h2⟩ := DataW.trod_int Try.underlying3 f2
      obtain ⟨x3, e3, g3, h3⟩ := DataW.trod_int Try.underlying3 f3
      obtain ⟨x4, e4, g4, h4⟩ := DataW.trod_int Try.underlying3 f4
      obtain ⟨x5, e5, g5, h5⟩ := DataW.trod_int Try.underlying3 f5
      obtain ⟨x6, e6, g6, h6⟩ := DataW.trod_int Try.underlying27 f6
      obtain ⟨x7, e7, g7, _⟩ := DataW.trod_string Try.underlying9 f7
      obtain ⟨x8, e8, g8, h8⟩ := DataW.trod_int Try.underlying28 f8
      obtain ⟨x9, e9, g9, h9⟩ := DataW.trod_int Try.underlying3 f9
      obtain ⟨x10, e10, g10, h10⟩ := DataW.trod_int Try.underlying3 f10
      obtain ⟨x11, e11, g11⟩ := DataW.trod_bool Try.underlying4 f11
      obtain ⟨x12, e12, g12, h12⟩ := DataW.trod_int Try.underlying29 f12
      obtain ⟨A, c, x13, e13, hI, hle, hcap, hin⟩ := open_row (d := y13.1) (pl := y13.2) f13 (fun m hm => hw m (by
        simp only [DataW.weights, Try.underlying32]
        exact DataW.weights_mem_each (j := 13) rfl rfl _ hm))
      obtain ⟨x14, e14, g14, h14⟩ := DataW.trod_int Try.underlying3 f14
      obtain ⟨x15, e15, g15, h15⟩ := DataW.trod_int Try.underlying3 f15
      have hsz : x7.size ≤ 140737488351232 := by
        refine hw _ ?_
        simp only [DataW.weights, Try.underlying32]
        refine DataW.weights_mem_each (j := 7) rfl rfl _ ?_
        rw [g7]
        have e : x7.data.toList.length = x7.size := rfl
        simp [DataW.weights, e]
      injection e0 with e0 _
      subst e0
      injection e1 with e1 _
      subst e1
      injection e2 with e2 _
      subst e2
      injection e3 with e3 _
      subst e3
      injection e4 with e4 _
      subst e4
      injection e5 with e5 _
      subst e5
      injection e6 with e6 _
      subst e6
      injection e7 with e7 _
      subst e7
      injection e8 with e8 _
      subst e8
      injection e9 with e9 _
      subst e9
      injection e10 with e10 _
      subst e10
      injection e11 with e11 _
      subst e11
      injection e12 with e12 _
      subst e12
      injection e13 with e13 _
      subst e13
      injection e14 with e14 _
      subst e14
      injection e15 with e15 _
      subst e15
      exact ⟨A, c, ⟨x0, x1, x2, x3, x4, x5, x6, x7, x8, x9, x10, x11, x12, x13, x14, x15⟩, rfl, ⟨in64_of h0, in64_of h1, in64_of h2, in64_of h3, in64_of h4, in64_of h5, in64_of h6, in64_of h8, in64_of h9, in64_of h10, in64_of h12, in64_of h14, in64_of h15, hin, hsz⟩, hI, hle, hcap⟩
/-- A message that came in. -/
theorem open_msg {H : Type} {enc : TypeId × Value → H} {W : World} {base : Nat} {v : Value} {d : DataW H} {p : List MemPlace} {ts : List TypeId} {ds : List (DataW H)} {j : Nat}
    (hv : Value.okWide Try.prog W .any base 32 v) (h : DataW.Trod enc Try.prog W 0 (fun _ => true) true 32 v d p)
    (hw : (DataW.weightsEach Try.prog ts ds).all (· ≤ reachBytes) = true) (ht : ts[j]? = some 32) (hd : ds[j]? = some d) :
    ∃ (A : Option Addr) (c : Nat) (m : Msg), v = .agg (cellsM m (.slice A m.stamp.length c)) ∧ Came W A c m := by
  obtain ⟨cs, rfl, hc⟩ := okWide_struct Try.underlying32 hv
  obtain ⟨fuel, hf⟩ := h
  rw [c1_msg] at hc
  obtain ⟨A, c, m, e, hm⟩ := msg_vals (cs := (Value.agg cs).cells.toList) (by simpa [Value.cells] using hc) hf (fun x hx => by
    have := List.all_eq_true.1 hw _ (DataW.weights_mem_each ht hd _ hx)
    simpa using this)
  refine ⟨A, c, m, ?_, hm⟩
  have h1 : cs.toList = (cellsM m (.slice A m.stamp.length c)).toList := by simpa [Value.cells] using e
  rw [Array.toList_inj.1 h1]
end Go.Proofs.Ytbjemihcbbiiaaa
