/- Calls, lists of calls and of what is done to calls, that came in, opened to their cells. -/
import Derived.Test.YtnacchldecjcaaaCaC
import Derived.Test.YtnacchldecjcaaaInts
import Derived.Test.YtnacchldecjcaaaRows
import Derived.OpenShut
import Derived.JoinedCond
import Derived.SizedLaws
import Derived.Deep.Slices
import Derived.Deep.CondSized
namespace Go.Proofs.Ytnacchldecjcaaa
open Go.RowKit Go.ChangeShapes Go.WideShapes Go.ChangeAt Go.Deep
open CA (Cl St)
set_option linter.unusedVariables false
set_option linter.unusedSimpArgs false
set_option maxRecDepth 100000
theorem c1_int : Try.prog.cellsOf 3 = 1 := by kernel_rfl
theorem c1_verb : Try.prog.cellsOf 29 = 1 := by kernel_rfl
theorem c1_mode : Try.prog.cellsOf 30 = 1 := by kernel_rfl
theorem c1_string : Try.prog.cellsOf 9 = 1 := by kernel_rfl
theorem c1_bool : Try.prog.cellsOf 4 = 1 := by kernel_rfl
theorem c1_cl : Try.prog.cellsOf 32 = 10 := by kernel_rfl
theorem c1_op : Try.prog.cellsOf 39 = 13 := by kernel_rfl
theorem in64_of {k : Int} (hk : (Lit.int .i64 k).wf = true) : In64 k := by unfold In64; simpa [Lit.wf, IntKind.min, IntKind.max, IntKind.signed, IntKind.bits] using hk
set_option maxHeartbeats 4000000 in
theorem cl_vals {H : Type} {enc : TypeId × Value → H} {W : World} {n : Nat} {d : DataW H} {pl : List MemPlace} {cs : List Value}
    (hcl : cs.length = 10) (h : DataW.trod enc Try.prog W 0 (fun _ => true) true n 32 cs = some (d, pl)) (hw : ∀ m ∈ d.weights Try.prog 32, m ≤ reachBytes) :
    ∃ (x : Cl), cs = c10 x ∧ ClW x := by
  obtain ⟨ys, n', _, hy, _, hyl, hf⟩ := DataW.trod_struct Try.underlying32 h
  match cs, hcl with
  | [v0, v1, v2, v3, v4, v5, v6, v7, v8, v9], _ =>
    match ys, hyl with
    | [y0, y1, y2, y3, y4, y5, y6, y7, y8, y9], _ =>
      simp only [Prod.mk.injEq, List.map_cons, List.map_nil] at hy
      obtain ⟨rfl, _⟩ := hy
      have f0 : DataW.trod enc Try.prog W 0 (fun _ => true) true n' 3 [v0] = some y0 := by
        have h := hf 0 _ rfl
        have e : List.take (Try.prog.cellsOf 3) (List.drop 0 [v0, v1, v2, v3, v4, v5, v6, v7, v8, v9]) = [v0] := by rw [c1_int]; rfl
        exact (congrArg (DataW.trod enc Try.prog W 0 (fun _ => true) true n' 3) e.symm).trans h
      have f1 : DataW.trod enc Try.prog W 0 (fun _ => true) true n' 3 [v1] = some y1 := by
        have h := hf 1 _ rfl
        have e : List.take (Try.prog.cellsOf 3) (List.drop 1 [v0, v1, v2, v3, v4, v5, v6, v7, v8, v9]) = [v1] := by rw [c1_int]; rfl
        exact (congrArg (DataW.trod enc Try.prog W 0 (fun _ => true) true n' 3) e.symm).trans h
      have f2 : DataW.trod enc Try.prog W 0 (fun _ => true) true n' 29 [v2] = some y2 := by
        have h := hf 2 _ rfl
        have e : List.take (Try.prog.cellsOf 29) (List.drop 2 [v0, v1, v2, v3, v4, v5, v6, v7, v8, v9]) = [v2] := by rw [c1_verb]; rfl
        exact (congrArg (DataW.trod enc Try.prog W 0 (fun _ => true) true n' 29) e.symm).trans h
      have f3 : DataW.trod enc Try.prog W 0 (fun _ => true) true n' 9 [v3] = some y3 := by
        have h := hf 3 _ rfl
        have e : List.take (Try.prog.cellsOf 9) (List.drop 3 [v0, v1, v2, v3, v4, v5, v6, v7, v8, v9]) = [v3] := by rw [c1_string]; rfl
        exact (congrArg (DataW.trod enc Try.prog W 0 (fun _ => true) true n' 9) e.symm).trans h
      have f4 : DataW.trod enc Try.prog W 0 (fun _ => true) true n' 30 [v4] = some y4 := by
        have h := hf 4 _ rfl
        have e : List.take (Try.prog.cellsOf 30) (List.drop 4 [v0, v1, v2, v3, v4, v5, v6, v7, v8, v9]) = [v4] := by rw [c1_mode]; rfl
        exact (congrArg (DataW.trod enc Try.prog W 0 (fun _ => true) true n' 30) e.symm).trans h
      have f5 : DataW.trod enc Try.prog W 0 (fun _ => true) true n' 3 [v5] = some y5 := by
        have h := hf 5 _ rfl
        have e : List.take (Try.prog.cellsOf 3) (List.drop 5 [v0, v1, v2, v3, v4, v5, v6, v7, v8, v9]) = [v5] := by rw [c1_int]; rfl
        exact (congrArg (DataW.trod enc Try.prog W 0 (fun _ => true) true n' 3) e.symm).trans h
      have f6 : DataW.trod enc Try.prog W 0 (fun _ => true) true n' 3 [v6] = some y6 := by
        have h := hf 6 _ rfl
        have e : List.take (Try.prog.cellsOf 3) (List.drop 6 [v0, v1, v2, v3, v4, v5, v6, v7, v8, v9]) = [v6] := by rw [c1_int]; rfl
        exact (congrArg (DataW.trod enc Try.prog W 0 (fun _ => true) true n' 3) e.symm).trans h
      have f7 : DataW.trod enc Try.prog W 0 (fun _ => true) true n' 4 [v7] = some y7 := by
        have h := hf 7 _ rfl
        have e : List.take (Try.prog.cellsOf 4) (List.drop 7 [v0, v1, v2, v3, v4, v5, v6, v7, v8, v9]) = [v7] := by rw [c1_bool]; rfl
        exact (congrArg (DataW.trod enc Try.prog W 0 (fun _ => true) true n' 4) e.symm).trans h
      have f8 : DataW.trod enc Try.prog W 0 (fun _ => true) true n' 3 [v8] = some y8 := by
        have h := hf 8 _ rfl
        have e : List.take (Try.prog.cellsOf 3) (List.drop 8 [v0, v1, v2, v3, v4, v5, v6, v7, v8, v9]) = [v8] := by rw [c1_int]; rfl
        exact (congrArg (DataW.trod enc Try.prog W 0 (fun _ => true) true n' 3) e.symm).trans h
      have f9 : DataW.trod enc Try.prog W 0 (fun _ => true) true n' 3 [v9] = some y9 := by
        have h := hf 9 _ rfl
        have e : List.take (Try.prog.cellsOf 3) (List.drop 9 [v0, v1, v2, v3, v4, v5, v6, v7, v8, v9]) = [v9] := by rw [c1_int]; rfl
        exact (congrArg (DataW.trod enc Try.prog W 0 (fun _ => true) true n' 3) e.symm).trans h
      clear hf h
      obtain ⟨x0, e0, g0, h0⟩ := DataW.trod_int Try.underlying3 f0
      obtain ⟨x1, e1, g1, h1⟩ := DataW.trod_int Try.underlying3 f1
      obtain ⟨x2, e2, g2, h2⟩ := DataW.trod_int Try.underlying29 f2
      obtain ⟨x3, e3, g3, _⟩ := DataW.trod_string Try.underlying9 f3
      obtain ⟨x4, e4, g4, h4⟩ := DataW.trod_int Try.underlying30 f4
      obtain ⟨x5, e5, g5, h5⟩ := DataW.trod_int Try.underlying3 f5
      obtain ⟨x6, e6, g6, h6⟩ := DataW.trod_int Try.underlying3 f6
      obtain ⟨x7, e7, g7⟩ := DataW.trod_bool Try.underlying4 f7
      obtain ⟨x8, e8, g8, h8⟩ := DataW.trod_int Try.underlying3 f8
      obtain ⟨x9, e9, g9, h9⟩ := DataW.trod_int Try.underlying3 f9
      have hsz : x3.size ≤ 140737488351232 := by
        refine hw _ ?_
        simp only [DataW.weights, Try.underlying32]
        refine DataW.weights_mem_each (j := 3) rfl rfl _ ?_
        rw [g3]
        have e : x3.data.toList.length = x3.size := rfl
        simp [DataW.weights, e]
      injection e0 with e0
      injection e1 with e1
      injection e2 with e2
      injection e3 with e3
      injection e4 with e4
      injection e5 with e5
      injection e6 with e6
      injection e7 with e7
      injection e8 with e8
      injection e9 with e9
      subst e0 e1 e2 e3 e4 e5 e6 e7 e8 e9
      exact ⟨⟨x0, x1, x2, x3, x4, x5, x6, x7, x8, x9⟩, rfl, ⟨in64_of h0, in64_of h1, in64_of h2, in64_of h4, in64_of h5, in64_of h6, in64_of h8, in64_of h9, hsz⟩⟩
/-- What is done to calls. -/
structure Op where
  kind : Int
  n : Int
  frm : Int
  x : Cl
instance instOp : Inhabited Op := ⟨⟨0, 0, 0, default⟩⟩
def c13 (o : Op) : List Value := .int .i64 o.kind :: .int .i64 o.n :: .int .i64 o.frm :: c10 o.x
/-- It is of 64 bits. -/
structure OpW (o : Op) : Prop where
  kind : In64 o.kind
  n : In64 o.n
  frm : In64 o.frm
  x : ClW o.x
set_option maxHeartbeats 4000000 in
theorem op_vals {H : Type} {enc : TypeId × Value → H} {W : World} {n : Nat} {d : DataW H} {pl : List MemPlace} {cs : List Value}
    (hcl : cs.length = 13) (h : DataW.trod enc Try.prog W 0 (fun _ => true) true n 39 cs = some (d, pl)) (hw : ∀ m ∈ d.weights Try.prog 39, m ≤ reachBytes) :
    ∃ (o : Op), cs = c13 o ∧ OpW o := by
  obtain ⟨ys, n', _, hy, _, hyl, hf⟩ := DataW.trod_struct Try.underlying39 h
  match cs, hcl with
  | [v0, v1, v2, v3, v4, v5, v6, v7, v8, v9, v10, v11, v12], _ =>
    match ys, hyl with
    | [y0, y1, y2, y3], _ =>
      simp only [Prod.mk.injEq, List.map_cons, List.map_nil] at hy
      obtain ⟨rfl, _⟩ := hy
      have f0 : DataW.trod enc Try.prog W 0 (fun _ => true) true n' 3 [v0] = some y0 := by
        have h := hf 0 _ rfl
        have e : List.take (Try.prog.cellsOf 3) (List.drop 0 [v0, v1, v2, v3, v4, v5, v6, v7, v8, v9, v10, v11, v12]) = [v0] := by rw [c1_int]; rfl
        exact (congrArg (DataW.trod enc Try.prog W 0 (fun _ => true) true n' 3) e.symm).trans h
      have f1 : DataW.trod enc Try.prog W 0 (fun _ => true) true n' 3 [v1] = some y1 := by
        have h := hf 1 _ rfl
        have e : List.take (Try.prog.cellsOf 3) (List.drop 1 [v0, v1, v2, v3, v4, v5, v6, v7, v8, v9, v10, v11, v12]) = [v1] := by rw [c1_int]; rfl
        exact (congrArg (DataW.trod enc Try.prog W 0 (fun _ => true) true n' 3) e.symm).trans h
      have f2 : DataW.trod enc Try.prog W 0 (fun _ => true) true n' 3 [v2] = some y2 := by
        have h := hf 2 _ rfl
        have e : List.take (Try.prog.cellsOf 3) (List.drop 2 [v0, v1, v2, v3, v4, v5, v6, v7, v8, v9, v10, v11, v12]) = [v2] := by rw [c1_int]; rfl
        exact (congrArg (DataW.trod enc Try.prog W 0 (fun _ => true) true n' 3) e.symm).trans h
      have f3 : DataW.trod enc Try.prog W 0 (fun _ => true) true n' 32 [v3, v4, v5, v6, v7, v8, v9, v10, v11, v12] = some y3 := by
        have h := hf 3 _ rfl
        have e : List.take (Try.prog.cellsOf 32) (List.drop 3 [v0, v1, v2, v3, v4, v5, v6, v7, v8, v9, v10, v11, v12]) = [v3, v4, v5, v6, v7, v8, v9, v10, v11, v12] := by rw [c1_cl]; rfl
        exact (congrArg (DataW.trod enc Try.prog W 0 (fun _ => true) true n' 32) e.symm).trans h
      clear hf h
      obtain ⟨x0, e0, g0, h0⟩ := DataW.trod_int Try.underlying3 f0
      obtain ⟨x1, e1, g1, h1⟩ := DataW.trod_int Try.underlying3 f1
      obtain ⟨x2, e2, g2, h2⟩ := DataW.trod_int Try.underlying3 f2
      obtain ⟨x, e3, hm⟩ := cl_vals (d := y3.1) (pl := y3.2) rfl f3 (fun m hm => hw m (by
        simp only [DataW.weights, Try.underlying39]
        exact DataW.weights_mem_each (j := 3) rfl rfl _ hm))
      injection e0 with e0
      injection e1 with e1
      injection e2 with e2
      subst e0 e1 e2
      refine ⟨⟨x0, x1, x2, x⟩, ?_, in64_of h0, in64_of h1, in64_of h2, hm⟩
      unfold c13
      rw [← e3]
theorem bulk_one {H : Type} (d : DataW H) : 1 ≤ Rows.uptoBulk d := by
  cases d with
  | lit l => cases l <;> simp [Rows.uptoBulk]
  | _ => simp [Rows.uptoBulk]
theorem bulk_all {H : Type} : ∀ (l : List (DataW H)), l.length ≤ Rows.uptoBulkAll l
  | [] => Nat.zero_le _
  | d :: r => by
    have h1 := bulk_one d
    have h2 := bulk_all r
    simp only [Rows.uptoBulkAll, List.length_cons]
    omega
theorem weights_all {H : Type} {e : TypeId} {m : Nat} : ∀ {l : List (DataW H)} {d : DataW H}, d ∈ l → m ∈ d.weights Try.prog e → m ∈ DataW.weightsAll Try.prog e l
  | x :: r, d, hd, hm => by
    simp only [DataW.weightsAll, List.mem_append]
    rcases List.mem_cons.1 hd with rfl | hd
    · exact .inl hm
    · exact .inr (weights_all hd hm)
/-- A list that came in: what holds of each element's cells. -/
theorem open_list {α : Type} [Inhabited α] {H : Type} {enc : TypeId × Value → H} {W : World} {base : Nat} {v : Value} {d : DataW H} {p : List MemPlace} {ts : List TypeId} {ds : List (DataW H)} {j : Nat}
    (T sT : TypeId) (z : Nat) (hsT : Try.prog.underlying sT = some (.slice T)) (hz : Try.prog.cellsOf T = z) (h0z : 0 < z) (Q : α → List Value → Prop)
    (hval : ∀ (n : Nat) (cs : List Value) (d : DataW H) (pl : List MemPlace), cs.length = z → DataW.trod enc Try.prog W 0 (fun _ => true) true n T cs = some (d, pl) → (∀ m ∈ d.weights Try.prog T, m ≤ reachBytes) → ∃ x, Q x cs)
    (hv : Value.okWide Try.prog W .any base sT v) (h : DataW.Trod enc Try.prog W 0 (fun _ => true) true sT v d p)
    (hw : (DataW.weightsEach Try.prog ts ds).all (· ≤ reachBytes) = true) (ht : ts[j]? = some sT) (hd : ds[j]? = some d) :
    ∃ (A : Option Addr) (c : Nat) (xs : List α), v = .slice A xs.length c ∧ xs.length ≤ c ∧ c * Try.prog.bytesOf T ≤ reachBytes ∧ xs.length ≤ Rows.uptoBulk d ∧
      (0 < xs.length → ∃ b o, A = some ⟨b, o, none⟩ ∧ b < W.heap.size ∧ ∀ i x, xs[i]? = some x → ∃ cs : List Value, cs.length = z ∧ Q x cs ∧ ∀ k, k < z → W.cell? ⟨b, o + i * z + k, none⟩ = cs[k]?) := by
  obtain ⟨A, len, cap, rfl⟩ := okWide_slice hsT hv
  obtain ⟨fuel, hf⟩ := h
  rcases open_slice hsT hf with ⟨hcs, hx⟩ | ⟨a, len', cap', m, n, D, Pl, hcs, _, hl, hm, hmm, hx, hi⟩
  · simp [Value.cells] at hcs
    obtain ⟨rfl, rfl, rfl⟩ := hcs
    exact ⟨none, 0, [], rfl, Nat.le_refl _, by omega, Nat.zero_le _, fun h => absurd h (Nat.lt_irrefl 0)⟩
  · simp [Value.cells] at hcs
    obtain ⟨rfl, rfl, rfl⟩ := hcs
    simp only [Prod.mk.injEq] at hx
    obtain ⟨rfl, _⟩ := hx
    have hmc : m = cap := by simpa using hmm
    subst hmc
    have hcap := sized_slice hw ht hd hsT
    simp only [List.length_map, List.length_range] at hcap
    have hwt : ∀ i, i < len → ∀ k ∈ (D i).weights Try.prog T, k ≤ reachBytes := fun i hil k hk => by
      have h1 := List.all_eq_true.1 hw k (DataW.weights_mem_each ht hd _ (by
        simp only [DataW.weights, hsT, List.mem_cons, List.mem_append]
        exact .inr (.inl (weights_all (List.mem_map.2 ⟨i, List.mem_range.2 hil, rfl⟩) hk))))
      simpa using h1
    obtain ⟨xs, hxl, hxs⟩ := list_of (Q := fun i (x : α) => ∃ cs : List Value, cs.length = z ∧ Q x cs ∧ ∀ k, k < z → W.cell? ((a.add (i * z)).add k) = cs[k]?) len (fun i hil => by
      obtain ⟨cs, hc, ht'⟩ := hi i (by omega)
      rw [hz] at hc
      obtain ⟨_, hcl, hat⟩ := World.cells?_some hc
      obtain ⟨x, hQ⟩ := hval _ cs _ _ hcl ht' (hwt i hil)
      exact ⟨x, cs, hcl, hQ, hat⟩)
    have hb := bulk_all ((List.range len).map D)
    rw [List.length_map, List.length_range] at hb
    refine ⟨some a, m, xs, by rw [hxl], by omega, ?_, ?_, fun h0 => ?_⟩
    · have e : len + (m - len) = m := by omega
      rw [e] at hcap
      exact hcap
    · rw [hxl]
      simp only [Rows.uptoBulk]
      omega
    obtain ⟨b, o, sp⟩ := a
    obtain ⟨cs0, hcl0, _, hat0⟩ := hxs 0 xs[0] (List.getElem?_eq_getElem h0)
    have c0 := hat0 0 h0z
    rw [List.getElem?_eq_getElem (by omega)] at c0
    have hsp : sp = none := by simpa [Addr.add] using World.cell?_spot c0
    subst hsp
    have hlt : b < W.heap.size := by
      have := World.block_lt_of_cell? W _ c0
      simpa [Addr.add] using this
    refine ⟨b, o, rfl, hlt, fun i x hx => ?_⟩
    obtain ⟨cs, hcl, hQ, hat⟩ := hxs i x hx
    refine ⟨cs, hcl, hQ, fun k hk => ?_⟩
    have h1 := hat k hk
    rw [Addr.add_lit, Addr.add_lit] at h1
    exact h1
/-- A list of calls that reads so. -/
def ClsAt (w : World) (A : Option Addr) (xs : List Cl) : Prop :=
  0 < xs.length → ∃ b o, A = some ⟨b, o, none⟩ ∧ b < w.heap.size ∧ ∀ j x, xs[j]? = some x → ∀ k v, (c10 x)[k]? = some v → w.cell? ⟨b, o + (j * 10 + k), none⟩ = some v
theorem ClsAt.mod {w w' : World} {A : Option Addr} {xs : List Cl} {F : List Nat} (h : ClsAt w A xs) (hm : Mod F w w') (hn : ∀ ad, A = some ad → ad.block ∉ F) : ClsAt w' A xs := fun h0 => by
  obtain ⟨b, o, e, hlt, hc⟩ := h h0
  exact ⟨b, o, e, Nat.lt_of_lt_of_le hlt hm.size, fun j x hx k v hv => (hm.cell (p := ⟨b, o + (j * 10 + k), none⟩) hlt (hn ⟨b, o, none⟩ e)).trans (hc j x hx k v hv)⟩
theorem ClsAt.below {w w' : World} {A : Option Addr} {xs : List Cl} (h : ClsAt w A xs) (hb : Below w.heap.size w w') : ClsAt w' A xs := h.mod (Mod.of_below hb []) (by simp)
theorem ClsAt.nil (w : World) (A : Option Addr) : ClsAt w A [] := fun h => absurd h (Nat.lt_irrefl 0)
/-- A list of calls that came in. -/
theorem open_cls {H : Type} {enc : TypeId × Value → H} {W : World} {base : Nat} {v : Value} {d : DataW H} {p : List MemPlace} {ts : List TypeId} {ds : List (DataW H)} {j : Nat}
    (hv : Value.okWide Try.prog W .any base 40 v) (h : DataW.Trod enc Try.prog W 0 (fun _ => true) true 40 v d p)
    (hw : (DataW.weightsEach Try.prog ts ds).all (· ≤ reachBytes) = true) (ht : ts[j]? = some 40) (hd : ds[j]? = some d) :
    ∃ (A : Option Addr) (c : Nat) (xs : List Cl), v = .slice A xs.length c ∧ ClsAt W A xs ∧ xs.length ≤ c ∧ c * 88 ≤ 140737488351232 ∧ ∀ x ∈ xs, ClW x := by
  obtain ⟨A, c, xs, e, h1, h2, _, h4⟩ := open_list (α := Cl) 32 40 10 Try.underlying40 c1_cl (by decide) (fun x cs => cs = c10 x ∧ ClW x)
    (fun n cs d pl hcl ht hw => by obtain ⟨x, e, hC⟩ := cl_vals hcl ht hw; exact ⟨x, e, hC⟩) hv h hw ht hd
  have hb : Try.prog.bytesOf 32 = 88 := by kernel_rfl
  have hr : reachBytes = 140737488351232 := rfl
  rw [hb, hr] at h2
  refine ⟨A, c, xs, e, fun h0 => ?_, h1, h2, fun x hx => ?_⟩
  · obtain ⟨b, o, eA, hlt, hc⟩ := h4 h0
    refine ⟨b, o, eA, hlt, fun i x hx k v hv => ?_⟩
    obtain ⟨cs, hcl, ⟨rfl, _⟩, hk⟩ := hc i x hx
    have hkl : k < (c10 x).length := (List.getElem?_eq_some_iff.1 hv).1
    have := hk k (show k < 10 from hkl)
    rw [Nat.add_assoc] at this
    rw [this]
    exact hv
  · obtain ⟨i, hi, rfl⟩ := List.getElem_of_mem hx
    obtain ⟨b, o, eA, hlt, hc⟩ := h4 (by omega)
    obtain ⟨cs, hcl, ⟨_, hq⟩, hk⟩ := hc i _ (List.getElem?_eq_getElem hi)
    exact hq
/-- A list of what is done to calls that reads so. -/
def OpsAt (w : World) (A : Option Addr) (xs : List Op) : Prop :=
  0 < xs.length → ∃ b o, A = some ⟨b, o, none⟩ ∧ b < w.heap.size ∧ ∀ j x, xs[j]? = some x → ∀ k v, (c13 x)[k]? = some v → w.cell? ⟨b, o + (j * 13 + k), none⟩ = some v
theorem OpsAt.below {w w' : World} {A : Option Addr} {xs : List Op} (h : OpsAt w A xs) (hb : Below w.heap.size w w') : OpsAt w' A xs := fun h0 => by
  obtain ⟨b, o, e, hlt, hc⟩ := h h0
  exact ⟨b, o, e, Nat.lt_of_lt_of_le hlt hb.size, fun j x hx k v hv => (hb.cell (p := ⟨b, o + (j * 13 + k), none⟩) hlt).trans (hc j x hx k v hv)⟩
/-- A list of what is done to calls that came in. -/
theorem open_ops {H : Type} {enc : TypeId × Value → H} {W : World} {base : Nat} {v : Value} {d : DataW H} {p : List MemPlace} {ts : List TypeId} {ds : List (DataW H)} {j : Nat}
    (hv : Value.okWide Try.prog W .any base 36 v) (h : DataW.Trod enc Try.prog W 0 (fun _ => true) true 36 v d p)
    (hw : (DataW.weightsEach Try.prog ts ds).all (· ≤ reachBytes) = true) (ht : ts[j]? = some 36) (hd : ds[j]? = some d) :
    ∃ (A : Option Addr) (c : Nat) (xs : List Op), v = .slice A xs.length c ∧ OpsAt W A xs ∧ xs.length ≤ c ∧ c * 112 ≤ 140737488351232 ∧ ∀ o ∈ xs, OpW o := by
  obtain ⟨A, c, xs, e, h1, h2, _, h4⟩ := open_list (α := Op) 39 36 13 Try.underlying36 c1_op (by decide) (fun o cs => cs = c13 o ∧ OpW o)
    (fun n cs d pl hcl ht hw => by obtain ⟨x, e, hC⟩ := op_vals hcl ht hw; exact ⟨x, e, hC⟩) hv h hw ht hd
  have hb : Try.prog.bytesOf 39 = 112 := by kernel_rfl
  have hr : reachBytes = 140737488351232 := rfl
  rw [hb, hr] at h2
  refine ⟨A, c, xs, e, fun h0 => ?_, h1, h2, fun x hx => ?_⟩
  · obtain ⟨b, o, eA, hlt, hc⟩ := h4 h0
    refine ⟨b, o, eA, hlt, fun i x hx k v hv => ?_⟩
    obtain ⟨cs, hcl, ⟨rfl, _⟩, hk⟩ := hc i x hx
    have hkl : k < (c13 x).length := (List.getElem?_eq_some_iff.1 hv).1
    have := hk k (show k < 13 from hkl)
    rw [Nat.add_assoc] at this
    rw [this]
    exact hv
  · obtain ⟨i, hi, rfl⟩ := List.getElem_of_mem hx
    obtain ⟨b, o, eA, hlt, hc⟩ := h4 (by omega)
    obtain ⟨cs, hcl, ⟨_, hq⟩, hk⟩ := hc i _ (List.getElem?_eq_getElem hi)
    exact hq
end Go.Proofs.Ytnacchldecjcaaa
