/- Lists of bytes' lists, lists of calls and numbers that came in, opened to their cells. -/
import Derived.Test.YtdagmkkkiaacoaaDkW9
import Derived.Test.YtdagmkkkiaacoaaInts
import Derived.Test.YtdagmkkkiaacoaaRows
namespace Go.Proofs.Ytdagmkkkiaacoaa
open Go.RowKit Go.ChangeShapes Go.WideShapes Go.ChangeAt Go.Deep
open By (BytesAt u8s own_shape list_of add_none)
set_option linter.unusedVariables false
set_option linter.unusedSimpArgs false
set_option maxRecDepth 100000
theorem c1_int : Try.prog.cellsOf 3 = 1 := by kernel_rfl
theorem c1_u8 : Try.prog.cellsOf 5 = 1 := by kernel_rfl
theorem c1_bytes : Try.prog.cellsOf 35 = 1 := by kernel_rfl
theorem open_rowB {H : Type} {enc : TypeId × Value → H} {W : World} {n : Nat} {cs : List Value} {d : DataW H} {pl : List MemPlace}
    (h : DataW.trod enc Try.prog W 0 (fun _ => true) true n 35 cs = some (d, pl)) (hw : ∀ m ∈ d.weights Try.prog 35, m ≤ reachBytes) :
    ∃ A c xs, cs = [.slice A (List.length xs) c] ∧ BytesAt W A xs ∧ xs.length ≤ c ∧ c ≤ 140737488351232 := by
  rcases open_slice Try.underlying35 h with ⟨hcs, hx⟩ | ⟨a, len', cap', m, n, D, Pl, hcs, _, hl, hm, hmm, hx, hi⟩
  · exact ⟨none, 0, [], hcs, BytesAt.nil _ _, Nat.le_refl _, by omega⟩
  · simp only [Prod.mk.injEq] at hx
    obtain ⟨rfl, _⟩ := hx
    have hmc : m = cap' := by simpa using hmm
    subst hmc
    have hcap := hw ((((List.range len').map D).length + ((List.range (m - len')).map fun j => D (len' + j)).length) * Try.prog.bytesOf 5) (by simp [DataW.weights, Try.underlying35])
    rw [By.bytes_byte] at hcap
    simp only [List.length_map, List.length_range] at hcap
    obtain ⟨xs, hxl, hxs⟩ := list_of (Q := fun i (x : UInt8) => W.cell? (a.add i) = some (By.u8 x)) len' (fun i hil => by
      obtain ⟨cs, hc, ht'⟩ := hi i (by omega)
      rw [By.cells_byte, Nat.mul_one] at hc
      obtain ⟨k, e, _, hk⟩ := DataW.trod_int Try.underlying5 ht'
      obtain ⟨_, hcl, hat⟩ := World.cells?_some hc
      have hk' : 0 ≤ k ∧ k ≤ 255 := by simpa [Lit.wf, IntKind.min, IntKind.max, IntKind.signed, IntKind.bits] using hk
      refine ⟨OM.by8 k.toNat, ?_⟩
      have h0 := hat 0 (by decide)
      rw [e, add_none] at h0
      rw [h0]
      unfold By.u8
      rw [OM.by8_nat (by omega)]
      show some (Value.int .u8 k) = _
      rw [show ((k.toNat : Nat) : Int) = k by omega])
    have hreach : reachBytes = 140737488351232 := rfl
    refine ⟨some a, m, xs, by rw [hxl]; exact hcs, fun h0 => ?_, by omega, by omega⟩
    obtain ⟨b, o, sp⟩ := a
    have c0 := hxs 0 xs[0] (List.getElem?_eq_getElem h0)
    have hsp : sp = none := by simpa [Addr.add] using World.cell?_spot c0
    subst hsp
    have hlt : b < W.heap.size := by
      have := World.block_lt_of_cell? W _ c0
      simpa [Addr.add] using this
    refine ⟨b, o, rfl, hlt, fun j x hx => ?_⟩
    have c1 := hxs j x hx
    rw [Addr.add_lit] at c1
    exact c1
theorem in64_of {k : Int} (hk : (Lit.int .i64 k).wf = true) : -9223372036854775808 ≤ k ∧ k ≤ 9223372036854775807 := by simpa [Lit.wf, IntKind.min, IntKind.max, IntKind.signed, IntKind.bits] using hk
theorem bulk_one {H : Type} (d : DataW H) : 1 ≤ Rows.uptoBulk d := by
  cases d with
  | lit l => cases l <;> simp [Rows.uptoBulk]
  | _ => simp [Rows.uptoBulk]
theorem bulk_all {H : Type} : ∀ (l : List (DataW H)), l.length ≤ Rows.uptoBulkAll l
  | [] => Nat.zero_le _
  | d :: r => by
    have h1 := bulk_one d
    have h2 := bulk_all r
    simp only [Rows.uptoBulkAll, List.length_cons]
    omega
theorem weights_all {H : Type} {e : TypeId} {m : Nat} : ∀ {l : List (DataW H)} {d : DataW H}, d ∈ l → m ∈ d.weights Try.prog e → m ∈ DataW.weightsAll Try.prog e l
  | x :: r, d, hd, hm => by
    simp only [DataW.weightsAll, List.mem_append]
    rcases List.mem_cons.1 hd with rfl | hd
    · exact .inl hm
    · exact .inr (weights_all hd hm)
/-- A list that came in: what holds of each element's cells. -/
theorem open_list {α : Type} [Inhabited α] {H : Type} {enc : TypeId × Value → H} {W : World} {base : Nat} {v : Value} {d : DataW H} {p : List MemPlace} {ts : List TypeId} {ds : List (DataW H)} {j : Nat}
    (T sT : TypeId) (z : Nat) (hsT : Try.prog.underlying sT = some (.slice T)) (hz : Try.prog.cellsOf T = z) (h0z : 0 < z) (Q : α → List Value → Prop)
    (hval : ∀ (n : Nat) (cs : List Value) (d : DataW H) (pl : List MemPlace), cs.length = z → DataW.trod enc Try.prog W 0 (fun _ => true) true n T cs = some (d, pl) → (∀ m ∈ d.weights Try.prog T, m ≤ reachBytes) → ∃ x, Q x cs)
    (hv : Value.okWide Try.prog W .any base sT v) (h : DataW.Trod enc Try.prog W 0 (fun _ => true) true sT v d p)
    (hw : (DataW.weightsEach Try.prog ts ds).all (· ≤ reachBytes) = true) (ht : ts[j]? = some sT) (hd : ds[j]? = some d) :
    ∃ (A : Option Addr) (c : Nat) (xs : List α), v = .slice A xs.length c ∧ xs.length ≤ c ∧ c * Try.prog.bytesOf T ≤ reachBytes ∧ xs.length ≤ Rows.uptoBulk d ∧
      (0 < xs.length → ∃ b o, A = some ⟨b, o, none⟩ ∧ b < W.heap.size ∧ ∀ i x, xs[i]? = some x → ∃ cs : List Value, cs.length = z ∧ Q x cs ∧ ∀ k, k < z → W.cell? ⟨b, o + i * z + k, none⟩ = cs[k]?) := by
  obtain ⟨A, len, cap, rfl⟩ := okWide_slice hsT hv
  obtain ⟨fuel, hf⟩ := h
  rcases open_slice hsT hf with ⟨hcs, hx⟩ | ⟨a, len', cap', m, n, D, Pl, hcs, _, hl, hm, hmm, hx, hi⟩
  · simp [Value.cells] at hcs
    obtain ⟨rfl, rfl, rfl⟩ := hcs
    exact ⟨none, 0, [], rfl, Nat.le_refl _, by omega, Nat.zero_le _, fun h => absurd h (Nat.lt_irrefl 0)⟩
  · simp [Value.cells] at hcs
    obtain ⟨rfl, rfl, rfl⟩ := hcs
    simp only [Prod.mk.injEq] at hx
    obtain ⟨rfl, _⟩ := hx
    have hmc : m = cap := by simpa using hmm
    subst hmc
    have hcap := sized_slice hw ht hd hsT
    simp only [List.length_map, List.length_range] at hcap
    have hwt : ∀ i, i < len → ∀ k ∈ (D i).weights Try.prog T, k ≤ reachBytes := fun i hil k hk => by
      have h1 := List.all_eq_true.1 hw k (DataW.weights_mem_each ht hd _ (by
        simp only [DataW.weights, hsT, List.mem_cons, List.mem_append]
        exact .inr (.inl (weights_all (List.mem_map.2 ⟨i, List.mem_range.2 hil, rfl⟩) hk))))
      simpa using h1
    obtain ⟨xs, hxl, hxs⟩ := list_of (Q := fun i (x : α) => ∃ cs : List Value, cs.length = z ∧ Q x cs ∧ ∀ k, k < z → W.cell? ((a.add (i * z)).add k) = cs[k]?) len (fun i hil => by
      obtain ⟨cs, hc, ht'⟩ := hi i (by omega)
      rw [hz] at hc
      obtain ⟨_, hcl, hat⟩ := World.cells?_some hc
      obtain ⟨x, hQ⟩ := hval _ cs _ _ hcl ht' (hwt i hil)
      exact ⟨x, cs, hcl, hQ, hat⟩)
    have hb := bulk_all ((List.range len).map D)
    rw [List.length_map, List.length_range] at hb
    refine ⟨some a, m, xs, by rw [hxl], by omega, ?_, ?_, fun h0 => ?_⟩
    · have e : len + (m - len) = m := by omega
      rw [e] at hcap
      exact hcap
    · rw [hxl]
      simp only [Rows.uptoBulk]
      omega
    obtain ⟨b, o, sp⟩ := a
    obtain ⟨cs0, hcl0, _, hat0⟩ := hxs 0 xs[0] (List.getElem?_eq_getElem h0)
    have c0 := hat0 0 h0z
    rw [List.getElem?_eq_getElem (by omega)] at c0
    have hsp : sp = none := by simpa [Addr.add] using World.cell?_spot c0
    subst hsp
    have hlt : b < W.heap.size := by
      have := World.block_lt_of_cell? W _ c0
      simpa [Addr.add] using this
    refine ⟨b, o, rfl, hlt, fun i x hx => ?_⟩
    obtain ⟨cs, hcl, hQ, hat⟩ := hxs i x hx
    refine ⟨cs, hcl, hQ, fun k hk => ?_⟩
    have h1 := hat k hk
    rw [Addr.add_lit, Addr.add_lit] at h1
    exact h1
/-- A list of lists of bytes that came in. -/
theorem open_rows {H : Type} {enc : TypeId × Value → H} {W : World} {base : Nat} {v : Value} {d : DataW H} {p : List MemPlace} {ts : List TypeId} {ds : List (DataW H)} {j : Nat}
    (hv : Value.okWide Try.prog W .any base 42 v) (h : DataW.Trod enc Try.prog W 0 (fun _ => true) true 42 v d p)
    (hw : (DataW.weightsEach Try.prog ts ds).all (· ≤ reachBytes) = true) (ht : ts[j]? = some 42) (hd : ds[j]? = some d) :
    ∃ (A : Option Addr) (c : Nat) (ss : List (List UInt8)), v = .slice A ss.length c ∧ RowsAt W A ss ∧ ss.length ≤ c ∧ c ≤ 5864062014805 ∧ (∀ (j : Nat) (x : List UInt8), ss[j]? = some x → x.length ≤ 140737488351232) := by
  obtain ⟨A, c, ss, e, h1, h2, h3, h4⟩ := open_list (α := List UInt8) 35 42 1 Try.underlying42 c1_bytes (by decide) (fun x cs => ∃ A' c', cs = [.slice A' x.length c'] ∧ BytesAt W A' x ∧ x.length ≤ 140737488351232)
    (fun n cs d pl hcl ht hw => by obtain ⟨A', c', xs, e, hB, hle, hcap⟩ := open_rowB ht hw; exact ⟨xs, A', c', e, hB, Nat.le_trans hle hcap⟩) hv h hw ht hd
  have hb : Try.prog.bytesOf 35 = 24 := by kernel_rfl
  rw [hb] at h2
  have hreach : reachBytes = 140737488351232 := rfl
  refine ⟨A, c, ss, e, fun h0 => ?_, h1, by omega, fun j x hx => ?_⟩
  · obtain ⟨b, o, e1, hlt, hx⟩ := h4 h0
    refine ⟨b, o, e1, hlt, fun i x hi => ?_⟩
    obtain ⟨cs, hcl, ⟨A', c', e3, hB, _⟩, hat⟩ := hx i x hi
    subst e3
    have h0 := hat 0 (by decide)
    rw [Nat.mul_one] at h0
    exact ⟨A', c', h0, hB⟩
  · have h0 : 0 < ss.length := Nat.lt_of_le_of_lt (Nat.zero_le j) (List.getElem?_eq_some_iff.1 hx).1
    obtain ⟨b, o, e1, hlt, hy⟩ := h4 h0
    obtain ⟨cs, hcl, ⟨A', c', e3, hB, hle⟩, hat⟩ := hy j x hx
    exact hle
/-- A call that came in. -/
structure Op where
  kind : Int
  i : Int
  fill : UInt8
  len : Int
instance instOp : Inhabited Op := ⟨⟨0, 0, 0, 0⟩⟩
def opCells (x : Op) : Array Value := #[.int .i64 x.kind, .int .i64 x.i, .int .u8 (x.fill.toNat : Int), .int .i64 x.len]
def OpIn (x : Op) : Prop := (-9223372036854775808 ≤ x.kind ∧ x.kind ≤ 9223372036854775807) ∧ (-9223372036854775808 ≤ x.i ∧ x.i ≤ 9223372036854775807) ∧ (-9223372036854775808 ≤ x.len ∧ x.len ≤ 9223372036854775807)
theorem byte_of {k : Int} (hk : (Lit.int .u8 k).wf = true) : ∃ c : UInt8, k = (c.toNat : Int) := by
  have h : 0 ≤ k ∧ k ≤ 255 := by simpa [Lit.wf, IntKind.min, IntKind.max, IntKind.signed, IntKind.bits] using hk
  exact ⟨OM.by8 k.toNat, by rw [OM.by8_nat (by omega)]; omega⟩
set_option maxHeartbeats 4000000 in
theorem op_vals {H : Type} {enc : TypeId × Value → H} {W : World} {n : Nat} {d : DataW H} {pl : List MemPlace} {cs : List Value}
    (hcl : cs.length = 4) (h : DataW.trod enc Try.prog W 0 (fun _ => true) true n 34 cs = some (d, pl)) : ∃ o : Op, cs = (opCells o).toList ∧ OpIn o := by
  obtain ⟨ys, n', _, hy, _, hyl, hf⟩ := DataW.trod_struct Try.underlying34 h
  match cs, hcl with
  | [v0, v1, v2, v3], _ =>
    match ys, hyl with
    | [y0, y1, y2, y3], _ =>
      simp only [Prod.mk.injEq, List.map_cons, List.map_nil] at hy
      obtain ⟨rfl, _⟩ := hy
      have f0 : DataW.trod enc Try.prog W 0 (fun _ => true) true n' 3 [v0] = some y0 := by
        have h := hf 0 _ rfl
        have e : List.take (Try.prog.cellsOf 3) (List.drop 0 [v0, v1, v2, v3]) = [v0] := by rw [c1_int]; rfl
        exact (congrArg (DataW.trod enc Try.prog W 0 (fun _ => true) true n' 3) e.symm).trans h
      have f1 : DataW.trod enc Try.prog W 0 (fun _ => true) true n' 3 [v1] = some y1 := by
        have h := hf 1 _ rfl
        have e : List.take (Try.prog.cellsOf 3) (List.drop 1 [v0, v1, v2, v3]) = [v1] := by rw [c1_int]; rfl
        exact (congrArg (DataW.trod enc Try.prog W 0 (fun _ => true) true n' 3) e.symm).trans h
      have f2 : DataW.trod enc Try.prog W 0 (fun _ => true) true n' 5 [v2] = some y2 := by
        have h := hf 2 _ rfl
        have e : List.take (Try.prog.cellsOf 5) (List.drop 2 [v0, v1, v2, v3]) = [v2] := by rw [c1_u8]; rfl
        exact (congrArg (DataW.trod enc Try.prog W 0 (fun _ => true) true n' 5) e.symm).trans h
      have f3 : DataW.trod enc Try.prog W 0 (fun _ => true) true n' 3 [v3] = some y3 := by
        have h := hf 3 _ rfl
        have e : List.take (Try.prog.cellsOf 3) (List.drop 3 [v0, v1, v2, v3]) = [v3] := by rw [c1_int]; rfl
        exact (congrArg (DataW.trod enc Try.prog W 0 (fun _ => true) true n' 3) e.symm).trans h
      clear hf h
      obtain ⟨x0, e0, g0, h0⟩ := DataW.trod_int Try.underlying3 f0
      obtain ⟨x1, e1, g1, h1⟩ := DataW.trod_int Try.underlying3 f1
      obtain ⟨x2, e2, g2, h2⟩ := DataW.trod_int Try.underlying5 f2
      obtain ⟨x3, e3, g3, h3⟩ := DataW.trod_int Try.underlying3 f3
      obtain ⟨c, rfl⟩ := byte_of h2
      injection e0 with e0
      injection e1 with e1
      injection e2 with e2
      injection e3 with e3
      subst e0 e1 e2 e3
      exact ⟨⟨x0, x1, c, x3⟩, rfl, in64_of h0, in64_of h1, in64_of h3⟩
def OpsAt (w : World) (A : Option Addr) (xs : List Op) : Prop :=
  0 < xs.length → ∃ b o, A = some ⟨b, o, none⟩ ∧ b < w.heap.size ∧ ∀ (j : Nat) (x : Op), xs[j]? = some x → OpIn x ∧ w.cell? ⟨b, o + j * 4, none⟩ = some (.int .i64 x.kind) ∧ w.cell? ⟨b, o + j * 4 + 1, none⟩ = some (.int .i64 x.i) ∧ w.cell? ⟨b, o + j * 4 + 2, none⟩ = some (.int .u8 (x.fill.toNat : Int)) ∧ w.cell? ⟨b, o + j * 4 + 3, none⟩ = some (.int .i64 x.len)
theorem OpsAt.below {w w' : World} {A : Option Addr} {xs : List Op} (h : OpsAt w A xs) (hb : Below w.heap.size w w') : OpsAt w' A xs := fun h0 => by
  obtain ⟨b, o, e, hlt, hx⟩ := h h0
  refine ⟨b, o, e, Nat.lt_of_lt_of_le hlt hb.size, fun j x hj => ?_⟩
  obtain ⟨k, k0, k1, k2, k3⟩ := hx j x hj
  exact ⟨k, (hb.cell (p := ⟨b, _, none⟩) hlt).trans k0, (hb.cell (p := ⟨b, _, none⟩) hlt).trans k1, (hb.cell (p := ⟨b, _, none⟩) hlt).trans k2, (hb.cell (p := ⟨b, _, none⟩) hlt).trans k3⟩
theorem open_ops {H : Type} {enc : TypeId × Value → H} {W : World} {base : Nat} {v : Value} {d : DataW H} {p : List MemPlace} {ts : List TypeId} {ds : List (DataW H)} {j : Nat}
    (hv : Value.okWide Try.prog W .any base 29 v) (h : DataW.Trod enc Try.prog W 0 (fun _ => true) true 29 v d p)
    (hw : (DataW.weightsEach Try.prog ts ds).all (· ≤ reachBytes) = true) (ht : ts[j]? = some 29) (hd : ds[j]? = some d) :
    ∃ (A : Option Addr) (c : Nat) (xs : List Op), v = .slice A xs.length c ∧ OpsAt W A xs ∧ xs.length ≤ c ∧ c ≤ 140737488351232 := by
  obtain ⟨A, c, xs, e, h1, h2, h3, h4⟩ := open_list (α := Op) 34 29 4 Try.underlying29 (by kernel_rfl) (by decide) (fun x cs => cs = (opCells x).toList ∧ OpIn x)
    (fun n cs d pl hcl ht hw => by obtain ⟨o, e, hC⟩ := op_vals hcl ht; exact ⟨o, e, hC⟩) hv h hw ht hd
  have hb : Try.prog.bytesOf 34 = 32 := by kernel_rfl
  rw [hb] at h2
  have hreach : reachBytes = 140737488351232 := rfl
  refine ⟨A, c, xs, e, fun h0 => ?_, h1, by omega⟩
  obtain ⟨b, o, e1, hlt, hx⟩ := h4 h0
  refine ⟨b, o, e1, hlt, fun i x hi => ?_⟩
  obtain ⟨cs, hcl, ⟨e3, hC⟩, hat⟩ := hx i x hi
  subst e3
  exact ⟨hC, hat 0 (by decide), hat 1 (by decide), hat 2 (by decide), hat 3 (by decide)⟩
end Go.Proofs.Ytdagmkkkiaacoaa
