/- Lists of lists of bytes that came in, opened to their cells. -/
import Derived.Test.YtlnahmgcjaodkaaScW15
import Derived.Test.YtlnahmgcjaodkaaRows
namespace Go.Proofs.Ytlnahmgcjaodkaa
open Go.RowKit Go.ChangeShapes Go.WideShapes Go.ChangeAt Go.Deep
open By
set_option linter.unusedVariables false
set_option linter.unusedSimpArgs false
set_option maxRecDepth 100000
theorem c1_bytes : Try.prog.cellsOf 26 = 1 := by kernel_rfl
theorem open_rowB {H : Type} {enc : TypeId × Value → H} {W : World} {n : Nat} {cs : List Value} {d : DataW H} {pl : List MemPlace}
    (h : DataW.trod enc Try.prog W 0 (fun _ => true) true n 26 cs = some (d, pl)) (hw : ∀ m ∈ d.weights Try.prog 26, m ≤ reachBytes) :
    ∃ A c xs, cs = [.slice A (List.length xs) c] ∧ BytesAt W A xs ∧ xs.length ≤ c ∧ c ≤ 140737488351232 := by
  rcases open_slice Try.underlying26 h with ⟨hcs, hx⟩ | ⟨a, len', cap', m, n, D, Pl, hcs, _, hl, hm, hmm, hx, hi⟩
  · exact ⟨none, 0, [], hcs, BytesAt.nil _ _, Nat.le_refl _, by omega⟩
  · simp only [Prod.mk.injEq] at hx
    obtain ⟨rfl, _⟩ := hx
    have hmc : m = cap' := by simpa using hmm
    subst hmc
    have hcap := hw ((((List.range len').map D).length + ((List.range (m - len')).map fun j => D (len' + j)).length) * Try.prog.bytesOf 5) (by simp [DataW.weights, Try.underlying26])
    rw [By.bytes_byte] at hcap
    simp only [List.length_map, List.length_range] at hcap
    obtain ⟨xs, hxl, hxs⟩ := list_of (Q := fun i (x : UInt8) => W.cell? (a.add i) = some (By.u8 x)) len' (fun i hil => by
      obtain ⟨cs, hc, ht'⟩ := hi i (by omega)
      rw [By.cells_byte, Nat.mul_one] at hc
      obtain ⟨k, e, _, hk⟩ := DataW.trod_int Try.underlying5 ht'
      obtain ⟨_, hcl, hat⟩ := World.cells?_some hc
      have hk' : 0 ≤ k ∧ k ≤ 255 := by simpa [Lit.wf, IntKind.min, IntKind.max, IntKind.signed, IntKind.bits] using hk
      refine ⟨OM.by8 k.toNat, ?_⟩
      have h0 := hat 0 (by decide)
      rw [e, add_none] at h0
      rw [h0]
      unfold By.u8
      rw [OM.by8_nat (by omega)]
      show some (Value.int .u8 k) = _
      rw [show ((k.toNat : Nat) : Int) = k by omega])
    have hreach : reachBytes = 140737488351232 := rfl
    refine ⟨some a, m, xs, by rw [hxl]; exact hcs, fun h0 => ?_, by omega, by omega⟩
    obtain ⟨b, o, sp⟩ := a
    have c0 := hxs 0 xs[0] (List.getElem?_eq_getElem h0)
    have hsp : sp = none := by simpa [Addr.add] using World.cell?_spot c0
    subst hsp
    have hlt : b < W.heap.size := by
      have := World.block_lt_of_cell? W _ c0
      simpa [Addr.add] using this
    refine ⟨b, o, rfl, hlt, fun j x hx => ?_⟩
    have c1 := hxs j x hx
    rw [Addr.add_lit] at c1
    exact c1
theorem bulk_one {H : Type} (d : DataW H) : 1 ≤ Rows.uptoBulk d := by
  cases d with
  | lit l => cases l <;> simp [Rows.uptoBulk]
  | _ => simp [Rows.uptoBulk]
theorem bulk_all {H : Type} : ∀ (l : List (DataW H)), l.length ≤ Rows.uptoBulkAll l
  | [] => Nat.zero_le _
  | d :: r => by
    have h1 := bulk_one d
    have h2 := bulk_all r
    simp only [Rows.uptoBulkAll, List.length_cons]
    omega
theorem weights_all {H : Type} {e : TypeId} {m : Nat} : ∀ {l : List (DataW H)} {d : DataW H}, d ∈ l → m ∈ d.weights Try.prog e → m ∈ DataW.weightsAll Try.prog e l
  | x :: r, d, hd, hm => by
    simp only [DataW.weightsAll, List.mem_append]
    rcases List.mem_cons.1 hd with rfl | hd
    · exact .inl hm
    · exact .inr (weights_all hd hm)
/-- A list that came in: what holds of each element's cells. -/
theorem open_list {α : Type} [Inhabited α] {H : Type} {enc : TypeId × Value → H} {W : World} {base : Nat} {v : Value} {d : DataW H} {p : List MemPlace} {ts : List TypeId} {ds : List (DataW H)} {j : Nat}
    (T sT : TypeId) (z : Nat) (hsT : Try.prog.underlying sT = some (.slice T)) (hz : Try.prog.cellsOf T = z) (h0z : 0 < z) (Q : α → List Value → Prop)
    (hval : ∀ (n : Nat) (cs : List Value) (d : DataW H) (pl : List MemPlace), cs.length = z → DataW.trod enc Try.prog W 0 (fun _ => true) true n T cs = some (d, pl) → (∀ m ∈ d.weights Try.prog T, m ≤ reachBytes) → ∃ x, Q x cs)
    (hv : Value.okWide Try.prog W .any base sT v) (h : DataW.Trod enc Try.prog W 0 (fun _ => true) true sT v d p)
    (hw : (DataW.weightsEach Try.prog ts ds).all (· ≤ reachBytes) = true) (ht : ts[j]? = some sT) (hd : ds[j]? = some d) :
    ∃ (A : Option Addr) (c : Nat) (xs : List α), v = .slice A xs.length c ∧ xs.length ≤ c ∧ c * Try.prog.bytesOf T ≤ reachBytes ∧ xs.length ≤ Rows.uptoBulk d ∧
      (0 < xs.length → ∃ b o, A = some ⟨b, o, none⟩ ∧ b < W.heap.size ∧ ∀ i x, xs[i]? = some x → ∃ cs : List Value, cs.length = z ∧ Q x cs ∧ ∀ k, k < z → W.cell? ⟨b, o + i * z + k, none⟩ = cs[k]?) := by
  obtain ⟨A, len, cap, rfl⟩ := okWide_slice hsT hv
  obtain ⟨fuel, hf⟩ := h
  rcases open_slice hsT hf with ⟨hcs, hx⟩ | ⟨a, len', cap', m, n, D, Pl, hcs, _, hl, hm, hmm, hx, hi⟩
  · simp [Value.cells] at hcs
    obtain ⟨rfl, rfl, rfl⟩ := hcs
    exact ⟨none, 0, [], rfl, Nat.le_refl _, by omega, Nat.zero_le _, fun h => absurd h (Nat.lt_irrefl 0)⟩
  · simp [Value.cells] at hcs
    obtain ⟨rfl, rfl, rfl⟩ := hcs
    simp only [Prod.mk.injEq] at hx
    obtain ⟨rfl, _⟩ := hx
    have hmc : m = cap := by simpa using hmm
    subst hmc
    have hcap := sized_slice hw ht hd hsT
    simp only [List.length_map, List.length_range] at hcap
    have hwt : ∀ i, i < len → ∀ k ∈ (D i).weights Try.prog T, k ≤ reachBytes := fun i hil k hk => by
      have h1 := List.all_eq_true.1 hw k (DataW.weights_mem_each ht hd _ (by
        simp only [DataW.weights, hsT, List.mem_cons, List.mem_append]
        exact .inr (.inl (weights_all (List.mem_map.2 ⟨i, List.mem_range.2 hil, rfl⟩) hk))))
      simpa using h1
    obtain ⟨xs, hxl, hxs⟩ := list_of (Q := fun i (x : α) => ∃ cs : List Value, cs.length = z ∧ Q x cs ∧ ∀ k, k < z → W.cell? ((a.add (i * z)).add k) = cs[k]?) len (fun i hil => by
      obtain ⟨cs, hc, ht'⟩ := hi i (by omega)
      rw [hz] at hc
      obtain ⟨_, hcl, hat⟩ := World.cells?_some hc
      obtain ⟨x, hQ⟩ := hval _ cs _ _ hcl ht' (hwt i hil)
      exact ⟨x, cs, hcl, hQ, hat⟩)
    have hb := bulk_all ((List.range len).map D)
    rw [List.length_map, List.length_range] at hb
    refine ⟨some a, m, xs, by rw [hxl], by omega, ?_, ?_, fun h0 => ?_⟩
    · have e : len + (m - len) = m := by omega
      rw [e] at hcap
      exact hcap
    · rw [hxl]
      simp only [Rows.uptoBulk]
      omega
    obtain ⟨b, o, sp⟩ := a
    obtain ⟨cs0, hcl0, _, hat0⟩ := hxs 0 xs[0] (List.getElem?_eq_getElem h0)
    have c0 := hat0 0 h0z
    rw [List.getElem?_eq_getElem (by omega)] at c0
    have hsp : sp = none := by simpa [Addr.add] using World.cell?_spot c0
    subst hsp
    have hlt : b < W.heap.size := by
      have := World.block_lt_of_cell? W _ c0
      simpa [Addr.add] using this
    refine ⟨b, o, rfl, hlt, fun i x hx => ?_⟩
    obtain ⟨cs, hcl, hQ, hat⟩ := hxs i x hx
    refine ⟨cs, hcl, hQ, fun k hk => ?_⟩
    have h1 := hat k hk
    rw [Addr.add_lit, Addr.add_lit] at h1
    exact h1
/-- A list of lists of bytes that came in. -/
theorem open_rows {H : Type} {enc : TypeId × Value → H} {W : World} {base : Nat} {v : Value} {d : DataW H} {p : List MemPlace} {ts : List TypeId} {ds : List (DataW H)} {j : Nat}
    (hv : Value.okWide Try.prog W .any base 22 v) (h : DataW.Trod enc Try.prog W 0 (fun _ => true) true 22 v d p)
    (hw : (DataW.weightsEach Try.prog ts ds).all (· ≤ reachBytes) = true) (ht : ts[j]? = some 22) (hd : ds[j]? = some d) :
    ∃ (A : Option Addr) (c : Nat) (ss : List (List UInt8)), v = .slice A ss.length c ∧ RowsAt W A ss ∧ ss.length ≤ c ∧ c ≤ 5864062014805 ∧ (∀ (j : Nat) (x : List UInt8), ss[j]? = some x → x.length ≤ 140737488351232) := by
  obtain ⟨A, c, ss, e, h1, h2, h3, h4⟩ := open_list (α := List UInt8) 26 22 1 Try.underlying22 c1_bytes (by decide) (fun x cs => ∃ A' c', cs = [.slice A' x.length c'] ∧ BytesAt W A' x ∧ x.length ≤ c' ∧ c' ≤ 140737488351232)
    (fun n cs d pl hcl ht hw => by obtain ⟨A', c', xs, e, hB, hle, hcap⟩ := open_rowB ht hw; exact ⟨xs, A', c', e, hB, hle, hcap⟩) hv h hw ht hd
  have hb : Try.prog.bytesOf 26 = 24 := by kernel_rfl
  rw [hb] at h2
  have hreach : reachBytes = 140737488351232 := rfl
  refine ⟨A, c, ss, e, fun h0 => ?_, h1, by omega, fun j x hx => ?_⟩
  · obtain ⟨b, o, e1, hlt, hx⟩ := h4 h0
    refine ⟨b, o, e1, hlt, fun i x hi => ?_⟩
    obtain ⟨cs, hcl, ⟨A', c', e3, hB, k1, k2⟩, hat⟩ := hx i x hi
    subst e3
    have h0 := hat 0 (by decide)
    rw [Nat.mul_one] at h0
    exact ⟨A', c', h0, hB, k1, by omega⟩
  · have h0 : 0 < ss.length := Nat.lt_of_le_of_lt (Nat.zero_le j) (List.getElem?_eq_some_iff.1 hx).1
    obtain ⟨b, o, e1, hlt, hy⟩ := h4 h0
    obtain ⟨cs, hcl, ⟨A', c', e3, hB, k1, k2⟩, hat⟩ := hy j x hx
    omega
theorem byte_of {k : Int} (hk : (Lit.int .u8 k).wf = true) : ∃ c : UInt8, k = (c.toNat : Int) := by
  have h : 0 ≤ k ∧ k ≤ 255 := by simpa [Lit.wf, IntKind.min, IntKind.max, IntKind.signed, IntKind.bits] using hk
  exact ⟨OM.by8 k.toNat, by rw [OM.by8_nat (by omega)]; omega⟩
end Go.Proofs.Ytlnahmgcjaodkaa
