/- Requests by their numbers, lists of them, and an array of two numbers, that came in, opened to their cells. -/
import Derived.Test.YtbjemihcbbiiaaaRpOn
import Derived.Test.YtbjemihcbbiiaaaWireF
import Derived.Test.YtbjemihcbbiiaaaInts
import Derived.Test.YtbjemihcbbiiaaaRows
import Derived.OpenShut
import Derived.JoinedCond
import Derived.SizedLaws
import Derived.Deep.Slices
import Derived.Deep.CondSized
namespace Go.Proofs.Ytbjemihcbbiiaaa
open Go.RowKit Go.ChangeShapes Go.WideShapes Go.ChangeAt Go.Deep
open RP (Ad)
set_option linter.unusedVariables false
set_option linter.unusedSimpArgs false
set_option maxRecDepth 100000
theorem c1_ad : Try.prog.cellsOf 55 = 4 := by kernel_rfl
theorem in64_lit {k : Int} (hk : (Lit.int .i64 k).wf = true) : In64 k := by unfold In64; simpa [Lit.wf, IntKind.min, IntKind.max, IntKind.signed, IntKind.bits] using hk
def ad4 (x : Ad) : List Value := [.int .i64 x.frm, .int .i64 x.boot, .int .i64 x.seq, .int .i64 x.low]
structure AdW (x : Ad) : Prop where
  frm : In64 x.frm
  boot : In64 x.boot
  seq : In64 x.seq
  low : In64 x.low
set_option maxHeartbeats 4000000 in
theorem ad_vals {H : Type} {enc : TypeId × Value → H} {W : World} {n : Nat} {d : DataW H} {pl : List MemPlace} {cs : List Value}
    (hcl : cs.length = 4) (h : DataW.trod enc Try.prog W 0 (fun _ => true) true n 55 cs = some (d, pl)) : ∃ (x : Ad), cs = ad4 x ∧ AdW x := by
  obtain ⟨ys, n', _, hy, _, hyl, hf⟩ := DataW.trod_struct Try.underlying55 h
  match cs, hcl with
  | [v0, v1, v2, v3], _ =>
    match ys, hyl with
    | [y0, y1, y2, y3], _ =>
      simp only [Prod.mk.injEq, List.map_cons, List.map_nil] at hy
      obtain ⟨rfl, _⟩ := hy
      have f0 : DataW.trod enc Try.prog W 0 (fun _ => true) true n' 3 [v0] = some y0 := by
        have h := hf 0 _ rfl
        have e : List.take (Try.prog.cellsOf 3) (List.drop 0 [v0, v1, v2, v3]) = [v0] := by rw [cells_int]; rfl
        exact (congrArg (DataW.trod enc Try.prog W 0 (fun _ => true) true n' 3) e.symm).trans h
      have f1 : DataW.trod enc Try.prog W 0 (fun _ => true) true n' 3 [v1] = some y1 := by
        have h := hf 1 _ rfl
        have e : List.take (Try.prog.cellsOf 3) (List.drop 1 [v0, v1, v2, v3]) = [v1] := by rw [cells_int]; rfl
        exact (congrArg (DataW.trod enc Try.prog W 0 (fun _ => true) true n' 3) e.symm).trans h
      have f2 : DataW.trod enc Try.prog W 0 (fun _ => true) true n' 3 [v2] = some y2 := by
        have h := hf 2 _ rfl
        have e : List.take (Try.prog.cellsOf 3) (List.drop 2 [v0, v1, v2, v3]) = [v2] := by rw [cells_int]; rfl
        exact (congrArg (DataW.trod enc Try.prog W 0 (fun _ => true) true n' 3) e.symm).trans h
      have f3 : DataW.trod enc Try.prog W 0 (fun _ => true) true n' 3 [v3] = some y3 := by
        have h := hf 3 _ rfl
        have e : List.take (Try.prog.cellsOf 3) (List.drop 3 [v0, v1, v2, v3]) = [v3] := by rw [cells_int]; rfl
        exact (congrArg (DataW.trod enc Try.prog W 0 (fun _ => true) true n' 3) e.symm).trans h
      clear hf h
      obtain ⟨x0, e0, g0, h0⟩ := DataW.trod_int Try.underlying3 f0
      obtain ⟨x1, e1, g1, h1⟩ := DataW.trod_int Try.underlying3 f1
      obtain ⟨x2, e2, g2, h2⟩ := DataW.trod_int Try.underlying3 f2
      obtain ⟨x3, e3, g3, h3⟩ := DataW.trod_int Try.underlying3 f3
      injection e0 with e0
      injection e1 with e1
      injection e2 with e2
      injection e3 with e3
      subst e0 e1 e2 e3
      exact ⟨⟨x0, x1, x2, x3⟩, rfl, ⟨in64_lit h0, in64_lit h1, in64_lit h2, in64_lit h3⟩⟩
theorem bulk_one {H : Type} (d : DataW H) : 1 ≤ Rows.uptoBulk d := by
  cases d with
  | lit l => cases l <;> simp [Rows.uptoBulk]
  | _ => simp [Rows.uptoBulk]
theorem bulk_all {H : Type} : ∀ (l : List (DataW H)), l.length ≤ Rows.uptoBulkAll l
  | [] => Nat.zero_le _
  | d :: r => by
    have h1 := bulk_one d
    have h2 := bulk_all r
    simp only [Rows.uptoBulkAll, List.length_cons]
    omega
theorem weights_all {H : Type} {e : TypeId} {m : Nat} : ∀ {l : List (DataW H)} {d : DataW H}, d ∈ l → m ∈ d.weights Try.prog e → m ∈ DataW.weightsAll Try.prog e l
  | x :: r, d, hd, hm => by
    simp only [DataW.weightsAll, List.mem_append]
    rcases List.mem_cons.1 hd with rfl | hd
    · exact .inl hm
    · exact .inr (weights_all hd hm)
/-- A list that came in: what holds of each element's cells. -/
theorem open_list {α : Type} [Inhabited α] {H : Type} {enc : TypeId × Value → H} {W : World} {base : Nat} {v : Value} {d : DataW H} {p : List MemPlace} {ts : List TypeId} {ds : List (DataW H)} {j : Nat}
    (T sT : TypeId) (z : Nat) (hsT : Try.prog.underlying sT = some (.slice T)) (hz : Try.prog.cellsOf T = z) (h0z : 0 < z) (Q : α → List Value → Prop)
    (hval : ∀ (n : Nat) (cs : List Value) (d : DataW H) (pl : List MemPlace), cs.length = z → DataW.trod enc Try.prog W 0 (fun _ => true) true n T cs = some (d, pl) → (∀ m ∈ d.weights Try.prog T, m ≤ reachBytes) → ∃ x, Q x cs)
    (hv : Value.okWide Try.prog W .any base sT v) (h : DataW.Trod enc Try.prog W 0 (fun _ => true) true sT v d p)
    (hw : (DataW.weightsEach Try.prog ts ds).all (· ≤ reachBytes) = true) (ht : ts[j]? = some sT) (hd : ds[j]? = some d) :
    ∃ (A : Option Addr) (c : Nat) (xs : List α), v = .slice A xs.length c ∧ xs.length ≤ c ∧ c * Try.prog.bytesOf T ≤ reachBytes ∧ xs.length ≤ Rows.uptoBulk d ∧
      (0 < xs.length → ∃ b o, A = some ⟨b, o, none⟩ ∧ b < W.heap.size ∧ ∀ i x, xs[i]? = some x → ∃ cs : List Value, cs.length = z ∧ Q x cs ∧ ∀ k, k < z → W.cell? ⟨b, o + i * z + k, none⟩ = cs[k]?) := by
  obtain ⟨A, len, cap, rfl⟩ := okWide_slice hsT hv
  obtain ⟨fuel, hf⟩ := h
  rcases open_slice hsT hf with ⟨hcs, hx⟩ | ⟨a, len', cap', m, n, D, Pl, hcs, _, hl, hm, hmm, hx, hi⟩
  · simp [Value.cells] at hcs
    obtain ⟨rfl, rfl, rfl⟩ := hcs
    exact ⟨none, 0, [], rfl, Nat.le_refl _, by omega, Nat.zero_le _, fun h => absurd h (Nat.lt_irrefl 0)⟩
  · simp [Value.cells] at hcs
    obtain ⟨rfl, rfl, rfl⟩ := hcs
    simp only [Prod.mk.injEq] at hx
    obtain ⟨rfl, _⟩ := hx
    have hmc : m = cap := by simpa using hmm
    subst hmc
    have hcap := sized_slice hw ht hd hsT
    simp only [List.length_map, List.length_range] at hcap
    have hwt : ∀ i, i < len → ∀ k ∈ (D i).weights Try.prog T, k ≤ reachBytes := fun i hil k hk => by
      have h1 := List.all_eq_true.1 hw k (DataW.weights_mem_each ht hd _ (by
        simp only [DataW.weights, hsT, List.mem_cons, List.mem_append]
        exact .inr (.inl (weights_all (List.mem_map.2 ⟨i, List.mem_range.2 hil, rfl⟩) hk))))
      simpa using h1
    obtain ⟨xs, hxl, hxs⟩ := list_of (Q := fun i (x : α) => ∃ cs : List Value, cs.length = z ∧ Q x cs ∧ ∀ k, k < z → W.cell? ((a.add (i * z)).add k) = cs[k]?) len (fun i hil => by
      obtain ⟨cs, hc, ht'⟩ := hi i (by omega)
      rw [hz] at hc
      obtain ⟨_, hcl, hat⟩ := World.cells?_some hc
      obtain ⟨x, hQ⟩ := hval _ cs _ _ hcl ht' (hwt i hil)
      exact ⟨x, cs, hcl, hQ, hat⟩)
    have hb := bulk_all ((List.range len).map D)
    rw [List.length_map, List.length_range] at hb
    refine ⟨some a, m, xs, by rw [hxl], by omega, ?_, ?_, fun h0 => ?_⟩
    · have e : len + (m - len) = m := by omega
      rw [e] at hcap
      exact hcap
    · rw [hxl]
      simp only [Rows.uptoBulk]
      omega
    obtain ⟨b, o, sp⟩ := a
    obtain ⟨cs0, hcl0, _, hat0⟩ := hxs 0 xs[0] (List.getElem?_eq_getElem h0)
    have c0 := hat0 0 h0z
    rw [List.getElem?_eq_getElem (by omega)] at c0
    have hsp : sp = none := by simpa [Addr.add] using World.cell?_spot c0
    subst hsp
    have hlt : b < W.heap.size := by
      have := World.block_lt_of_cell? W _ c0
      simpa [Addr.add] using this
    refine ⟨b, o, rfl, hlt, fun i x hx => ?_⟩
    obtain ⟨cs, hcl, hQ, hat⟩ := hxs i x hx
    refine ⟨cs, hcl, hQ, fun k hk => ?_⟩
    have h1 := hat k hk
    rw [Addr.add_lit, Addr.add_lit] at h1
    exact h1
/-- A list of requests that reads so. -/
def AdsAt (w : World) (A : Option Addr) (xs : List Ad) : Prop :=
  0 < xs.length → ∃ b o, A = some ⟨b, o, none⟩ ∧ b < w.heap.size ∧ ∀ j x, xs[j]? = some x → ∀ k v, (ad4 x)[k]? = some v → w.cell? ⟨b, o + (j * 4 + k), none⟩ = some v
theorem AdsAt.mod {w w' : World} {A : Option Addr} {xs : List Ad} {F : List Nat} (h : AdsAt w A xs) (hm : Mod F w w') (hn : ∀ ad, A = some ad → ad.block ∉ F) : AdsAt w' A xs := fun h0 => by
  obtain ⟨b, o, e, hlt, hc⟩ := h h0
  exact ⟨b, o, e, Nat.lt_of_lt_of_le hlt hm.size, fun j x hx k v hv => (hm.cell (p := ⟨b, o + (j * 4 + k), none⟩) hlt (hn ⟨b, o, none⟩ e)).trans (hc j x hx k v hv)⟩
theorem AdsAt.below {w w' : World} {A : Option Addr} {xs : List Ad} (h : AdsAt w A xs) (hb : Below w.heap.size w w') : AdsAt w' A xs := h.mod (Mod.of_below hb []) (by simp)
theorem open_ads {H : Type} {enc : TypeId × Value → H} {W : World} {base : Nat} {v : Value} {d : DataW H} {p : List MemPlace} {ts : List TypeId} {ds : List (DataW H)} {j : Nat}
    (hv : Value.okWide Try.prog W .any base 53 v) (h : DataW.Trod enc Try.prog W 0 (fun _ => true) true 53 v d p)
    (hw : (DataW.weightsEach Try.prog ts ds).all (· ≤ reachBytes) = true) (ht : ts[j]? = some 53) (hd : ds[j]? = some d) :
    ∃ (A : Option Addr) (c : Nat) (xs : List Ad), v = .slice A xs.length c ∧ AdsAt W A xs ∧ xs.length ≤ c ∧ c * 32 ≤ 140737488351232 ∧ ∀ x ∈ xs, AdW x := by
  obtain ⟨A, c, xs, e, h1, h2, _, h4⟩ := open_list (α := Ad) 55 53 4 Try.underlying53 c1_ad (by decide) (fun x cs => cs = ad4 x ∧ AdW x)
    (fun n cs d pl hcl ht hw => by obtain ⟨x, e, hC⟩ := ad_vals hcl ht; exact ⟨x, e, hC⟩) hv h hw ht hd
  have hb : Try.prog.bytesOf 55 = 32 := by kernel_rfl
  have hr : reachBytes = 140737488351232 := rfl
  rw [hb, hr] at h2
  refine ⟨A, c, xs, e, fun h0 => ?_, h1, h2, fun x hx => ?_⟩
  · obtain ⟨b, o, eA, hlt, hc⟩ := h4 h0
    refine ⟨b, o, eA, hlt, fun i x hx k v hv => ?_⟩
    obtain ⟨cs, hcl, ⟨rfl, _⟩, hk⟩ := hc i x hx
    have hkl : k < (ad4 x).length := (List.getElem?_eq_some_iff.1 hv).1
    have := hk k (show k < 4 from hkl)
    rw [Nat.add_assoc] at this
    rw [this]
    exact hv
  · obtain ⟨i, hi, rfl⟩ := List.getElem_of_mem hx
    obtain ⟨b, o, eA, hlt, hc⟩ := h4 (by omega)
    obtain ⟨cs, hcl, ⟨_, hq⟩, hk⟩ := hc i _ (List.getElem?_eq_getElem hi)
    exact hq
/-- The cells of one of them. -/
theorem AdsAt.four {w : World} {A : Option Addr} {xs : List Ad} (h : AdsAt w A xs) {j : Nat} {x : Ad} (hx : xs[j]? = some x) : ∃ b o, A = some ⟨b, o, none⟩ ∧ b < w.heap.size ∧
    (w.cell? ⟨b, o + j * 4, none⟩ = some (.int .i64 x.frm) ∧ w.cell? ⟨b, o + j * 4 + 1, none⟩ = some (.int .i64 x.boot) ∧ w.cell? ⟨b, o + j * 4 + 2, none⟩ = some (.int .i64 x.seq) ∧ w.cell? ⟨b, o + j * 4 + 3, none⟩ = some (.int .i64 x.low)) := by
  obtain ⟨b, o, e, hb, hc⟩ := h (by have := (List.getElem?_eq_some_iff.1 hx).1; omega)
  have k : ∀ k v, (ad4 x)[k]? = some v → w.cell? ⟨b, o + j * 4 + k, none⟩ = some v := fun k v hv => by have := hc j x hx k v hv; rwa [← Nat.add_assoc] at this
  exact ⟨b, o, e, hb, k 0 _ rfl, k 1 _ rfl, k 2 _ rfl, k 3 _ rfl⟩
theorem cells_two : Try.prog.cellsOf 58 = 2 := by kernel_rfl
theorem open_two {H : Type} {enc : TypeId × Value → H} {W : World} {base b0 : Nat} {r : Reach} {spare : Nat → Bool} {held : Bool} {v : Value} {d : DataW H} {ps : List MemPlace}
    (hval : Value.okWide Try.prog W r b0 58 v) (hd : DataW.Trod enc Try.prog W base spare held 58 v d ps) :
    ∃ a b : Int, v = .agg #[.int .i64 a, .int .i64 b] ∧ In64 a ∧ In64 b := by
  unfold Value.okWide at hval
  rw [Try.underlying58] at hval
  obtain ⟨cs, rfl, hs, _⟩ := hval
  rw [cells_two] at hs
  obtain ⟨l⟩ := cs
  match l, hs with
  | [v0, v1], _ =>
    obtain ⟨fuel, hf⟩ := hd
    obtain ⟨xs, m, _, _, _, hl, hat⟩ := DataW.trod_array Try.underlying58 hf
    match xs, hl with
    | [y0, y1], _ =>
      have f0 := hat 0 (by decide)
      have f1 := hat 1 (by decide)
      rw [cells_int] at f0 f1
      obtain ⟨a, e0, _, ha⟩ := DataW.trod_int Try.underlying3 f0
      obtain ⟨b, e1, _, hb⟩ := DataW.trod_int Try.underlying3 f1
      have a0 : v0 = .int .i64 a := (List.cons.inj (show [v0] = [Value.int .i64 a] from e0)).1
      have a1 : v1 = .int .i64 b := (List.cons.inj (show [v1] = [Value.int .i64 b] from e1)).1
      subst a0 a1
      exact ⟨a, b, rfl, in64_lit ha, in64_lit hb⟩
end Go.Proofs.Ytbjemihcbbiiaaa
