/- Lists of bytes in memory: read, made, grown, told as texts, opened as arguments. -/
import Derived.Test.YtboflkadabagfabMem
import Derived.Test.YtboflkadabagfabOctA
import Derived.Lib.SliceRun
import Derived.StillTailTactics
import Derived.Deep.RegionHeld3
import Derived.Deep.RegionLaw
import Derived.Deep.AppendLies
import Derived.Deep.DeepCutAuto
import Derived.Laws.AppendOwnNone
import Derived.Laws.BitsAllLaws
import Derived.Laws.BytesString
import Derived.KernelRfl
import Derived.OpenShut
import Derived.JoinedCond
import Derived.SizedLaws
import Derived.Deep.Slices
import Derived.Deep.CondSized
import Derived.WalkMore
namespace Go.Proofs.Ytboflkadabagfab.By
open Go.RowKit
set_option linter.unusedVariables false
set_option linter.unusedSimpArgs false
set_option maxRecDepth 100000
/-- A byte as a value, bytes as values. -/
def u8 (c : UInt8) : Value := .int .u8 (c.toNat : Int)
def u8s (l : List UInt8) : List Value := l.map u8
theorem u8s_len (l : List UInt8) : (u8s l).length = l.length := by simp [u8s]
theorem u8s_append (a b : List UInt8) : u8s (a ++ b) = u8s a ++ u8s b := by simp [u8s]
theorem one_u8 {l : List UInt8} : ∀ u ∈ u8s l, u.oneCell' = true := by
  intro u hu
  obtain ⟨x, _, rfl⟩ := List.mem_map.1 hu
  rfl
theorem info_u8 : (Try.prog.info? 5).map (fun i => (i.zero, i.size, i.bytes)) = some (some (.int .u8 0), 1, 1) := by kernel_rfl
/-- A slice that reads as bytes, nil let in; its cells lie in block b. -/
def BytesAt (w : World) (A : Option Addr) (xs : List UInt8) : Prop :=
  0 < xs.length → ∃ b o, A = some ⟨b, o, none⟩ ∧ b < w.heap.size ∧ ∀ j x, xs[j]? = some x → w.cell? ⟨b, o + j, none⟩ = some (u8 x)
theorem BytesAt.nil (w : World) (A : Option Addr) : BytesAt w A [] := fun h => absurd h (Nat.lt_irrefl 0)
theorem BytesAt.mod {w w' : World} {A : Option Addr} {xs : List UInt8} {G : List Nat} (h : BytesAt w A xs) (hm : Mod G w w') (hn : ∀ ad, A = some ad → ad.block ∉ G) : BytesAt w' A xs := fun h0 => by
  obtain ⟨b, o, e, hb, hc⟩ := h h0
  exact ⟨b, o, e, Nat.lt_of_lt_of_le hb hm.size, fun j x hx => (hm.cell (p := ⟨b, o + j, none⟩) hb (show b ∉ G from hn _ e)).trans (hc j x hx)⟩
theorem BytesAt.below {w w' : World} {A : Option Addr} {xs : List UInt8} (h : BytesAt w A xs) (hb : Below w.heap.size w w') : BytesAt w' A xs := h.mod (Mod.of_below hb []) (by simp)
theorem BytesAt.own {w : World} {A : Option Addr} {n c : Nat} {xs : List UInt8} {base : Nat} (h : w.ownsRow base 5 1 (.slice A n c) n (u8s xs)) : BytesAt w A xs := fun h0 => by
  have hl := h.1
  rw [u8s_len, Nat.mul_one] at hl
  obtain ⟨g, cap, hv, _, hlt⟩ := h.form (by omega)
  have hA : A = some ⟨g, 0, none⟩ := by injection hv
  subst hA
  refine ⟨g, 0, rfl, hlt, fun j x hx => ?_⟩
  have := h.cells (g := g) rfl j (u8 x) (by simp [u8s, hx])
  rwa [Addr.add_lit] at this
/-- What is answered reads as these bytes and is the call's own; what was there stands. -/
def Fresh (w : World) (xs : List UInt8) (e : Ending) (w' : World) : Prop := ∃ v, e = .returned v ∧ w'.ownsRow w.heap.size 5 1 v xs.length (u8s xs) ∧ Below w.heap.size w w'
theorem BytesAt.cells {w : World} {ad : Addr} {xs : List UInt8} (h : BytesAt w (some ad) xs) : ∀ j u, (u8s xs)[j]? = some u → w.cell? (ad.add j) = some u := by
  intro j u hu
  unfold u8s at hu
  rw [List.getElem?_map] at hu
  obtain ⟨x, hx, rfl⟩ := Option.map_eq_some_iff.1 hu
  have h0 : 0 < xs.length := Nat.lt_of_le_of_lt (Nat.zero_le j) (List.getElem?_eq_some_iff.1 hx).1
  obtain ⟨b, o, e, hb, hc⟩ := h h0
  cases e
  rw [Addr.add_lit]
  exact hc j x hx
/-- A list of bytes read as a text. -/
theorem str_of {w : World} {A : Option Addr} {c : Nat} {l : List UInt8} (h : BytesAt w A l) : (convert 29 9 (.slice A l.length c)).run Try.prog w = .ok (.string ⟨l.toArray⟩) w := by
  cases A with
  | some ad => 
    refine run_convert_bytes_back w _ _ 5 ad c l Try.underlying29 Try.underlying5 Try.underlying9 (fun j hj => ?_)
    exact h.cells j _ (by unfold u8s; rw [List.getElem?_map, List.getElem?_eq_getElem hj]; rfl)
  | none =>
    have h0 : l = [] := by
      cases l with
      | nil => rfl
      | cons y r =>
        obtain ⟨b, o, e, _⟩ := h (by simp)
        cases e
    subst h0
    exact run_convert_bytes_nil w _ 5 Try.underlying29 Try.underlying5 _ c _ Try.underlying9
theorem own_shape {w : World} {base : Nat} {e : TypeId} {size n : Nat} {v : Value} {xs : List Value} (h : w.ownsRow base e size v n xs) : ∃ A c, v = .slice A n c ∧ n ≤ c ∧ c ≤ 9223372036854775807 := by
  rcases h.2 with ⟨rfl, rfl⟩ | ⟨g, cap, cur, rfl, _, _, h1, h2, _⟩
  · exact ⟨none, 0, rfl, Nat.le_refl _, by omega⟩
  · exact ⟨_, cap, rfl, h1, by unfold maxLen at h2; omega⟩
theorem conv_of {w : World} {A : Option Addr} {n c : Nat} {xs : List UInt8} (hn : n = xs.length) (h : BytesAt w A xs) : (convert 29 9 (.slice A n c)).run Try.prog w = .ok (.string ⟨xs.toArray⟩) w := by
  subst hn
  exact str_of h
/-- What is known of a list of bytes that was made just now. -/
def Made (w : World) (xs : List UInt8) (A : Option Addr) (n c : Nat) (w' : World) : Prop :=
  Hid (n = xs.length) ∧ Hid (BytesAt w' A xs) ∧ Hid (w'.ownsRow w.heap.size 5 1 (.slice A n c) n (u8s xs)) ∧ Hid (Below w.heap.size w w') ∧ n ≤ c ∧ c ≤ 9223372036854775807
theorem run_app_all {w : World} {A : Option Addr} {c : Nat} {l : List UInt8} (ty : TypeId) (hB : BytesAt w A l) (hl : l.length ≤ 140737488355328) :
    ∃ A' n' c' w2, (Builtin.append_ #[29, 29] ty #[.slice (some ⟨w.heap.size, 0, none⟩) 0 0, .slice A l.length c]).run Try.prog (w.alloc (.cells #[] 5)) = .ok (.slice A' n' c') w2 ∧ Made w l A' n' c' w2 := by
  obtain ⟨i0, hi, hz0, hz1, hz2⟩ := info_parts info_u8
  have hown : (w.alloc (.cells #[] 5)).ownsRow w.heap.size 5 1 (.slice (some ⟨w.heap.size, 0, none⟩) 0 0) 0 [] := World.ownsRow_lit w #[] 0 (Nat.le_refl _) (by decide) rfl
  cases A with
  | some ad =>
    obtain ⟨v', w', hrun, h2, h3, _, _⟩ := run_append_own_at (P := Try.prog) (w.alloc (.cells #[] 5)) w.heap.size 29 ty 5 i0 (.int .u8 0) 1 1 Try.underlying29 hi hz0 hz1 hz2 rfl (by decide) _ 0 [] hown ad l.length c (u8s l) (by rw [u8s_len, Nat.mul_one]) (hB.below ((Below.refl _ w).alloc (Nat.le_refl _) _)).cells one_u8 (by unfold maxLen; omega) (by omega) (by simp)
    rw [Nat.zero_add, List.nil_append] at h2
    obtain ⟨A', c', rfl, k1, k2⟩ := own_shape h2
    exact ⟨A', _, c', w', hrun, Lib.hid rfl, Lib.hid (BytesAt.own h2), Lib.hid h2, Lib.hid (((Below.refl _ w).alloc (Nat.le_refl _) _).grown h3 (by simp) (fun k hk => by cases hk; exact Nat.le_refl _)), k1, k2⟩
  | none =>
    have h0 : l = [] := by
      cases l with
      | nil => rfl
      | cons y r =>
        obtain ⟨b, o, e, _⟩ := hB (by simp)
        cases e
    subst h0
    refine ⟨some ⟨w.heap.size, 0, none⟩, 0, 0, w.alloc (.cells #[] 5), ?_, Lib.hid rfl, Lib.hid (BytesAt.nil _ _), Lib.hid hown, Lib.hid ((Below.refl _ w).alloc (Nat.le_refl _) _), Nat.le_refl _, by omega⟩
    simp [Builtin.append_, run_underlying Try.underlying29, sizeOf, typeInfo, hi, Builtin.lenOf, Builtin.firstCells, storeCells]
theorem wp_app_all {w : World} {o : Oper} {a : Act} {K : Act → World → Prop} {Q : Exit → Act → World → Prop} (s x : Operand)
    (ho : o.op = .call { callee := .builtin .append, args := #[s, x], argTypes := #[29, 29] })
    (A : Option Addr) (c n : Nat) (l : List UInt8) (hn : n = l.length) (hB : BytesAt w A l) (H : Nat) (hH : w.heap.size = H) (hs : a.eval s = .slice (some ⟨H, 0, none⟩) 0 0) (hx : a.eval x = .slice A n c) (hl : l.length ≤ 140737488355328)
    (h : ∀ A' n' c' w2, Made w l A' n' c' w2 → K (a.put o.dst (.slice A' n' c')) w2) : o.wp Try.prog a (w.alloc (.cells #[] 5)) K Q := by
  subst hn
  subst hH
  obtain ⟨A', n', c', w2, hrun, hm⟩ := run_app_all (c := c) o.type hB hl
  unfold Oper.wp execOp
  simp only [ho, resolve, invoke, builtin, Sem.run_bind, Sem.run_pure, Result.andThen_ok, List.map_toArray, List.map_cons, List.map_nil, hs, hx, hrun]
  exact h A' n' c' w2 hm
theorem app_all {w : World} {ops : Array Oper} {rest : List Oper} {o : Oper} {a : Act} {Q : Exit → Act → World → Prop} (hgd : o.guard = none) (s x : Operand)
    (ho : o.op = .call { callee := .builtin .append, args := #[s, x], argTypes := #[29, 29] })
    (A : Option Addr) (c n : Nat) (l : List UInt8) (hn : n = l.length) (hB : BytesAt w A l) (H : Nat) (hH : w.heap.size = H) (hs : a.eval s = .slice (some ⟨H, 0, none⟩) 0 0) (hx : a.eval x = .slice A n c) (hl : l.length ≤ 140737488355328)
    (h : ∀ A' n' c' w2, Made w l A' n' c' w2 → wpList Try.prog ops Q rest (a.put o.dst (.slice A' n' c')) w2) : wpList Try.prog ops Q (o :: rest) a (w.alloc (.cells #[] 5)) :=
  wpList_plain hgd fun _ hK => wp_app_all s x ho A c n l hn hB H hH hs hx hl fun A' n' c' w2 hm => hK _ _ (h A' n' c' w2 hm)
theorem step_app_all {w : World} {ops : Array Oper} {o : Oper} {a : Act} {K : Act → World → Prop} {Q : Exit → Act → World → Prop} {E : Prop} (hgd : o.guard = none) (s x : Operand)
    (ho : o.op = .call { callee := .builtin .append, args := #[s, x], argTypes := #[29, 29] })
    (A : Option Addr) (c n : Nat) (l : List UInt8) (hn : n = l.length) (hB : BytesAt w A l) (H : Nat) (hH : w.heap.size = H) (hs : a.eval s = .slice (some ⟨H, 0, none⟩) 0 0) (hx : a.eval x = .slice A n c) (hl : l.length ≤ 140737488355328)
    (h : ∀ A' n' c' w2, Made w l A' n' c' w2 → K (a.put o.dst (.slice A' n' c')) w2) : if Region.wanted o (yielded ops a.tmps) = true then Oper.wp Try.prog o a (w.alloc (.cells #[] 5)) K Q else E := by
  have hw : Region.wanted o (yielded ops a.tmps) = true := by simp [Region.wanted, hgd]
  rw [if_pos hw]
  exact wp_app_all s x ho A c n l hn hB H hH hs hx hl h
/-- The same where the operation stands written out: it fails at once at any other. -/
theorem step_app_lit {w W : World} {ops : Array Oper} {d : Option Tmp} {s x : Operand} {ty : TypeId} {ps : String} {af : Array Edge} {a : Act} {K : Act → World → Prop} {Q : Exit → Act → World → Prop} {E : Prop}
    (A : Option Addr) (c n : Nat) (l : List UInt8) (hn : n = l.length) (hB : BytesAt w A l) (H : Nat) (hH : w.heap.size = H) (hW : W = w.alloc (.cells #[] 5)) (hs : a.eval s = .slice (some ⟨H, 0, none⟩) 0 0) (hx : a.eval x = .slice A n c) (hl : l.length ≤ 140737488355328)
    (h : ∀ A' n' c' w2, Made w l A' n' c' w2 → K (a.put d (.slice A' n' c')) w2) :
    if Region.wanted { dst := d, op := .call { callee := .builtin .append, args := #[s, x], argTypes := #[29, 29] }, type := ty, pos := ps, after := af, guard := none } (yielded ops a.tmps) = true
      then Oper.wp Try.prog { dst := d, op := .call { callee := .builtin .append, args := #[s, x], argTypes := #[29, 29] }, type := ty, pos := ps, after := af, guard := none } a W K Q else E := by
  subst hW
  exact step_app_all rfl s x rfl A c n l hn hB H hH hs hx hl h
section
open Go.ChangeShapes Go.WideShapes Go.ChangeAt Go.Deep
theorem list_of {α : Type} [Inhabited α] {Q : Nat → α → Prop} (len : Nat) (h : ∀ i, i < len → ∃ x, Q i x) : ∃ xs : List α, xs.length = len ∧ ∀ i x, xs[i]? = some x → Q i x := by
  classical
  refine ⟨(List.range len).map fun i => if h' : i < len then Classical.choose (h i h') else default, by simp, fun i x hx => ?_⟩
  rw [List.getElem?_map] at hx
  obtain ⟨j, hj, rfl⟩ := Option.map_eq_some_iff.1 hx
  obtain ⟨hl, hj'⟩ := List.getElem?_eq_some_iff.1 hj
  have hji : i = j := by simpa using hj'
  subst hji
  have hlt : i < len := by simpa using hl
  rw [dif_pos hlt]
  exact Classical.choose_spec (h i hlt)
theorem add_none (a : Addr) : a.add 0 = a := by unfold Addr.add; simp
theorem cells_byte : Try.prog.cellsOf 5 = 1 := by kernel_rfl
theorem bytes_byte : Try.prog.bytesOf 5 = 1 := by kernel_rfl
/-- Bytes that came in. -/
theorem open_bytes {H : Type} {enc : TypeId × Value → H} {W : World} {base : Nat} {v : Value} {d : DataW H} {p : List MemPlace} {ts : List TypeId} {ds : List (DataW H)} {j : Nat}
    (hv : Value.okWide Try.prog W .any base 29 v) (h : DataW.Trod enc Try.prog W 0 (fun _ => true) true 29 v d p)
    (hw : (DataW.weightsEach Try.prog ts ds).all (· ≤ reachBytes) = true) (ht : ts[j]? = some 29) (hd : ds[j]? = some d) :
    ∃ A c xs, v = .slice A xs.length c ∧ BytesAt W A xs ∧ xs.length ≤ c ∧ c ≤ 140737488351232 := by
  obtain ⟨A, len, cap, rfl⟩ := okWide_slice Try.underlying29 hv
  obtain ⟨fuel, hf⟩ := h
  rcases open_slice Try.underlying29 hf with ⟨hcs, hx⟩ | ⟨a, len', cap', m, n, D, Pl, hcs, _, hl, hm, hmm, hx, hi⟩
  · simp [Value.cells] at hcs
    obtain ⟨rfl, rfl, rfl⟩ := hcs
    exact ⟨none, 0, [], rfl, BytesAt.nil _ _, Nat.le_refl _, by omega⟩
  · simp [Value.cells] at hcs
    obtain ⟨rfl, rfl, rfl⟩ := hcs
    simp only [Prod.mk.injEq] at hx
    obtain ⟨rfl, _⟩ := hx
    have hmc : m = cap := by simpa using hmm
    subst hmc
    have hcap := sized_slice hw ht hd Try.underlying29
    rw [bytes_byte] at hcap
    simp only [List.length_map, List.length_range] at hcap
    obtain ⟨xs, hxl, hxs⟩ := list_of (Q := fun i (x : UInt8) => W.cell? (a.add i) = some (u8 x)) len (fun i hil => by
      obtain ⟨cs, hc, ht'⟩ := hi i (by omega)
      rw [cells_byte, Nat.mul_one] at hc
      obtain ⟨k, e, _, hk⟩ := DataW.trod_int Try.underlying5 ht'
      obtain ⟨_, hcl, hat⟩ := World.cells?_some hc
      have hk' : 0 ≤ k ∧ k ≤ 255 := by simpa [Lit.wf, IntKind.min, IntKind.max, IntKind.signed, IntKind.bits] using hk
      refine ⟨OM.by8 k.toNat, ?_⟩
      have h0 := hat 0 (by decide)
      rw [e, add_none] at h0
      rw [h0]
      unfold u8
      rw [OM.by8_nat (by omega)]
      show some (Value.int .u8 k) = _
      rw [show ((k.toNat : Nat) : Int) = k by omega])
    have hreach : reachBytes = 140737488351232 := rfl
    refine ⟨some a, m, xs, by rw [hxl], fun h0 => ?_, by omega, by omega⟩
    obtain ⟨b, o, sp⟩ := a
    have c0 := hxs 0 xs[0] (List.getElem?_eq_getElem h0)
    have hsp : sp = none := by simpa [Addr.add] using World.cell?_spot c0
    subst hsp
    have hlt : b < W.heap.size := by
      have := World.block_lt_of_cell? W _ c0
      simpa [Addr.add] using this
    refine ⟨b, o, rfl, hlt, fun j x hx => ?_⟩
    have c1 := hxs j x hx
    rw [Addr.add_lit] at c1
    exact c1
end
end Go.Proofs.Ytboflkadabagfab.By
