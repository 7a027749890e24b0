/- The document's calls of layer 7: lists of packets that grow. -/
import Derived.Test.YtnbfdgccaacdiaaBagW5
namespace Go.Proofs.Ytnbfdgccaacdiaa
open Go.RowKit
open By (BytesAt u8s own_shape)
set_option linter.unusedVariables false
set_option linter.unusedSimpArgs false
set_option maxRecDepth 100000
/-- A packet with the place of its bytes. -/
structure Pv where
  p : Pk
  A : Option Addr
  c : Nat
instance instPv : Inhabited Pv := ⟨⟨default, none, 0⟩⟩
def pv3 (x : Pv) : List Value := (three x.p x.A x.c).toList
def pvs (l : List Pv) : List Value := l.flatMap pv3
theorem pvs_len (l : List Pv) : (pvs l).length = l.length * 3 := by
  unfold pvs
  induction l with
  | nil => rfl
  | cons e r ih =>
    rw [List.flatMap_cons, List.length_append, ih, List.length_cons]
    show 3 + _ = _
    omega
theorem pvs_append (a b : List Pv) : pvs (a ++ b) = pvs a ++ pvs b := by unfold pvs; rw [List.flatMap_append]
theorem one_pv {l : List Pv} : ∀ u ∈ pvs l, u.oneCell' = true := by
  intro u hu
  obtain ⟨e, _, h⟩ := List.mem_flatMap.1 hu
  unfold pv3 three at h
  simp only [List.mem_cons, List.not_mem_nil, or_false] at h
  rcases h with rfl | rfl | rfl <;> rfl
theorem pvs_at : ∀ {l : List Pv} {j : Nat} {e : Pv}, l[j]? = some e → (pvs l)[j * 3]? = some (.int .i64 e.p.frm) ∧ (pvs l)[j * 3 + 1]? = some (.int .i64 e.p.dst) ∧ (pvs l)[j * 3 + 2]? = some (.slice e.A e.p.d.length e.c)
  | [], j, e, h => by simp at h
  | x :: r, 0, e, h => by
    simp only [List.getElem?_cons_zero, Option.some.injEq] at h
    subst h
    exact ⟨rfl, rfl, rfl⟩
  | x :: r, j + 1, e, h => by
    rw [List.getElem?_cons_succ] at h
    have ih := pvs_at h
    have e1 : pvs (x :: r) = .int .i64 x.p.frm :: .int .i64 x.p.dst :: .slice x.A x.p.d.length x.c :: pvs r := rfl
    rw [e1, show (j + 1) * 3 = j * 3 + 3 by omega]
    exact ih
/-- What the call itself has grown holds these packets; their bytes lie in blocks of S. -/
structure GrewP (S : Nat → Prop) (w : World) (ps : List Pk) (v : Value) (w' : World) : Prop where
  ex : ∃ l : List Pv, l.map Pv.p = ps ∧ w'.ownsRow w.heap.size 31 3 v l.length (pvs l) ∧ ∀ x ∈ l, Data (fun b => S b ∧ b < w.heap.size) w' x.A x.p.d
  below : Below w.heap.size w w'
theorem GrewP.nil (S : Nat → Prop) (w : World) : GrewP S w [] (.slice none 0 0) w := ⟨⟨[], rfl, World.ownsRow_nil _ _ _ _, by simp⟩, Below.refl _ _⟩
theorem GrewP.keep {S : Nat → Prop} {w w1 w2 : World} {ps : List Pk} {v : Value} (g : GrewP S w ps v w1) (h : Below w1.heap.size w1 w2) : GrewP S w ps v w2 := by
  obtain ⟨⟨l, h1, h2, h3⟩, hb⟩ := g
  exact ⟨⟨l, h1, (Mod.of_below h []).own h2 (by simp), fun x hx => (h3 x hx).below h⟩, below_on hb h⟩
theorem GrewP.shape {S : Nat → Prop} {w w1 : World} {ps : List Pk} {v : Value} (g : GrewP S w ps v w1) : ∃ A c, v = .slice A ps.length c ∧ ps.length ≤ c ∧ c ≤ 9223372036854775807 := by
  obtain ⟨⟨l, h1, h2, h3⟩, hb⟩ := g
  obtain ⟨A, c, e1, e2, e3⟩ := own_shape h2
  have : l.length = ps.length := by rw [← h1, List.length_map]
  exact ⟨A, c, by rw [e1, this], by omega, e3⟩
theorem GrewP.at {S : Nat → Prop} {w w' : World} {ps : List Pk} {A : Option Addr} {n c : Nat} (g : GrewP S w ps (.slice A n c) w') (hS : ∀ x, w.heap.size ≤ x → S x) : PksAt S w' A ps := fun h0 => by
  obtain ⟨⟨l, h1, h2, h3⟩, hb⟩ := g
  have hl : l.length = ps.length := by rw [← h1, List.length_map]
  rcases h2.2 with ⟨_, e⟩ | ⟨g, cap, cur, hv, hg, hh, _, _, _, ht⟩
  · omega
  · injection hv with hA
    subst hA
    refine ⟨g, 0, rfl, (Array.getElem?_eq_some_iff.1 hh).1, hS g hg, fun j p hj => ?_⟩
    have key : ∀ k u, (pvs l)[k]? = some u → w'.cell? ⟨g, k, none⟩ = some u := fun k u hu => by
      rw [cell_of_row w' g k cur _ (0, 0) hh]
      rw [← ht, List.getElem?_take] at hu
      split at hu
      · rw [← hu, Array.getElem?_toList]
      · cases hu
    rw [← h1, List.getElem?_map] at hj
    obtain ⟨x, hx, e⟩ := Option.map_eq_some_iff.1 hj
    subst e
    obtain ⟨k0, k1, k2⟩ := pvs_at hx
    rw [Nat.zero_add]
    exact ⟨x.A, x.c, key _ _ k0, key _ _ k1, key _ _ k2, (h3 x (List.mem_of_getElem? hx)).mono (fun b _ hb => hb.1)⟩
/-- One packet put behind what the call itself has grown. -/
theorem app_pk {S : Nat → Prop} {w w1 : World} {ops : Array Oper} {rest : List Oper} {o : Oper} {a : Act} {Q : Exit → Act → World → Prop} (hgd : o.guard = none) (s x : Operand)
    (ho : o.op = .call { callee := .builtin .append, args := #[s, x], argTypes := #[26, 26] })
    (v : Value) (pre : List Pk) (hG : GrewP S w pre v w1) (hs : a.eval s = v) (p : Pk) (A : Option Addr) (c : Nat) (hD : Data (fun b => S b ∧ b < w.heap.size) w1 A p.d) (hx : a.eval x = .slice (some ⟨w1.heap.size, 0, none⟩) 1 1) (hl : (pre.length + 1) * 40 ≤ 140737488355328)
    (h : ∀ v' w2, GrewP S w (pre ++ [p]) v' w2 → wpList Try.prog ops Q rest (a.put o.dst v') w2) : wpList Try.prog ops Q (o :: rest) a (w1.alloc (.cells (three p A c) 31)) := by
  obtain ⟨i0, hi, hz0, hz1, hz2⟩ := info_parts info_pk
  obtain ⟨⟨l, h1, h2, h3⟩, hb⟩ := hG
  have hll : l.length = pre.length := by rw [← h1, List.length_map]
  refine wpList_append_own_at _ hgd s x 26 ho w.heap.size 31 i0 (.agg zero3) 3 40 Try.underlying26 hi hz0 hz1 hz2 rfl (by decide) v l.length (pvs l) hs (h2.alloc _) ⟨w1.heap.size, 0, none⟩ 1 1 (pv3 ⟨p, A, c⟩) hx rfl
    (World.news_of_block (cs := (pv3 ⟨p, A, c⟩).toArray) (t := 31) (fr := (0, 0)) (heap_alloc_new w1 _)) (fun u hu => one_pv (l := [⟨p, A, c⟩]) u (by unfold pvs; simpa using hu)) (by unfold maxLen; omega) (by omega) (by have := hb.size; rw [World.size_alloc]; omega) ?_
  intro v' w2 hown hgrow _ _
  have hmod : Mod (match v.ownBlock with | some k => [k] | none => []) w1 w2 := by
    refine Mod.grown ((Mod.refl _ w1).alloc _) hgrow ?_
    intro k hk
    rw [hk]
    simp
  have hfar : ∀ y : Pv, Data (fun b => S b ∧ b < w.heap.size) w1 y.A y.p.d → Data (fun b => S b ∧ b < w.heap.size) w2 y.A y.p.d := fun y hy => hy.mod hmod (by
    intro k hk hs
    split at hk
    · rename_i b hb'
      have h1 := (h2.lt b hb').1
      rw [List.mem_singleton.1 hk] at hs
      have := hs.2
      omega
    · cases hk)
  refine h v' w2 ⟨⟨l ++ [⟨p, A, c⟩], by rw [List.map_append, h1]; rfl, ?_, ?_⟩, (hb.alloc hb.size _).grown hgrow ?_ (fun k hk => (h2.lt k hk).1)⟩
  · rw [List.length_append, pvs_append, show pvs [⟨p, A, c⟩] = pv3 ⟨p, A, c⟩ by unfold pvs; simp]
    exact hown
  · intro y hy
    rcases List.mem_append.1 hy with hy | hy
    · exact hfar y (h3 y hy)
    · have : y = ⟨p, A, c⟩ := by simpa using hy
      subst this
      exact hfar _ hD
  · have := hb.size
    rw [World.size_alloc]
    omega
def bag3 (B : Option Addr) (n c : Nat) (s q : Int) : Array Value := #[.slice B n c, .int .i64 s, .int .i64 q]
section
variable {S : Nat → Prop} {w : World} {B : Option Addr} {ps : List Pk}
/-- A packet of a list, by its place. -/
theorem PksAt.get (h : PksAt S w B ps) {k : Nat} {p : Pk} (hk : ps[k]? = some p) : ∃ b o A c, B = some ⟨b, o, none⟩ ∧ w.cell? ⟨b, o + k * 3, none⟩ = some (.int .i64 p.frm) ∧ w.cell? ⟨b, o + k * 3 + 1, none⟩ = some (.int .i64 p.dst) ∧ w.cell? ⟨b, o + k * 3 + 2, none⟩ = some (.slice A p.d.length c) ∧ Data S w A p.d := by
  have hlt := (List.getElem?_eq_some_iff.1 hk).1
  obtain ⟨b, o, e, h1, h2, h3⟩ := h (by omega)
  obtain ⟨A, c, k0, k1, k2, k3⟩ := h3 k p hk
  exact ⟨b, o, A, c, e, k0, k1, k2, k3⟩
set_option maxHeartbeats 4000000 in
theorem RefWith_any (h : PksAt S w B ps) (c : Nat) (hc : ps.length ≤ c) (hl : (ps.length + 1) * 40 ≤ 140737488355328) (p : Pk) (A : Option Addr) (d : Nat) (hD : Data S w A p.d) (hS : ∀ x, w.heap.size ≤ x → S x) :
    Calls Try.prog 27 #[.slice B ps.length c, .agg (three p A d)] w fun e w' => ∃ B' c', e = .returned (.slice B' (ps.length + 1) c') ∧ Hid (ps.length + 1 ≤ c' ∧ c' ≤ 9223372036854775807) ∧ Hid (PksAt S w' B' (ps ++ [p])) ∧ Below w.heap.size w w' := by
  have HX := Lib.hid ((Below.refl _ w).alloc (Nat.le_refl _) (.cells (three p A d) 31))
  have H := Lib.hid ((h.below HX.out).mono (S' := fun b => S b ∧ b < (w.alloc (.cells (three p A d) 31)).heap.size) (fun x hx hs => ⟨hs, hx⟩))
  have HD := Lib.hid ((hD.below HX.out).mono (S' := fun b => S b ∧ b < (w.alloc (.cells (three p A d) 31)).heap.size) (fun x hx hs => ⟨hs, hx⟩))
  have HP := Lib.hid (Whole.new w 31 (three p A d))
  have HSS := Lib.hid hS
  have HLN := Lib.hid hl
  clear h hD hS
  go_enter Try.func27, Try.ntmps27
  go_upto_region 1 with (fail)
  generalize w.alloc (.cells (three p A d) 31) = w0 at HX H HD HP ⊢
  go_wp2_with fail
  go_loopw [5, 6] (fun v i wx => ∃ k : Nat, i = .int .i64 (k : Int) ∧ k ≤ ps.length ∧ Hid (GrewP S w0 (ps.take k) v wx)) (fun _ i _ => ps.length - (intOf i).toNat)
  case atStart => exact ⟨0, rfl, by omega, Lib.hid (GrewP.nil S w0)⟩
  case round =>
    obtain ⟨k, rfl, hk, HG⟩ := hrel
    by_cases hlt : k < ps.length
    · have HPK := Lib.hid (List.getElem?_eq_getElem hlt)
      have HTK := Lib.hid (show ps.take k ++ [ps[k]] = ps.take (k + 1) by rw [List.take_add_one, List.getElem?_eq_getElem hlt]; rfl)
      generalize ps[k] = r at HPK HTK
      obtain ⟨b, o, A1, c1, e1, a0, a1, a2, hd⟩ := (H.out.below HG.out.below).get HPK.out
      subst e1
      have HD1 := Lib.hid hd
      clear hd
      go_wp2_with (at_builtin; refine app_pk rfl (.tmp 13) (.tmp 18) rfl _ _ HG.out rfl r A1 c1 HD1.out rfl (by rw [List.length_take]; have := HLN.out; omega) ?_; intro v2 w5 hg2; rw [HTK.out] at hg2; have HG5 := Lib.hid hg2; clear hg2)
      go_roundw
      case rel => exact ⟨k + 1, rfl, hlt, HG5⟩
      case measure => simp only [intOf]; omega
    · obtain rfl : k = ps.length := by omega
      have HG1 := HG
      rw [List.take_length] at HG1
      have hw := (Mod.of_below HG1.out.below []).whole HP.out (by simp)
      have p0 : wr.cell? ⟨w.heap.size, 0, none⟩ = some (.int .i64 p.frm) := hw.cell 0
      have p1 : wr.cell? ⟨w.heap.size, 1, none⟩ = some (.int .i64 p.dst) := hw.cell 1
      have p2 : wr.cell? ⟨w.heap.size, 2, none⟩ = some (.slice A p.d.length d) := hw.cell 2
      clear hw
      go_wp2_with (at_builtin; refine app_pk rfl (.tmp 20) (.tmp 22) rfl _ _ HG1.out rfl p A d (HD.out.below HG1.out.below) rfl HLN.out ?_; intro v2 w5 hg2; have HG5 := Lib.hid hg2; clear hg2)
      obtain ⟨B', c', e, h1, h2⟩ := HG5.out.shape
      subst e
      go_ret
      refine ⟨B', c', by rw [List.length_append]; rfl, Lib.hid ⟨by rw [List.length_append] at h1; exact h1, h2⟩, Lib.hid (HG5.out.at (fun x hx => HSS.out x (Nat.le_trans HX.out.size hx))), HX.out.trans (HG5.out.below.mono HX.out.size)⟩
end
end Go.Proofs.Ytnbfdgccaacdiaa
