/- What the law CallsOwn carries: two sets of calls, two lists of the first one's calls, one of them turned; whether two lists of calls are one. -/
import Derived.Test.YtnacchldecjcaaaCaNil
import Derived.Test.YtnacchldecjcaaaCaOnce
import Derived.Deep.MidRow
import Derived.Lib.AppendZeros
namespace Go.Proofs.Ytnacchldecjcaaa
open Go.RowKit
open CA (Cl St)
open WM (Msg)
set_option linter.unusedVariables false
set_option linter.unusedSimpArgs false
set_option maxRecDepth 100000
/-- Two sets of calls. -/
structure Sy (w0 w : World) (g M h N : Nat) (s t : St) : Prop where
  below : Below w0.heap.size w0 w
  sa : CallsAt w g M s
  ta : CallsAt w h N t
  ne : g ≠ h
  neM : M ≠ N
  fs : w0.heap.size ≤ g ∧ w0.heap.size ≤ M
  ft : w0.heap.size ≤ h ∧ w0.heap.size ≤ N
theorem cells_map {w : World} {g M h N : Nat} {s t : St} (ha : CallsAt w g M s) (hb : CallsAt w h N t) : g ≠ N := by
  intro e
  subst e
  obtain ⟨es, c, hb, _⟩ := hb.map
  have := ha.cells
  unfold Whole at this
  rw [hb] at this
  cases this
section
variable {w0 w w' : World} {g M h N : Nat} {s t s' t' : St}
theorem Sy.on (k : Sy w0 w g M h N s t) (hb : Below w.heap.size w w') : Sy w0 w' g M h N s t := ⟨below_on k.below hb, k.sa.below hb, k.ta.below hb, k.ne, k.neM, k.fs, k.ft⟩
theorem Sy.puts {F : List Nat} (k : Sy w0 w g M h N s t) (ht : Turned w g M F s' w') (hF : ∀ x ∈ F, x = g ∨ x = M) : Sy w0 w' g M h N s' t := by
  refine ⟨k.below.trans (ht.2.below k.below.size (fun x hx => by rcases hF x hx with rfl | rfl; exact k.fs.1; exact k.fs.2)), ht.1, k.ta.mod ht.2 (fun hx => ?_) (fun hx => ?_), k.ne, k.neM, k.fs, k.ft⟩
  · rcases hF h hx with e | e
    · exact k.ne e.symm
    · exact cells_map k.ta k.sa e
  · rcases hF N hx with e | e
    · exact cells_map k.sa k.ta e.symm
    · exact k.neM e.symm
theorem Sy.putt {F : List Nat} (k : Sy w0 w g M h N s t) (ht : Turned w h N F t' w') (hF : ∀ x ∈ F, x = h ∨ x = N) : Sy w0 w' g M h N s t' := by
  refine ⟨k.below.trans (ht.2.below k.below.size (fun x hx => by rcases hF x hx with rfl | rfl; exact k.ft.1; exact k.ft.2)), k.sa.mod ht.2 (fun hx => ?_) (fun hx => ?_), ht.1, k.ne, k.neM, k.fs, k.ft⟩
  · rcases hF g hx with e | e
    · exact k.ne e
    · exact cells_map k.sa k.ta e
  · rcases hF M hx with e | e
    · exact cells_map k.ta k.sa e.symm
    · exact k.neM e
/-- What is not the sets' own stands. -/
theorem Sy.far (k : Sy w0 w g M h N s t) {base : Nat} {e : TypeId} {size n : Nat} {v : Value} {xs : List Value} (hv : w.ownsRow base e size v n xs) (he : e ≠ 54) : v.ownBlock ≠ some g ∧ v.ownBlock ≠ some M ∧ v.ownBlock ≠ some h ∧ v.ownBlock ≠ some N :=
  ⟨own_ne hv k.sa.cells he, own_map hv k.sa.map, own_ne hv k.ta.cells he, own_map hv k.ta.map⟩
end
/-- A list that was there ahead of the sets. -/
theorem ClsAt.far_of {w0 w w' : World} {b o g M : Nat} {xs : List Cl} {s' : St} (h : ClsAt w (some ⟨b, o, none⟩) xs) (ht : Turned w g M [g, M] s' w') (hg : w0.heap.size ≤ g) (hM : w0.heap.size ≤ M) (hb : b < w0.heap.size) : ClsAt w' (some ⟨b, o, none⟩) xs := h.mod ht.2 (fun ad e => by
  injection e with e
  subst e
  simp
  omega)
def nine : Cl := ⟨-9, 0, 0, ⟨#[]⟩, 0, 0, 0, false, 0, 0⟩
/-- A row of calls of one's own, whatever stands in it. -/
def Pp (w : World) (base : Nat) (v : Value) (n : Nat) : Prop := ∃ XS, w.ownsRow base 32 10 v n XS
structure Pz (w0 w : World) (g M h N : Nat) (s t : St) (v : Value) (n : Nat) (q : Value) (L : List Cl) : Prop where
  sy : Sy w0 w g M h N s t
  qq : w.ownsRow w0.heap.size 32 10 q L.length (flatC L)
  pp : Pp w w0.heap.size v n
  pq : ∀ k, v.ownBlock = some k → q.ownBlock ≠ some k
section
variable {w0 w w' : World} {g M h N : Nat} {s t s' : St} {v v' q : Value} {n n' : Nat} {L : List Cl}
theorem Pz.on (k : Pz w0 w g M h N s t v n q L) (hb : Below w.heap.size w w') : Pz w0 w' g M h N s t v n q L := by
  obtain ⟨XS, hp⟩ := k.pp
  exact ⟨k.sy.on hb, (Mod.of_below hb []).own k.qq (by simp), ⟨XS, (Mod.of_below hb []).own hp (by simp)⟩, k.pq⟩
theorem Pz.puts1 (k : Pz w0 w g M h N s t v n q L) (ht : Turned w g M [M] s' w') : Pz w0 w' g M h N s' t v n q L := by
  obtain ⟨XS, hp⟩ := k.pp
  have f1 := k.sy.far hp (by decide)
  have f2 := k.sy.far k.qq (by decide)
  exact ⟨k.sy.puts ht (by simp), ht.2.own k.qq (fun b hb hf => f2.2.1 (by rw [hb]; simp at hf; rw [hf])), ⟨XS, ht.2.own hp (fun b hb hf => f1.2.1 (by rw [hb]; simp at hf; rw [hf]))⟩, k.pq⟩
theorem Pz.turn (k : Pz w0 w g M h N s t v n q L) (hm : Mod v.ownBlock.toList w w') (hp : Pp w' w0.heap.size v' n') (hv : v'.ownBlock = v.ownBlock ∨ v'.ownBlock = some w.heap.size) : Pz w0 w' g M h N s t v' n' q L := by
  have hF : ∀ x ∈ v.ownBlock.toList, v.ownBlock = some x := fun x hx => by simpa using hx
  obtain ⟨XS, hp0⟩ := k.pp
  obtain ⟨f1, f2, f3, f4⟩ := k.sy.far hp0 (by decide)
  refine ⟨⟨k.sy.below.trans (hm.below k.sy.below.size (fun x hx => (hp0.lt x (hF x hx)).1)), k.sy.sa.mod hm (fun hx => f1 (hF g hx)) (fun hx => f2 (hF M hx)), k.sy.ta.mod hm (fun hx => f3 (hF h hx)) (fun hx => f4 (hF N hx)), k.sy.ne, k.sy.neM, k.sy.fs, k.sy.ft⟩,
    hm.own k.qq (fun b hk hx => k.pq b (hF b hx) hk), hp, fun b hk => ?_⟩
  rcases hv with e | e
  · rw [e] at hk; exact k.pq b hk
  · rw [e] at hk
    injection hk with hk
    subst hk
    intro hq
    have := (k.qq.lt _ hq).2
    omega
end
/-- One call put behind a row, whatever it holds. -/
theorem app_row {W : World} {ops : Array Oper} {rest : List Oper} {o : Oper} {a : Act} {Q : Exit → Act → World → Prop} (hgd : o.guard = none) (s x : Operand)
    (ho : o.op = .call { callee := .builtin .append, args := #[s, x], argTypes := #[40, 40] }) {base n : Nat} {v : Value} (hown : Pp W base v n) {p : Nat} {y : Cl}
    (hp : Whole W p 32 (ten y)) (hl : n ≤ 1000) (hb : base ≤ W.heap.size) (hs : a.eval s = v) (hx : a.eval x = .slice (some ⟨p, 0, none⟩) 1 1)
    (hK : ∀ v' w2, Pp w2 base v' (n + 1) → Mod v.ownBlock.toList W w2 → (v'.ownBlock = v.ownBlock ∨ v'.ownBlock = some W.heap.size) → wpList Try.prog ops Q rest (a.put o.dst v') w2) : wpList Try.prog ops Q (o :: rest) a W := by
  obtain ⟨XS, hown⟩ := hown
  obtain ⟨i0, z, hi, hz0, hz1, hz2, hzc⟩ := info_clz
  obtain ⟨v', w', hr, h2, h3, _, h5⟩ := run_append_own_at (P := Try.prog) W base 40 o.type 32 i0 z 10 88 Try.underlying40 hi hz0 hz1 hz2 hzc (by decide) v n XS hown ⟨p, 0, none⟩ 1 1 (c10 y) rfl
    (World.news_of_block (cs := ten y) (t := 32) (fr := (0, 0)) hp) (fun u hu => one_c10 (l := [y]) u (by unfold flatC; simpa using hu)) (by unfold maxLen; omega) (by omega) hb
  exact Lib.wpList_append_run W hgd s x _ _ ho _ _ hs hx v' w' hr (hK v' w' ⟨_, h2⟩ ((Mod.refl _ W).grown h3 (fun k hk => .inl (by rw [hk]; simp))) h5)
theorem whole_cells {t : TypeId} {b : Nat} : ∀ (vs : List Value) (o : Nat) (w : World) (cur : Array Value), Whole w b t cur → ∃ cur', Whole (w.setCells b o vs) b t cur' ∧ cur'.size = cur.size ∧ Mod [b] w (w.setCells b o vs)
  | [], _, w, cur, h => ⟨cur, h, rfl, Mod.refl _ _⟩
  | v :: r, o, w, cur, h => by
    obtain ⟨c, h1, h2, h3⟩ := whole_cells r (o + 1) _ _ (h.store o v)
    exact ⟨c, h1, by rw [h2]; simp, ((Mod.refl [b] w).store (p := ⟨b, o, none⟩) (.inl (by simp)) v).trans h3 (fun x hx => .inl hx)⟩
/-- A row that holds something stands in a block. -/
theorem pp_open {w : World} {base n c : Nat} {A : Option Addr} (h : Pp w base (.slice A n c) n) (hn : 0 < n) : ∃ b cur, A = some ⟨b, 0, none⟩ ∧ Whole w b 32 cur ∧ cur.size = c * 10 ∧ n ≤ c ∧ base ≤ b ∧ c ≤ maxLen := by
  obtain ⟨XS, hl, h⟩ := h
  rcases h with ⟨e, h0⟩ | ⟨g', cap, cur, e, hb, hh, h1, h2, h3, h4⟩
  · omega
  · injection e with e1 _ e3
    subst e1 e3
    exact ⟨g', cur, rfl, hh, h3, h1, hb, h2⟩
theorem pp_of {w : World} {base n c b : Nat} {cur : Array Value} (hW : Whole w b 32 cur) (hs : cur.size = c * 10) (hn : n ≤ c) (hb : base ≤ b) (hc : c ≤ maxLen) : Pp w base (.slice (some ⟨b, 0, none⟩) n c) n :=
  ⟨cur.toList.take (n * 10), by rw [List.length_take, Array.length_toList, hs, Nat.min_eq_left (Nat.mul_le_mul_right 10 hn)], .inr ⟨b, c, cur, rfl, hb, hW, hn, hc, hs, rfl⟩⟩
/-- A call is stored in the row. -/
theorem pp_set {w : World} {base n c b : Nat} (h : Pp w base (.slice (some ⟨b, 0, none⟩) n c) n) {j : Nat} (hj : j < n) (y : Cl) :
    w.there b (j * 10) (ten y).size ∧ Pp (w.setCells b (j * 10) (ten y).toList) base (.slice (some ⟨b, 0, none⟩) n c) n ∧ Mod [b] w (w.setCells b (j * 10) (ten y).toList) := by
  obtain ⟨b', cur, e, hW, hs, hn, hb, hc⟩ := pp_open h (by omega)
  injection e with e
  injection e with e
  subst e
  obtain ⟨cur', h1, h2, h3⟩ := whole_cells (ten y).toList (j * 10) w cur hW
  refine ⟨fun i hi => ?_, pp_of h1 (by rw [h2, hs]) hn hb hc, h3⟩
  have hi10 : i < 10 := hi
  refine ⟨?_, hW.frozen _⟩
  rw [hW.cell, Array.getElem?_eq_getElem (by rw [hs]; omega)]
  rfl
theorem close_head {s : St} (hi : CA.Inv s) {x : Cl} {r : List Cl} (ho : s.on = x :: r) : (CA.close s x.seq).on = r := by
  have hr := hi.rise
  rw [ho] at hr
  have h1 := (List.pairwise_cons.1 hr).1
  show s.on.filter (fun y => decide (y.seq ≠ x.seq)) = r
  rw [ho, List.filter_cons_of_neg (by simp)]
  exact List.filter_eq_self.2 fun y hy => by have := h1 y hy; simp; omega
theorem drewN_below (w : World) (q : Nat) : Below w.heap.size w (w.drewN q) := ⟨rfl, rfl, rfl, Nat.le_refl _, fun _ _ => rfl⟩
set_option maxHeartbeats 4000000 in
/-- Two lists of the same calls are one. -/
theorem RefSame_any (A B : Option Addr) (c d n : Nat) (l : List Cl) (w : World) (hn : l.length = n) (hn2 : n ≤ 1000) (hA : ClsAt w A l) (hB : ClsAt w B l) :
    Calls Try.prog 18 #[.slice A n c, .slice B n d] w fun e w' => e = .returned (.bool true) ∧ Below w.heap.size w w' := by
  have HA := Lib.hid hA; clear hA
  have HB := Lib.hid hB; clear hB
  have HN := Lib.hid hn; clear hn
  go_enter Try.func18, Try.ntmps18
  go_wp2_with fail
  go_loopw [5] (fun i wx => ∃ k : Nat, i = .int .i64 (k : Int) ∧ k ≤ n ∧ Below w.heap.size w wx) (fun i _ => n - (intOf i).toNat)
  case atStart => exact ⟨0, rfl, by omega, Below.refl _ _⟩
  case round =>
    obtain ⟨k, rfl, hk, hW⟩ := hrel
    have HW := Lib.hid hW; clear hW
    by_cases hlt : k < n
    · have hw : IntKind.i64.wrap ((k : Int) + 1) = (k : Int) + 1 := IntWalk.i64_in _ (by omega)
      have d1 : (k : Int) < (n : Int) := by omega
      have d2 : (0 : Int) ≤ (k : Int) := by omega
      obtain ⟨x, hx⟩ : ∃ x, l[k]? = some x := ⟨l[k]'(by rw [HN.out]; exact hlt), List.getElem?_eq_getElem _⟩
      obtain ⟨ba, oa, eA, _, a0, a1, a2, a3, a4, a5, a6, a7, a8, a9⟩ := (HA.out.below HW.out).ten hx
      obtain ⟨bb, ob, eB, _, b0, b1, b2, b3, b4, b5, b6, b7, b8, b9⟩ := (HB.out.below HW.out).ten hx
      subst eA
      subst eB
      clear hx
      go_wp2_with fail
      go_quiet (fail)
      have HW2 := Lib.hid (HW.out.trans (drewN_below wr nq |>.mono HW.out.size))
      clear a0 a1 a2 a3 a4 a5 a6 a7 a8 a9 b0 b1 b2 b3 b4 b5 b6 b7 b8 b9
      generalize wr.drewN nq = w8 at HW2 ⊢
      go_wp2_with fail
      go_roundw
      case rel => exact ⟨k + 1, by simp, by omega, HW2.out⟩
      case measure => simp [intOf]; omega
    · obtain rfl : k = n := by omega
      go_wp2_with fail
      go_ret
      exact ⟨rfl, HW.out⟩
end Go.Proofs.Ytnacchldecjcaaa
