/- BagOwn: List with its block known; slices of bytes that may be written to, whatever they hold, nil let in; Look, Take of the bag and of the document's in one word each. -/
import Derived.Test.YtnbfdgccaacdiaaBagOwnC
import Derived.Deep.AppendSrc
namespace Go.Proofs.Ytnbfdgccaacdiaa.Own
open Go.RowKit
open By (BytesAt u8 u8s own_shape)
set_option linter.unusedVariables false
set_option linter.unusedSimpArgs false
set_option maxRecDepth 100000
section
variable {S : Nat → Prop} {w w' : World} {g : Nat} {ps : List Pk} {s q : Int}
set_option maxHeartbeats 4000000 in
/-- List, its block known. -/
theorem List_own (h : BagAt S w g ps s q) (hl : ∀ p ∈ ps, p.d.length ≤ 140737488355328) :
    Calls Try.prog 16 #[.pointer (some ⟨g, 0, none⟩)] w fun e w' => e = .returned (.slice (some ⟨w.heap.size, 0, none⟩) ps.length ps.length) ∧ Hid (∃ cs, Whole w' w.heap.size 31 cs ∧ cs.size = ps.length * 3 ∧ Put (w.heap.size + 1) w' cs ps ps.length) ∧ Hid (Below w.heap.size w w') := by
  have h48 := h.le
  have H := Lib.hid h
  have HL := Lib.hid hl
  have HG := Lib.hid h.lt
  have hmk : ∀ w' : World, (Instr.makeSlice 26 (.int .i64 (ps.length : Int)) (.int .i64 (ps.length : Int))).run Try.prog w' = .ok (.slice (some ⟨w'.heap.size, 0, none⟩) ps.length ps.length) (w'.alloc (.cells (madeCells zero3 (ps.length * 3)) 31)) := fun w' => by
    obtain ⟨i0, hi, hz0, hz1, hz2⟩ := info_parts info_pk
    have h := run_make (P := Try.prog) w' 26 31 i0 (.agg zero3) Try.underlying26 hi hz0 .i64 .i64 (ps.length : Int) (ps.length : Int) (by omega) (by omega) (by rw [hz2]; omega) (by omega)
    simp only [Int.toNat_natCast, hz1, Value.cells] at h
    exact h
  clear h hl
  go_enter Try.func16, Try.ntmps16
  go_wp2_with fail
  refine (Len_any H.out).mono ?_
  rintro e w1 ⟨rfl, rfl⟩
  go_wp2_with fail
  have HC1 := Lib.hid (Whole.new w 31 (madeCells zero3 (ps.length * 3)))
  have HX1 := Lib.hid ((Below.refl _ w).alloc (Nat.le_refl _) (.cells (madeCells zero3 (ps.length * 3)) 31))
  generalize w.alloc (.cells (madeCells zero3 (ps.length * 3)) 31) = w1 at HC1 HX1 ⊢
  clear hmk
  go_loopw [10] (fun i wx => ∃ (k : Nat) (cs : Array Value), i = .int .i64 (k : Int) ∧ k ≤ ps.length ∧ Whole wx w.heap.size 31 cs ∧ cs.size = ps.length * 3 ∧ Put (w.heap.size + 1) wx cs ps k ∧ Below w.heap.size w wx) (fun i _ => ps.length - (intOf i).toNat)
  case atStart => exact ⟨0, _, rfl, by omega, HC1.out, size_madeCells _ _, fun j p hj => absurd hj (by omega), HX1.out⟩
  case round =>
    obtain ⟨k, cs, rfl, hk, hW, hs, hP, hB⟩ := hrel
    have HW := Lib.hid hW; have HS := Lib.hid hs; have HP := Lib.hid hP; have HB := Lib.hid hB
    clear hW hs hP hB
    by_cases hlt : k < ps.length
    · have HPK := Lib.hid (List.getElem?_eq_getElem hlt)
      have HPL := Lib.hid (HL.out ps[k] (List.getElem_mem hlt))
      generalize ps[k] = p at HPK HPL
      obtain ⟨A, c, a0, a1, a2, hd⟩ := (H.out.below HB.out).pk HPK.out
      have HD := Lib.hid hd
      clear hd
      go_wp2_with fail
      clear a0 a1 a2
      refine (owned_any p A c wr HD.out.bytes HPL.out).mono ?_
      rintro e w5 ⟨A1, c1, rfl, ho, hb⟩
      have HO := Lib.hid ho.out
      have HW5 := Lib.hid ((Mod.of_below hb []).whole HW.out (by simp))
      have HP5 := Lib.hid (HP.out.mod (Mod.of_below hb []) (by simp))
      have HB5 := Lib.hid (below_on HB.out hb)
      have HOB := Lib.hid (show w.heap.size + 1 ≤ wr.heap.size from HW.out.lt)
      clear ho hb
      obtain ⟨o0, e0⟩ : ∃ v, cs[k * 3]? = some v := ⟨_, Array.getElem?_eq_getElem (by have := HS.out; omega)⟩
      obtain ⟨o1, e1⟩ : ∃ v, cs[k * 3 + 1]? = some v := ⟨_, Array.getElem?_eq_getElem (by have := HS.out; omega)⟩
      obtain ⟨o2, e2⟩ : ∃ v, cs[k * 3 + 2]? = some v := ⟨_, Array.getElem?_eq_getElem (by have := HS.out; omega)⟩
      have t0 : w5.cell? ⟨w.heap.size, k * 3, none⟩ = some o0 := (HW5.out.cell _).trans e0
      have t1 : w5.cell? ⟨w.heap.size, k * 3 + 1, none⟩ = some o1 := (HW5.out.cell _).trans e1
      have t2 : w5.cell? ⟨w.heap.size, k * 3 + 2, none⟩ = some o2 := (HW5.out.cell _).trans e2
      have f0 := HW5.out.frozen (k * 3)
      have f1 := HW5.out.frozen (k * 3 + 1)
      have f2 := HW5.out.frozen (k * 3 + 2)
      clear e0 e1 e2
      unfold three
      go_wp2_with fail
      have HM := Lib.hid (mod3 w5 w.heap.size (k * 3) (k * 3 + 1) (k * 3 + 2) (.int .i64 p.frm) (.int .i64 p.dst) (.slice A1 p.d.length c1))
      go_roundw
      · refine ⟨k + 1, ((cs.setIfInBounds (k * 3) (.int .i64 p.frm)).setIfInBounds (k * 3 + 1) (.int .i64 p.dst)).setIfInBounds (k * 3 + 2) (.slice A1 p.d.length c1), rfl, hlt, ((HW5.out.store (k * 3) (.int .i64 p.frm)).store (k * 3 + 1) (.int .i64 p.dst)).store (k * 3 + 2) (.slice A1 p.d.length c1), by have := HS.out; simpa using this, ?_, HB5.out.trans (HM.out.below HB5.out.size (by simp))⟩
        exact (HP5.out.mod HM.out (by simp)).next HPK.out HS.out (HM.out.own (own_low HO.out HOB.out) (fun x hx hf => by have := ((own_low HO.out HOB.out).lt x hx).1; simp at hf; omega))
      · simp [intOf]; omega
    · obtain rfl : k = ps.length := by omega
      go_wp2_with fail
      go_ret
      exact ⟨rfl, Lib.hid ⟨cs, HW.out, HS.out, HP.out⟩, Lib.hid HB.out⟩
end
/-- All rows stay rows. -/
def Holds (W w2 : World) : Prop := ∀ (b : Nat) (t : TypeId) (cs : Array Value), Whole W b t cs → ∃ cs', Whole w2 b t cs' ∧ cs'.size = cs.size
theorem Holds.refl (w : World) : Holds w w := fun _ _ cs h => ⟨cs, h, rfl⟩
theorem Holds.trans {a b c : World} (h : Holds a b) (k : Holds b c) : Holds a c := fun g t cs hg => by
  obtain ⟨cs', h1, h2⟩ := h g t cs hg
  obtain ⟨cs2, k1, k2⟩ := k g t cs' h1
  exact ⟨cs2, k1, k2.trans h2⟩
theorem Holds.store (w : World) (p : Addr) (hp : p.spot = none) (u : Value) : Holds w (w.setCell p u) := fun b t cs h => by
  obtain ⟨g, i, s⟩ := p
  have hp : s = none := hp
  subst hp
  by_cases e : b = g
  · subst e
    exact ⟨_, h.store i u, by simp⟩
  · exact ⟨cs, h.far e u, rfl⟩
theorem Holds.alloc (w : World) (o : Obj) : Holds w (w.alloc o) := fun b t cs h => ⟨cs, h.alloc o, rfl⟩
theorem Holds.drew (w : World) : Holds w w.drew := fun b t cs h => ⟨cs, h, rfl⟩
theorem Holds.of {w w' : World} (h : Below w.heap.size w w') : Holds w w' := fun b t cs hw => ⟨cs, (Mod.of_below h []).whole hw (by simp), rfl⟩
theorem Holds.cellAt {a b : World} {g k : Nat} {t : TypeId} {cs : Array Value} (h : Holds a b) (hw : Whole a g t cs) (hk : k < cs.size) : ∃ u, b.cell? ⟨g, k, none⟩ = some u ∧ b.frozen? ⟨g, k, none⟩ = false := by
  obtain ⟨cs', k1, k2⟩ := h g t cs hw
  exact ⟨_, (k1.cell k).trans (Array.getElem?_eq_getElem (by omega)), k1.frozen k⟩
/-- A slice of n bytes, nil let in, in a block that may be turned; what it holds doesn't matter. -/
def GwB (w : World) (F : List Nat) (B : Nat) (A : Option Addr) (n c : Nat) : Prop :=
  n ≤ c ∧ c ≤ 9223372036854775807 ∧ ((A = none ∧ c = 0) ∨ ∃ g cs, A = some ⟨g, 0, none⟩ ∧ Whole w g 5 cs ∧ c ≤ cs.size ∧ (g ∈ F ∨ B ≤ g))
section
variable {w w' : World} {F : List Nat} {B n c : Nat} {A : Option Addr}
theorem GwB.own {base : Nat} {xs : List Value} (h : w.ownsRow base 5 1 (.slice A n c) n xs) (hF : ∀ k, base ≤ k → k < w.heap.size → k ∈ F ∨ B ≤ k) : GwB w F B A n c := by
  rcases h.2 with ⟨hv, h0⟩ | ⟨g, cap, cur, hv, hb, hh, h1, h2, h3, _⟩
  · injection hv with e1 e2 e3
    subst e1 e3
    exact ⟨by omega, by omega, .inl ⟨rfl, rfl⟩⟩
  · injection hv with e1 e2 e3
    subst e1 e3
    exact ⟨h1, by unfold maxLen at h2; omega, .inr ⟨g, cur, rfl, hh, by omega, hF g hb (Array.getElem?_eq_some_iff.1 hh).1⟩⟩
theorem GwB.zero : GwB w F B none 0 0 := ⟨Nat.le_refl _, by omega, .inl ⟨rfl, rfl⟩⟩
theorem GwB.holds (h : GwB w F B A n c) (k : Holds w w') : GwB w' F B A n c := by
  obtain ⟨h1, h2, h3⟩ := h
  refine ⟨h1, h2, h3.imp id ?_⟩
  rintro ⟨g, cs, e, hw, hc, hg⟩
  obtain ⟨cs', k1, k2⟩ := k g _ cs hw
  exact ⟨g, cs', e, k1, by omega, hg⟩
/-- The blocks that an append to it may turn. -/
def blk (A : Option Addr) : List Nat := match A with | none => [] | some a => [a.block]
theorem GwB.blk (h : GwB w F B A n c) : ∀ x ∈ blk A, x ∈ F ∨ B ≤ x := by
  rcases h.2.2 with ⟨rfl, _⟩ | ⟨g, cs, rfl, _, _, hg⟩
  · intro x hx; cases hx
  · intro x hx; rw [List.mem_singleton.1 hx]; exact hg
theorem GwB.ne (h : GwB w F B A n c) {t : TypeId} {b : Nat} {cs : Array Value} (k : Whole w b t cs) (ht : t ≠ 5) : b ∉ Own.blk A := by
  rcases h.2.2 with ⟨rfl, _⟩ | ⟨g, ds, rfl, hw, _, _⟩
  · exact List.not_mem_nil
  · intro hx
    have e : b = g := List.mem_singleton.1 hx
    exact Whole.ne k hw ht e
/-- Its cells are there. -/
theorem GwB.cell (h : GwB w F B A n c) {i : Nat} (hi : i < n) : ∃ g u, A = some ⟨g, 0, none⟩ ∧ w.cell? ⟨g, i, none⟩ = some u ∧ w.frozen? ⟨g, i, none⟩ = false ∧ (g ∈ F ∨ B ≤ g) := by
  rcases h.2.2 with ⟨_, h0⟩ | ⟨g, cs, e, hw, hc, hg⟩
  · have := h.1; omega
  · exact ⟨g, _, e, (hw.cell i).trans (Array.getElem?_eq_getElem (by have := h.1; omega)), hw.frozen i, hg⟩
theorem GwB.cellW (h : GwB w F B A n c) {i : Nat} (hi : i < n) : ∃ g u cs, A = some ⟨g, 0, none⟩ ∧ w.cell? ⟨g, i, none⟩ = some u ∧ w.frozen? ⟨g, i, none⟩ = false ∧ Hid (Whole w g 5 cs) ∧ Hid (g ∈ F ∨ B ≤ g) := by
  rcases h.2.2 with ⟨_, h0⟩ | ⟨g, cs, e, hw, hc, hg⟩
  · have := h.1; omega
  · exact ⟨g, _, cs, e, (hw.cell i).trans (Array.getElem?_eq_getElem (by have := h.1; omega)), hw.frozen i, Lib.hid hw, Lib.hid hg⟩
theorem run_app_gwb (ty : TypeId) (h : GwB w F B A n c) {p : Nat} {y : Value} (h1 : y.oneCell' = true) (hp : Whole w p 5 #[y]) (hn : n ≤ 1000) (hB : B ≤ w.heap.size) :
    ∃ A' c' w2, (Builtin.append_ #[29, 29] ty #[.slice A n c, .slice (some ⟨p, 0, none⟩) 1 1]).run Try.prog w = .ok (.slice A' (n + 1) c') w2 ∧
      GwB w2 F B A' (n + 1) c' ∧ Mod (Own.blk A) w w2 ∧ Holds w w2 := by
  obtain ⟨i0, hi, hz0, hz1, hz2⟩ := info_parts By.info_u8
  have hs : Src Try.prog i0.size 29 (.slice (some ⟨p, 0, none⟩) 1 1) 1 [y] w := Src.ofSlice w Try.underlying29 ⟨p, 0, none⟩ 1 1 [y] (by rw [hz1]; rfl)
    (World.news_of_block (cs := #[y]) (t := 5) (fr := (0, 0)) hp) (by intro u hu; rw [List.mem_singleton.1 hu]; exact h1)
  obtain ⟨hle, hcm0, h3⟩ := h
  have grow : ∀ (olds : List Value), olds.length = n → c < n + 1 → (Builtin.firstCells i0.size n (.slice A n c)).run Try.prog w.drew = .ok olds.toArray w.drew → ∃ A' c' w2, (Builtin.append_ #[29, 29] ty #[.slice A n c, .slice (some ⟨p, 0, none⟩) 1 1]).run Try.prog w = .ok (.slice A' (n + 1) c') w2 ∧
      GwB w2 F B A' (n + 1) c' ∧ Mod (Own.blk A) w w2 ∧ Holds w w2 := fun olds ho hlt hold => by
    have hrun := run_append_grow_src (P := Try.prog) w 29 29 ty 5 i0 (.int .u8 0) Try.underlying29 hi hz0 A n c olds hold _ 1 [y] hs hlt (by omega) (growslice_fits hlt (by rw [hz2]; omega))
    have hge := grownCap_ge w (n + 1) c 5
    have hcm : grownCap w (n + 1) c 5 ≤ maxLen := grownCap_le_maxLen w (n + 1) c 5 (by unfold maxLen; omega)
    refine ⟨some ⟨w.heap.size, 0, none⟩, grownCap w (n + 1) c 5, _, hrun, ⟨hge, by unfold maxLen at hcm; omega, .inr ⟨w.heap.size, _, rfl, Whole.new w.drew _ _, ?_, .inr hB⟩⟩, (((Mod.refl _ w).drew).alloc _), (Holds.drew w).trans (Holds.alloc _ _)⟩
    simp only [Array.size_append, List.size_toArray, List.length_append, size_zeroCells, ho]
    have hv1 : (Value.int IntKind.u8 0).cells.size = 1 := rfl
    rw [hv1]
    simp only [List.length_cons, List.length_nil]
    omega
  rcases h3 with ⟨rfl, rfl⟩ | ⟨g, cs, rfl, hw, hc, hg⟩
  · obtain rfl : n = 0 := by omega
    exact grow [] rfl (by omega) (run_firstCells_none w.drew i0.size 0 0 0)
  · by_cases hr : n + 1 ≤ c
    · have hrun := run_append_room_src (P := Try.prog) w 29 29 ty 5 i0 Try.underlying29 hi g 0 n c _ 1 [y] hs hr
        (fun j hj => by
          have hj0 : j = 0 := by simpa using hj
          subst hj0
          rw [hz1, hw.cell, Array.getElem?_eq_getElem (by omega)]; rfl)
        (fun j hj => hw.frozen _)
      rw [hz1] at hrun
      have e : w.setCells g (0 + n * 1) [y] = w.setCell ⟨g, n, none⟩ y := by rw [Nat.zero_add, Nat.mul_one]; rfl
      rw [e] at hrun
      have hH := Holds.store w ⟨g, n, none⟩ rfl y
      exact ⟨some ⟨g, 0, none⟩, c, _, hrun, GwB.holds ⟨hr, hcm0, .inr ⟨g, cs, rfl, hw, hc, hg⟩⟩ hH, (Mod.refl [g] w).store (.inl (by simp)) y, hH⟩
    · exact grow (cs.toList.take n) (by rw [List.length_take, Array.length_toList]; omega) (by omega)
        (run_firstCells_some w.drew i0.size n ⟨g, 0, none⟩ n c (cs.toList.take n) (by rw [hz1, List.length_take, Array.length_toList]; omega) (fun j u hu => by
          have hj : j < n := by have := (List.getElem?_eq_some_iff.1 hu).1; rw [List.length_take] at this; omega
          rw [List.getElem?_take, if_pos hj] at hu
          rw [Addr.add_lit, Nat.zero_add]
          exact (hw.cell j).trans (by simpa using hu)))
theorem list_app_gwb {ops : Array Oper} {rest : List Oper} {o : Oper} {a : Act} {Q : Exit → Act → World → Prop} (hgd : o.guard = none) (s x : Operand) (ho : o.op = .call { callee := .builtin .append, args := #[s, x], argTypes := #[29, 29] })
    (h : GwB w F B A n c) (p : Nat) (y : Value) (h1 : y.oneCell' = true) (hp : Whole w p 5 #[y]) (hn : n ≤ 1000) (hB : B ≤ w.heap.size)
    (hsv : a.eval s = .slice A n c) (hxv : a.eval x = .slice (some ⟨p, 0, none⟩) 1 1)
    (hK : ∀ A' c' w2, GwB w2 F B A' (n + 1) c' → Mod (Own.blk A) w w2 → Holds w w2 → wpList Try.prog ops Q rest (a.put o.dst (.slice A' (n + 1) c')) w2) : wpList Try.prog ops Q (o :: rest) a w := by
  refine wpList_plain hgd fun K hK' => ?_
  obtain ⟨A', c', w2, hr, h2, h3, h4⟩ := run_app_gwb o.type h h1 hp hn hB
  unfold Oper.wp execOp
  simp only [ho, resolve, invoke, builtin, Sem.run_bind, Sem.run_pure, Result.andThen_ok, List.map_toArray, List.map_cons, List.map_nil, hsv, hxv, hr]
  exact hK' _ _ (hK A' c' w2 h2 h3 h4)
end
/-- The packets without the one at k. -/
def tkn (ps : List Pk) (k : Int) : List Pk := if 0 ≤ k ∧ k.toNat < ps.length then ps.eraseIdx k.toNat else ps
section
variable {S : Nat → Prop} {w : World} {g : Nat} {ps : List Pk} {s q : Int} {F : List Nat} {B : Nat}
theorem tkn_sound {b : Bg} {n : Nat} (h : Sound b n) (k : Int) : Sound (⟨tkn b.ps k, b.s, b.q⟩ : Bg) n := by
  unfold tkn
  split
  · exact h.erase _
  · exact h
theorem Look_wide (h : BagAt S w g ps s q) (hl : ∀ p ∈ ps, p.d.length ≤ 200) (k : Int) (hB : B ≤ w.heap.size) :
    Calls Try.prog 7 #[.pointer (some ⟨g, 0, none⟩), .int .i64 k] w fun e w' => ∃ (fr ds : Int) (A : Option Addr) (n c : Nat) (ok : Bool), e = .returned (.tuple #[.agg #[.int .i64 fr, .int .i64 ds, .slice A n c], .bool ok]) ∧ n ≤ 200 ∧ Hid (GwB w' F B A n c) ∧ Hid (Below w.heap.size w w') := by
  by_cases hk : k < 0 ∨ (ps.length : Int) ≤ k
  · exact (Look_no h hk).mono fun e w' ⟨h1, h2⟩ => ⟨0, 0, none, 0, 0, false, h1, by omega, Lib.hid GwB.zero, Lib.hid h2⟩
  · obtain ⟨i, rfl⟩ : ∃ i : Nat, k = (i : Int) := ⟨k.toNat, by omega⟩
    have hi : i < ps.length := by omega
    have hp := hl _ (List.getElem_mem hi)
    exact (Look_own h (List.getElem?_eq_getElem hi) (by omega)).mono fun e w' ⟨A', c', h1, h2, h3⟩ => ⟨_, _, A', _, c', true, h1, hp, Lib.hid (GwB.own h2.out (fun x hx _ => .inr (by omega))), h3⟩
theorem Take_wide (h : BagAt S w g ps s q) (hl : ∀ p ∈ ps, p.d.length ≤ 200) (k : Int) (hB : B ≤ w.heap.size) :
    Calls Try.prog 8 #[.pointer (some ⟨g, 0, none⟩), .int .i64 k] w fun e w' => ∃ (fr ds : Int) (A : Option Addr) (n c : Nat) (ok : Bool), e = .returned (.tuple #[.agg #[.int .i64 fr, .int .i64 ds, .slice A n c], .bool ok]) ∧ n ≤ 200 ∧ Hid (GwB w' F B A n c) ∧ Hid (BagAt S w' g (tkn ps k) s q) ∧ Hid (Mod [g] w w') := by
  by_cases hk : k < 0 ∨ (ps.length : Int) ≤ k
  · rw [show tkn ps k = ps from if_neg (by omega)]
    exact (Take_no h hk).mono fun e w' ⟨h1, h2⟩ => ⟨0, 0, none, 0, 0, false, h1, by omega, Lib.hid GwB.zero, Lib.hid (h.below h2), Lib.hid (Mod.of_below h2 _)⟩
  · obtain ⟨i, rfl⟩ : ∃ i : Nat, k = (i : Int) := ⟨k.toNat, by omega⟩
    have hi : i < ps.length := by omega
    have hp := hl _ (List.getElem_mem hi)
    rw [show tkn ps (i : Int) = ps.eraseIdx i from (if_pos (by simpa using hi)).trans (by rw [Int.toNat_natCast])]
    exact (Take_own h (List.getElem?_eq_getElem hi) (by omega)).mono fun e w' ⟨A', c', h1, h2, h3, h4⟩ => ⟨_, _, A', _, c', true, h1, hp, Lib.hid (GwB.own h2.out (fun x hx _ => .inr (by omega))), h3, h4⟩
theorem RefTake_wide {C : Option Addr} (h : PksAt S w C ps) (c : Nat) (hc : ps.length ≤ c ∧ c ≤ 9223372036854775807) (h48 : ps.length ≤ 48) (s q k : Int) (hS : ∀ x, w.heap.size ≤ x → S x) :
    Calls Try.prog 10 #[.agg #[.slice C ps.length c, .int .i64 s, .int .i64 q], .int .i64 k] w fun e w' => ∃ (C' : Option Addr) (c' : Nat) (fr ds : Int) (A : Option Addr) (n c1 : Nat) (ok : Bool), e = .returned (.tuple #[.agg #[.slice C' (tkn ps k).length c', .int .i64 s, .int .i64 q], .agg #[.int .i64 fr, .int .i64 ds, .slice A n c1], .bool ok]) ∧ Hid ((tkn ps k).length ≤ c' ∧ c' ≤ 9223372036854775807) ∧ Hid (PksAt S w' C' (tkn ps k)) ∧ Hid (Below w.heap.size w w') := by
  by_cases hk : k < 0 ∨ (ps.length : Int) ≤ k
  · rw [show tkn ps k = ps from if_neg (by omega)]
    exact (RefTake_no ps.length c s q hk w).mono fun e w' ⟨h1, h2⟩ => ⟨C, c, 0, 0, none, 0, 0, false, h1, Lib.hid hc, Lib.hid (h.below h2), Lib.hid h2⟩
  · obtain ⟨i, rfl⟩ : ∃ i : Nat, k = (i : Int) := ⟨k.toNat, by omega⟩
    have hi : i < ps.length := by omega
    rw [show tkn ps (i : Int) = ps.eraseIdx i from (if_pos (by simpa using hi)).trans (by rw [Int.toNat_natCast])]
    exact (RefTake_yes h c hc.1 h48 s q (List.getElem?_eq_getElem hi) hS).mono fun e w' ⟨C', c', A1, c1, h1, h2, h3, h4⟩ => ⟨C', c', _, _, A1, _, c1, true, h1, h2, h3, Lib.hid h4⟩
end
theorem Pl.modF {S : Nat → Prop} {g gm : Nat} {w v v' : World} {b r : Bg} {Bm : Option Addr} {cm n : Nat} {F : List Nat} (h : Pl S g gm w v b r Bm cm n) (hm : Mod F v v') (hS : ∀ x ∈ F, ¬ S x) (hg : g ∉ F) (hgm : gm ∉ F) (hw : ∀ x ∈ F, w.heap.size ≤ x) : Pl S g gm w v' b r Bm cm n :=
  ⟨h.sound, h.bag.mod hg hm hS, h.soundr, hm.whole h.blk hgm, h.le, h.pks.mod hm hS, h.far, h.self, h.below.trans (hm.below h.below.size hw)⟩
/-- What stands all the while: the two bags, and the second list; rows stay rows. -/
structure Kt (F : List Nat) (n7 n8 n9 g gm : Nat) (w w9 : World) (d r : Bg) (Bm : Option Addr) (cm n : Nat) (B2 : Option Addr) (l2 : List Pk) (cur : World) : Prop where
  pl : Pl (fun x => (x ≠ g ∧ x ≠ gm) ∧ x < n7) g gm w cur d r Bm cm n
  two : PksAt (fun x => n8 ≤ x ∧ x < n9) cur B2 l2
  hol : Holds w9 cur
  size : n9 ≤ cur.heap.size
  spec : ∀ x, x ∈ F ↔ n7 ≤ x ∧ x < n8
  low : g < n7 ∧ gm < n7 ∧ n7 < n8 ∧ n8 ≤ n9 ∧ w.heap.size ≤ n7
section
variable {F : List Nat} {n7 n8 n9 g gm : Nat} {w w9 cur w2 : World} {d r : Bg} {Bm B2 : Option Addr} {cm n : Nat} {l2 : List Pk}
theorem Kt.mod (h : Kt F n7 n8 n9 g gm w w9 d r Bm cm n B2 l2 cur) {G : List Nat} (hm : Mod G cur w2) (hG : ∀ x ∈ G, x ∈ F ∨ n9 ≤ x) (hh : Holds cur w2) : Kt F n7 n8 n9 g gm w w9 d r Bm cm n B2 l2 w2 := by
  have hx : ∀ x ∈ G, n7 ≤ x ∧ (x < n8 ∨ n9 ≤ x) := fun x hx => by
    rcases hG x hx with k | k
    · have := (h.spec x).1 k; exact ⟨this.1, .inl this.2⟩
    · have := h.low; exact ⟨by omega, .inr k⟩
  have hl := h.low
  exact ⟨h.pl.modF hm (fun x k hs => by have := hx x k; omega) (fun k => by have := hx _ k; omega) (fun k => by have := hx _ k; omega) (fun x k => by have := hx x k; omega),
    h.two.mod hm (fun x k hs => by have := hx x k; omega), h.hol.trans hh, Nat.le_trans h.size hm.size, h.spec, h.low⟩
theorem Kt.on (h : Kt F n7 n8 n9 g gm w w9 d r Bm cm n B2 l2 cur) (hb : Below cur.heap.size cur w2) : Kt F n7 n8 n9 g gm w w9 d r Bm cm n B2 l2 w2 :=
  h.mod (G := []) (Mod.of_below hb []) (by simp) (Holds.of hb)
theorem Kt.store (h : Kt F n7 n8 n9 g gm w w9 d r Bm cm n B2 l2 cur) {b : Nat} (hb : b ∈ F ∨ n9 ≤ b) (i : Nat) (u : Value) : Kt F n7 n8 n9 g gm w w9 d r Bm cm n B2 l2 (cur.setCell ⟨b, i, none⟩ u) :=
  h.mod (G := [b]) ((Mod.refl [b] cur).store (.inl (by simp)) u) (fun x hx => by rw [List.mem_singleton.1 hx]; exact hb) (Holds.store cur ⟨b, i, none⟩ rfl u)
end
theorem GwB.far {w w' : World} {F G : List Nat} {B n c : Nat} {A : Option Addr} (h : GwB w F B A n c) (hm : Mod G w w') (hG : ∀ x ∈ G, ∃ cs, Whole w x 31 cs) : GwB w' F B A n c := by
  obtain ⟨h1, h2, h3⟩ := h
  refine ⟨h1, h2, h3.imp id ?_⟩
  rintro ⟨g, cs, e, hw, hc, hg⟩
  refine ⟨g, cs, e, hm.whole hw (fun hx => ?_), hc, hg⟩
  obtain ⟨ds, hd⟩ := hG g hx
  exact Whole.ne hw hd (by decide) rfl
/-- Packets' cells: each holds the header of a slice that may be turned, of at most M bytes. -/
def Hd (xs : List Value) (N M : Nat) (F : List Nat) (B : Nat) (cur : World) : Prop := ∀ j, j < N → ∃ A n c, xs[j * 3 + 2]? = some (.slice A n c) ∧ n ≤ M ∧ GwB cur F B A n c
theorem Hd.holds {xs : List Value} {N M : Nat} {F : List Nat} {B : Nat} {cur w2 : World} (h : Hd xs N M F B cur) (hh : Holds cur w2) : Hd xs N M F B w2 := fun j hj => by
  obtain ⟨A, n, c, h1, h2, h3⟩ := h j hj
  exact ⟨A, n, c, h1, h2, h3.holds hh⟩
theorem Hd.far {xs : List Value} {N M : Nat} {F G : List Nat} {B : Nat} {cur w2 : World} (h : Hd xs N M F B cur) (hm : Mod G cur w2) (hG : ∀ x ∈ G, ∃ cs, Whole cur x 31 cs) : Hd xs N M F B w2 := fun j hj => by
  obtain ⟨A, n, c, h1, h2, h3⟩ := h j hj
  exact ⟨A, n, c, h1, h2, h3.far hm hG⟩
theorem Hd.more {xs : List Value} {N M M' : Nat} {F : List Nat} {B : Nat} {cur : World} (h : Hd xs N M F B cur) (hM : M ≤ M') : Hd xs N M' F B cur := fun j hj => by
  obtain ⟨A, n, c, h1, h2, h3⟩ := h j hj
  exact ⟨A, n, c, h1, Nat.le_trans h2 hM, h3⟩
theorem Hd.snoc {xs : List Value} {N M n c : Nat} {F : List Nat} {B : Nat} {A : Option Addr} {cur : World} {a b : Value} (h : Hd xs N M F B cur) (hl : xs.length = N * 3) (hn : n ≤ M) (hg : GwB cur F B A n c) : Hd (xs ++ [a, b, .slice A n c]) (N + 1) M F B cur := fun j hj => by
  by_cases e : j < N
  · obtain ⟨A', n', c', h1, h2⟩ := h j e
    exact ⟨A', n', c', by rw [List.getElem?_append_left (by omega)]; exact h1, h2⟩
  · obtain rfl : j = N := by omega
    exact ⟨A, n, c, by rw [List.getElem?_append_right (by omega), show j * 3 + 2 - xs.length = 2 by omega]; rfl, hn, hg⟩
theorem Kt.far {F G : List Nat} {n7 n8 n9 g gm : Nat} {w w9 cur w2 : World} {d r : Bg} {Bm B2 : Option Addr} {cm n : Nat} {l2 : List Pk} (h : Kt F n7 n8 n9 g gm w w9 d r Bm cm n B2 l2 cur) (hn : w9.heap.size ≤ n9) (hm : Mod G cur w2) (hG : ∀ x ∈ G, n9 ≤ x) : Kt F n7 n8 n9 g gm w w9 d r Bm cm n B2 l2 w2 := by
  have hl := h.low
  exact ⟨h.pl.modF hm (fun x k hs => by have := hG x k; omega) (fun k => by have := hG _ k; omega) (fun k => by have := hG _ k; omega) (fun x k => by have := hG x k; omega),
    h.two.mod hm (fun x k hs => by have := hG x k; omega), fun b t cs hb => by
      obtain ⟨cs', k1, k2⟩ := h.hol b t cs hb
      exact ⟨cs', hm.whole k1 (fun hx => by have := hG b hx; have := hb.lt; omega), k2⟩, Nat.le_trans h.size hm.size, h.spec, h.low⟩
theorem Put.one {base : Nat} {w : World} {cs : Array Value} {ps : List Pk} (h : Put base w cs ps ps.length) (hz : cs.size = ps.length * 3) : ∀ u ∈ cs.toList, u.oneCell' = true := fun u hu => by
  obtain ⟨i, hi⟩ := List.mem_iff_getElem?.1 hu
  rw [Array.getElem?_toList] at hi
  have hlt : i < cs.size := (Array.getElem?_eq_some_iff.1 hi).1
  obtain ⟨A, c, h0, h1, h2, _⟩ := h (i / 3) ps[i / 3] (by omega) (List.getElem?_eq_getElem (by omega))
  rcases (by omega : i = i / 3 * 3 ∨ i = i / 3 * 3 + 1 ∨ i = i / 3 * 3 + 2) with e | e | e <;> rw [e] at hi
  · rw [h0] at hi; cases hi; rfl
  · rw [h1] at hi; cases hi; rfl
  · rw [h2] at hi; cases hi; rfl
theorem run_app_pks {w : World} {base n m : Nat} {v : Value} {xs : List Value} (ty : TypeId) (hown : w.ownsRow base 31 3 v n xs) {p : Nat} {cs : Array Value} (hp : Whole w p 31 cs) (hz : cs.size = m * 3) (h1 : ∀ u ∈ cs.toList, u.oneCell' = true) (k : Nat) (hl : n + m ≤ 100) (hb : base ≤ w.heap.size) :
    ∃ v' w2, (Builtin.append_ #[26, 26] ty #[v, .slice (some ⟨p, 0, none⟩) m k]).run Try.prog w = .ok v' w2 ∧ w2.ownsRow base 31 3 v' (n + m) (xs ++ cs.toList) ∧ Mod v.ownBlock.toList w w2 := by
  obtain ⟨i0, hi, hz0, hz1, hz2⟩ := info_parts info_pk
  obtain ⟨v', w', hr, h2, h3, _, _⟩ := run_append_own_at (P := Try.prog) w base 26 ty 31 i0 (.agg zero3) 3 40 Try.underlying26 hi hz0 hz1 hz2 rfl (by decide) v n xs hown ⟨p, 0, none⟩ m k cs.toList (by rw [Array.length_toList]; exact hz)
    (World.news_of_block (cs := cs) (t := 31) (fr := (0, 0)) hp) h1 (by unfold maxLen; omega) (by omega) hb
  exact ⟨v', w', hr, h2, (Mod.refl _ w).grown h3 (fun k hk => .inl (by rw [hk]; simp))⟩
theorem step_app_pks {W : World} {ops : Array Oper} {d : Option Tmp} {s x : Operand} {ty : TypeId} {ps : String} {af : Array Edge} {a : Act} {K : Act → World → Prop} {Q : Exit → Act → World → Prop} {E : Prop}
    {base n m : Nat} {v : Value} {xs : List Value} (hown : W.ownsRow base 31 3 v n xs) (p : Nat) (cs : Array Value) (hp : Whole W p 31 cs) (hz : cs.size = m * 3) (h1 : ∀ u ∈ cs.toList, u.oneCell' = true) (k : Nat) (hl : n + m ≤ 100) (hb : base ≤ W.heap.size)
    (hsv : a.eval s = v) (hxv : a.eval x = .slice (some ⟨p, 0, none⟩) m k)
    (hK : ∀ A' c' w2, n + m ≤ c' → c' ≤ 9223372036854775807 → w2.ownsRow base 31 3 (.slice A' (n + m) c') (n + m) (xs ++ cs.toList) → Mod v.ownBlock.toList W w2 → K (a.put d (.slice A' (n + m) c')) w2) :
    if Region.wanted { dst := d, op := .call { callee := .builtin .append, args := #[s, x], argTypes := #[26, 26] }, type := ty, pos := ps, after := af, guard := none } (yielded ops a.tmps) = true
      then Oper.wp Try.prog { dst := d, op := .call { callee := .builtin .append, args := #[s, x], argTypes := #[26, 26] }, type := ty, pos := ps, after := af, guard := none } a W K Q else E := by
  rw [if_pos (by simp [Region.wanted])]
  obtain ⟨v', w2, hr, h2, h3⟩ := run_app_pks ty hown hp hz h1 k hl hb
  obtain ⟨A', c', rfl, k1, k2⟩ := own_shape h2
  unfold Oper.wp execOp
  simp only [resolve, invoke, builtin, Sem.run_bind, Sem.run_pure, Result.andThen_ok, List.map_toArray, List.map_cons, List.map_nil, hsv, hxv, hr]
  exact hK A' c' w2 k1 k2 h2 h3
theorem blk_of {b n c k : Nat} (h : (Value.slice (some ⟨b, 0, none⟩) n c).ownBlock = some k) : k = b := by
  have e : b = k := by simpa [Value.ownBlock] using h
  exact e.symm
theorem own_pk {w : World} {base n : Nat} {v : Value} {xs : List Value} (h : w.ownsRow base 31 3 v n xs) : ∀ x ∈ v.ownBlock.toList, base ≤ x ∧ ∃ cs, Whole w x 31 cs := fun x hx => by
  have hx' : v.ownBlock = some x := by simpa using hx
  rcases h.2 with ⟨rfl, _⟩ | ⟨g, cap, cur, rfl, hb, hh, _⟩
  · cases hx'
  · have e : g = x := by simpa [Value.ownBlock] using hx'
    subst e
    exact ⟨hb, cur, hh⟩
/-- While the packets are put together. -/
structure Rg (F : List Nat) (n7 n8 n9 g gm : Nat) (w w9 : World) (d r : Bg) (Bm : Option Addr) (cm n : Nat) (B2 : Option Addr) (l2 : List Pk) (b1 pb : Nat) (cs1 : Array Value) (fr ds : Value) (A : Option Addr) (m c : Nat) (cur : World) : Prop where
  kt : Kt F n7 n8 n9 g gm w w9 d r Bm cm n B2 l2 cur
  one : Whole cur b1 31 cs1
  box : Whole cur pb 31 #[fr, ds, .slice A m c]
  gw : GwB cur F n9 A m c
  hd : Hd cs1.toList l2.length 200 F n9 cur
  sep : b1 < n9 ∧ n9 ≤ pb ∧ w9.heap.size ≤ n9
section
variable {F : List Nat} {n7 n8 n9 g gm : Nat} {w w9 cur w2 : World} {d r : Bg} {Bm B2 A : Option Addr} {cm n b1 pb m c : Nat} {l2 : List Pk} {cs1 : Array Value} {fr ds : Value}
theorem Rg.cells (h : Rg F n7 n8 n9 g gm w w9 d r Bm cm n B2 l2 b1 pb cs1 fr ds A m c cur) : cur.cell? ⟨pb, 0, none⟩ = some fr ∧ cur.cell? ⟨pb, 1, none⟩ = some ds ∧ cur.cell? ⟨pb, 2, none⟩ = some (.slice A m c) := ⟨h.box.cell 0, h.box.cell 1, h.box.cell 2⟩
theorem Rg.alloc (h : Rg F n7 n8 n9 g gm w w9 d r Bm cm n B2 l2 b1 pb cs1 fr ds A m c cur) (o : Obj) : Rg F n7 n8 n9 g gm w w9 d r Bm cm n B2 l2 b1 pb cs1 fr ds A m c (cur.alloc o) :=
  ⟨h.kt.on ((Below.refl _ cur).alloc (Nat.le_refl _) o), h.one.alloc o, h.box.alloc o, h.gw.holds (Holds.alloc cur o), h.hd.holds (Holds.alloc cur o), h.sep⟩
theorem Rg.app (h : Rg F n7 n8 n9 g gm w w9 d r Bm cm n B2 l2 b1 pb cs1 fr ds A m c cur) {v : Value} {q : Nat} {xs : List Value} {nb : Nat} (hnb : pb < nb ∧ n9 ≤ nb) (ho : cur.ownsRow nb 31 3 v q xs) (hm : Mod v.ownBlock.toList cur w2) :
    Rg F n7 n8 n9 g gm w w9 d r Bm cm n B2 l2 b1 pb cs1 fr ds A m c w2 := by
  have hg := own_pk ho
  have hs := h.sep
  exact ⟨h.kt.far hs.2.2 hm (fun x hx => Nat.le_trans hnb.2 (hg x hx).1), hm.whole h.one (fun hx => by have := (hg _ hx).1; omega), hm.whole h.box (fun hx => by have := (hg _ hx).1; omega), h.gw.far hm (fun x hx => (hg x hx).2), h.hd.far hm (fun x hx => (hg x hx).2), h.sep⟩
end
/-- What stands while the packets of the list that was put together are turned. -/
structure Ph (F : List Nat) (n7 n8 n9 g gm : Nat) (w w9 : World) (d r : Bg) (Bm : Option Addr) (cm n : Nat) (B2 : Option Addr) (l2 : List Pk) (gA N cA M : Nat) (cur : World) : Prop where
  kt : Kt F n7 n8 n9 g gm w w9 d r Bm cm n B2 l2 cur
  ex : ∃ xs, cur.ownsRow n9 31 3 (.slice (some ⟨gA, 0, none⟩) N cA) N xs ∧ xs.length = N * 3 ∧ Hd xs N M F n9 cur
section
variable {F : List Nat} {n7 n8 n9 g gm : Nat} {w w9 cur w2 : World} {d r : Bg} {Bm B2 : Option Addr} {cm n : Nat} {l2 : List Pk} {gA N cA M : Nat}
theorem Ph.mk' (h : Kt F n7 n8 n9 g gm w w9 d r Bm cm n B2 l2 cur) {xs : List Value} (h1 : cur.ownsRow n9 31 3 (.slice (some ⟨gA, 0, none⟩) N cA) N xs) (h2 : xs.length = N * 3) (h3 : Hd xs N M F n9 cur) : Ph F n7 n8 n9 g gm w w9 d r Bm cm n B2 l2 gA N cA M cur := ⟨h, xs, h1, h2, h3⟩
/-- The header of packet j. -/
theorem Ph.hdr (h : Ph F n7 n8 n9 g gm w w9 d r Bm cm n B2 l2 gA N cA M cur) {j : Nat} (hj : j < N) : ∃ A k c, cur.cell? ⟨gA, j * 3 + 2, none⟩ = some (.slice A k c) ∧ Hid (k ≤ M) ∧ Hid (GwB cur F n9 A k c) := by
  obtain ⟨xs, h1, h2, h3⟩ := h.ex
  obtain ⟨A, k, c, k1, k2, k3⟩ := h3 j hj
  exact ⟨A, k, c, (h1.cellAt (j * 3 + 2) (by omega)).trans k1, Lib.hid k2, Lib.hid k3⟩
/-- A byte of a packet is set. -/
theorem Ph.byte (h : Ph F n7 n8 n9 g gm w w9 d r Bm cm n B2 l2 gA N cA M cur) {b : Nat} {cs : Array Value} (hw : Whole cur b 5 cs) (hb : b ∈ F ∨ n9 ≤ b) (i : Nat) (u : Value) : Ph F n7 n8 n9 g gm w w9 d r Bm cm n B2 l2 gA N cA M (cur.setCell ⟨b, i, none⟩ u) := by
  obtain ⟨xs, h1, h2, h3⟩ := h.ex
  exact ⟨h.kt.store hb i u, xs, own_far h1 (own_ne h1 hw (by decide)) u, h2, h3.holds (Holds.store cur ⟨b, i, none⟩ rfl u)⟩
/-- The header of packet j is set. -/
theorem Ph.set (h : Ph F n7 n8 n9 g gm w w9 d r Bm cm n B2 l2 gA N cA M cur) {j : Nat} (hj : j < N) {A : Option Addr} {k c M' : Nat} (hg : GwB cur F n9 A k c) (hk : k ≤ M') (hM : M ≤ M') : Ph F n7 n8 n9 g gm w w9 d r Bm cm n B2 l2 gA N cA M' (cur.setCell ⟨gA, j * 3 + 2, none⟩ (.slice A k c)) := by
  obtain ⟨xs, h1, h2, h3⟩ := h.ex
  have hge := (h1.lt gA rfl).1
  have hH := Holds.store cur ⟨gA, j * 3 + 2, none⟩ rfl (.slice A k c)
  refine ⟨h.kt.store (.inr hge) _ _, _, (h1.stored (j * 3 + 2) (.slice A k c)).1, by rw [List.length_set]; exact h2, fun i hi => ?_⟩
  by_cases e : i = j
  · subst e
    exact ⟨A, k, c, by rw [List.getElem?_set_self (by omega)], hk, hg.holds hH⟩
  · obtain ⟨A', k', c', q1, q2, q3⟩ := h3 i hi
    exact ⟨A', k', c', by rw [List.getElem?_set_ne (by omega)]; exact q1, Nat.le_trans q2 hM, q3.holds hH⟩
/-- A call, an append to bytes: rows stay rows, the packets' own row stands. -/
theorem Ph.mod (h : Ph F n7 n8 n9 g gm w w9 d r Bm cm n B2 l2 gA N cA M cur) {G : List Nat} (hm : Mod G cur w2) (hG : ∀ x ∈ G, x ∈ F ∨ n9 ≤ x) (hA : gA ∉ G) (hh : Holds cur w2) : Ph F n7 n8 n9 g gm w w9 d r Bm cm n B2 l2 gA N cA M w2 := by
  obtain ⟨xs, h1, h2, h3⟩ := h.ex
  exact ⟨h.kt.mod hm hG hh, xs, hm.own h1 (fun k hk hx => by rw [blk_of hk] at hx; exact hA hx), h2, h3.holds hh⟩
theorem Ph.frozen (h : Ph F n7 n8 n9 g gm w w9 d r Bm cm n B2 l2 gA N cA M cur) (i : Nat) : cur.frozen? ⟨gA, i, none⟩ = false := by
  obtain ⟨xs, h1, _⟩ := h.ex
  exact h1.frozenAt i
theorem Ph.row (h : Ph F n7 n8 n9 g gm w w9 d r Bm cm n B2 l2 gA N cA M cur) : ∃ cs, Whole cur gA 31 cs := by
  obtain ⟨xs, h1, _⟩ := h.ex
  obtain ⟨_, cs, k⟩ := own_pk h1 gA (by simp [Value.ownBlock])
  exact ⟨cs, k⟩
end
end Go.Proofs.Ytnbfdgccaacdiaa.Own
