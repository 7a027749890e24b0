/- What ClocksHonest keeps: the moments' true times, and the clocks' times at each moment, in memory and as numbers. -/
import Derived.Test.YtbcpphckjfbkbaaClkArg
import Derived.Test.YtbcpphckjfbkbaaClkW6
namespace Go.Proofs.Ytbcpphckjfbkbaa
open Go.RowKit
open CK (Ck)
set_option linter.unusedVariables false
set_option linter.unusedSimpArgs false
set_option maxRecDepth 100000
/-- A list of the clocks' times at one moment. -/
structure H3 where
  A : Option Addr
  m : Nat
  l : List Int
def H3.hdr (n : Nat) (h : H3) : Value := .slice h.A n h.m
structure Hs (w wr : World) (g n : Nat) (T : List Int) (V U : Value) (hs : List H3) : Prop where
  tr : wr.ownsRow w.heap.size 3 1 V T.length (i64s T)
  hd : wr.ownsRow w.heap.size 27 1 U hs.length (hs.map (H3.hdr n))
  li : ∀ h ∈ hs, IntsAt wr h.A h.l ∧ ∀ ad, h.A = some ad → ad.block ≠ g ∧ V.ownBlock ≠ some ad.block ∧ U.ownBlock ≠ some ad.block ∧ ad.block < wr.heap.size
  gl : g < wr.heap.size
  vg : V.ownBlock ≠ some g
  ug : U.ownBlock ≠ some g
theorem rows_apart {w : World} {b1 b2 : Nat} {e t : TypeId} {s1 s2 n m : Nat} {v u : Value} {xs ys : List Value} (h : w.ownsRow b1 e s1 v n xs) (k : w.ownsRow b2 t s2 u m ys) (hne : e ≠ t) {j : Nat} (hv : v.ownBlock = some j) : u.ownBlock ≠ some j := by
  rcases h.2 with ⟨rfl, _⟩ | ⟨g, cap, cur, rfl, _, hh, _⟩
  · cases hv
  · have e1 : g = j := by simpa [Value.ownBlock] using hv
    subst e1
    rcases k.2 with ⟨rfl, _⟩ | ⟨g', cap', cur', rfl, _, hh', _⟩
    · intro hx; cases hx
    · intro hx
      have e2 : g' = g := by simpa [Value.ownBlock] using hx
      subst e2
      rw [hh] at hh'
      injection hh' with hh'
      injection hh' with _ h2
      exact hne h2
section
variable {w wr wx : World} {g n : Nat} {T : List Int} {V U : Value} {hs : List H3}
theorem Hs.mod {F : List Nat} (h : Hs w wr g n T V U hs) (hm : Mod F wr wx) (hF : ∀ x ∈ F, x = g ∨ wr.heap.size ≤ x) : Hs w wx g n T V U hs := by
  have hV : ∀ k, V.ownBlock = some k → k ∉ F := fun k hk hx => by
    rcases hF k hx with e | e
    · subst e; exact h.vg hk
    · have := (h.tr.lt k hk).2; omega
  have hU : ∀ k, U.ownBlock = some k → k ∉ F := fun k hk hx => by
    rcases hF k hx with e | e
    · subst e; exact h.ug hk
    · have := (h.hd.lt k hk).2; omega
  refine ⟨hm.own h.tr hV, hm.own h.hd hU, fun a ha => ?_, Nat.lt_of_lt_of_le h.gl hm.size, h.vg, h.ug⟩
  obtain ⟨h1, h2⟩ := h.li a ha
  refine ⟨h1.mod hm (fun ad e hx => ?_), fun ad e => ⟨(h2 ad e).1, (h2 ad e).2.1, (h2 ad e).2.2.1, Nat.lt_of_lt_of_le (h2 ad e).2.2.2 hm.size⟩⟩
  rcases hF _ hx with e3 | e3
  · exact (h2 ad e).1 e3
  · have := (h2 ad e).2.2.2; omega
theorem Hs.below (h : Hs w wr g n T V U hs) (hb : Below wr.heap.size wr wx) : Hs w wx g n T V U hs := h.mod (Mod.of_below hb []) (by simp)
theorem Hs.truth {t : Int} {V' : Value} (h : Hs w wr g n T V U hs) (ho : wx.ownsRow w.heap.size 3 1 V' (T ++ [t]).length (i64s (T ++ [t]))) (hm : Mod V.ownBlock.toList wr wx) (hv : V'.ownBlock = V.ownBlock ∨ ∃ k, V'.ownBlock = some k ∧ wr.heap.size ≤ k) : Hs w wx g n (T ++ [t]) V' U hs := by
  have hx : ∀ k, V.ownBlock = some k → U.ownBlock ≠ some k := fun k hk => rows_apart h.tr h.hd (by decide) hk
  refine ⟨ho, hm.own h.hd (fun k hk hx' => hx k (by simpa using hx') hk), fun a ha => ?_, Nat.lt_of_lt_of_le h.gl hm.size, ?_, h.ug⟩
  · obtain ⟨h1, h2⟩ := h.li a ha
    refine ⟨h1.mod hm (fun ad e hx' => (h2 ad e).2.1 (by simpa using hx')), fun ad e => ⟨(h2 ad e).1, ?_, (h2 ad e).2.2.1, Nat.lt_of_lt_of_le (h2 ad e).2.2.2 hm.size⟩⟩
    rcases hv with e3 | ⟨k, e3, h3⟩
    · rw [e3]; exact (h2 ad e).2.1
    · rw [e3]
      intro e4
      injection e4 with e4
      have := (h2 ad e).2.2.2
      omega
  · rcases hv with e3 | ⟨k, e3, h3⟩
    · rw [e3]; exact h.vg
    · rw [e3]
      intro e4
      injection e4 with e4
      have := h.gl
      omega
theorem Hs.times {a : H3} {U' : Value} (h : Hs w wr g n T V U hs) (ho : wx.ownsRow w.heap.size 27 1 U' (hs ++ [a]).length ((hs ++ [a]).map (H3.hdr n))) (hm : Mod U.ownBlock.toList wr wx) (hv : U'.ownBlock = U.ownBlock ∨ ∃ k, U'.ownBlock = some k ∧ wr.heap.size ≤ k)
    (ha : IntsAt wr a.A a.l) (hA : ∀ ad, a.A = some ad → ad.block ≠ g ∧ V.ownBlock ≠ some ad.block ∧ U.ownBlock ≠ some ad.block ∧ ad.block < wr.heap.size) : Hs w wx g n T V U' (hs ++ [a]) := by
  have hx : ∀ k, V.ownBlock = some k → U.ownBlock ≠ some k := fun k hk => rows_apart h.tr h.hd (by decide) hk
  refine ⟨hm.own h.tr (fun k hk hx' => hx k hk (by simpa using hx')), ho, fun b hb => ?_, Nat.lt_of_lt_of_le h.gl hm.size, h.vg, ?_⟩
  · have hall : IntsAt wr b.A b.l ∧ ∀ ad, b.A = some ad → ad.block ≠ g ∧ V.ownBlock ≠ some ad.block ∧ U.ownBlock ≠ some ad.block ∧ ad.block < wr.heap.size := by
      rcases List.mem_append.1 hb with hb | hb
      · exact h.li b hb
      · rw [List.mem_singleton.1 hb]; exact ⟨ha, hA⟩
    obtain ⟨h1, h2⟩ := hall
    refine ⟨h1.mod hm (fun ad e hx' => (h2 ad e).2.2.1 (by simpa using hx')), fun ad e => ⟨(h2 ad e).1, (h2 ad e).2.1, ?_, Nat.lt_of_lt_of_le (h2 ad e).2.2.2 hm.size⟩⟩
    rcases hv with e3 | ⟨k, e3, h3⟩
    · rw [e3]; exact (h2 ad e).2.2.1
    · rw [e3]
      intro e4
      injection e4 with e4
      have := (h2 ad e).2.2.2
      omega
  · rcases hv with e3 | ⟨k, e3, h3⟩
    · rw [e3]; exact h.ug
    · rw [e3]
      intro e4
      injection e4 with e4
      have := h.gl
      omega
end
theorem info_ints : (Try.prog.info? 27).map (fun i => (i.zero, i.size, i.bytes)) = some (some (.slice none 0 0), 1, 24) := by kernel_rfl
theorem own_new {W : World} {v' : Value} {x : Option Nat} {N : Nat} (h : v'.ownBlock = x ∨ v'.ownBlock = some N) {M : Nat} (hM : M ≤ N) : v'.ownBlock = x ∨ ∃ k, v'.ownBlock = some k ∧ M ≤ k := h.elim .inl (fun e => .inr ⟨N, e, hM⟩)
theorem app_truth {w1 : World} {ops : Array Oper} {rest : List Oper} {o : Oper} {a : Act} {Q : Exit → Act → World → Prop} (hgd : o.guard = none) (s x : Operand)
    (ho : o.op = .call { callee := .builtin .append, args := #[s, x], argTypes := #[27, 27] })
    (base : Nat) (v : Value) (pre : List Int) (hown : w1.ownsRow base 3 1 v pre.length (i64s pre)) (hb : base ≤ w1.heap.size) (hs : a.eval s = v) (k : Int) (hx : a.eval x = .slice (some ⟨w1.heap.size, 0, none⟩) 1 1) (hl : (pre.length + 1) * 8 ≤ 140737488355328)
    (h : ∀ v' w2, w2.ownsRow base 3 1 v' (pre ++ [k]).length (i64s (pre ++ [k])) → Mod v.ownBlock.toList w1 w2 → (v'.ownBlock = v.ownBlock ∨ ∃ k, v'.ownBlock = some k ∧ w1.heap.size ≤ k) → wpList Try.prog ops Q rest (a.put o.dst v') w2) : wpList Try.prog ops Q (o :: rest) a (w1.alloc (.cells #[.int .i64 k] 3)) := by
  obtain ⟨i0, hi, hz0, hz1, hz2⟩ := info_parts info_int
  refine wpList_append_own_at _ hgd s x 27 ho base 3 i0 (.int .i64 0) 1 8 Try.underlying27 hi hz0 hz1 hz2 rfl (by decide) v pre.length (i64s pre) hs (hown.alloc _) ⟨w1.heap.size, 0, none⟩ 1 1 [.int .i64 k] hx rfl
    (World.news_of_block (cs := #[.int .i64 k]) (t := 3) (fr := (0, 0)) (heap_alloc_new w1 _)) (one_i64 (l := [k])) (by unfold maxLen; omega) (by omega) (by rw [World.size_alloc]; omega) ?_
  intro v' w2 hown' hgrow _ hnew
  exact h v' w2 (by rw [List.length_append, i64s_append]; exact hown') (((Mod.refl _ w1).alloc _).grown hgrow (fun k hk => .inl (by rw [hk]; simp))) (own_new (W := w1) hnew (by rw [World.size_alloc]; omega))
theorem app_times {w1 : World} {ops : Array Oper} {rest : List Oper} {o : Oper} {a : Act} {Q : Exit → Act → World → Prop} (hgd : o.guard = none) (s x : Operand)
    (ho : o.op = .call { callee := .builtin .append, args := #[s, x], argTypes := #[42, 42] })
    (base : Nat) (v : Value) (n : Nat) (pre : List H3) (hown : w1.ownsRow base 27 1 v pre.length (pre.map (H3.hdr n))) (hb : base ≤ w1.heap.size) (hs : a.eval s = v) (k : H3) (hx : a.eval x = .slice (some ⟨w1.heap.size, 0, none⟩) 1 1) (hl : (pre.length + 1) * 24 ≤ 140737488355328)
    (h : ∀ v' w2, w2.ownsRow base 27 1 v' (pre ++ [k]).length ((pre ++ [k]).map (H3.hdr n)) → Mod v.ownBlock.toList w1 w2 → (v'.ownBlock = v.ownBlock ∨ ∃ k, v'.ownBlock = some k ∧ w1.heap.size ≤ k) → wpList Try.prog ops Q rest (a.put o.dst v') w2) : wpList Try.prog ops Q (o :: rest) a (w1.alloc (.cells #[.slice k.A n k.m] 27)) := by
  obtain ⟨i0, hi, hz0, hz1, hz2⟩ := info_parts info_ints
  refine wpList_append_own_at _ hgd s x 42 ho base 27 i0 (.slice none 0 0) 1 24 Try.underlying42 hi hz0 hz1 hz2 rfl (by decide) v pre.length (pre.map (H3.hdr n)) hs (hown.alloc _) ⟨w1.heap.size, 0, none⟩ 1 1 [.slice k.A n k.m] hx rfl
    (World.news_of_block (cs := #[.slice k.A n k.m]) (t := 27) (fr := (0, 0)) (heap_alloc_new w1 _)) (by intro u hu; rw [List.mem_singleton.1 hu]; rfl) (by unfold maxLen; omega) (by omega) (by rw [World.size_alloc]; omega) ?_
  intro v' w2 hown' hgrow _ hnew
  exact h v' w2 (by rw [List.length_append, List.map_append]; exact hown') (((Mod.refl _ w1).alloc _).grown hgrow (fun k hk => .inl (by rw [hk]; simp))) (own_new (W := w1) hnew (by rw [World.size_alloc]; omega))
/-! ### The numbers -/
namespace CK
theorem honest_iff {d a r : Int} (hr : 0 ≤ r ∧ r ≤ 999) : (TM.least d a : Int) ≤ r ↔ TM.honest d a r = true := by
  constructor
  · intro h
    rcases TM.least_cases d a with ⟨h1, _⟩ | ⟨h1, h2, _⟩
    · omega
    · have := TM.honest_mono h2 (show TM.least d a ≤ r.toNat by omega) (by omega)
      rwa [show ((r.toNat : Nat) : Int) = r by omega] at this
  · exact TM.least_of
/-- Every clock kept within rho at this tick. -/
def kept (d r : Int) (bs : List Int) : Bool := bs.all fun a => TM.honest d a r
theorem drift_kept {d r dr : Int} {bs : List Int} (hr : 0 ≤ r ∧ r ≤ 999) : decide (drift d dr bs ≤ r) = (decide (dr ≤ r) && kept d r bs) := by
  rw [Bool.eq_iff_iff]
  simp only [Bool.and_eq_true, decide_eq_true_eq, kept, List.all_eq_true, drift_iff]
  exact ⟨fun h => ⟨h.1, fun a ha => (honest_iff hr).1 (h.2 a ha)⟩, fun h => ⟨h.1, fun a ha => (honest_iff hr).2 (h.2 a ha)⟩⟩
theorem honest_add {d a e b r : Int} (h : TM.honest d a r = true) (k : TM.honest e b r = true) : TM.honest (d + e) (a + b) r = true := decide_eq_true (TM.keeps_add (of_decide_eq_true h) (of_decide_eq_true k))
theorem honest_zero {r : Int} (hr : 0 ≤ r ∧ r ≤ 999) : TM.honest 0 0 r = true := decide_eq_true ⟨by omega, by omega, hr.1, hr.2, by omega, by omega⟩
/-- All moments so far, and the clocks now. -/
structure Moments (c : Ck) (r : Int) (n : Nat) (T : List Int) (L : List (List Int)) : Prop where
  len : T.length = L.length
  one : 1 ≤ T.length
  row : ∀ l ∈ L, l.length = n
  pos : (∀ t ∈ T, 0 ≤ t ∧ t ≤ 1152921504606846976) ∧ ∀ l ∈ L, ∀ x ∈ l, 0 ≤ x ∧ x ≤ 1152921504606846976
  hon : c.dr ≤ r → ∀ k (h1 : k < T.length) (h2 : k < L.length) i (h3 : i < c.ts.length) (h4 : i < L[k].length), TM.honest (c.tr - T[k]) (c.ts[i] - L[k][i]) r = true
theorem Moments.start (n : Nat) {r : Int} (hr : 0 ≤ r ∧ r ≤ 999) : Moments (zero n) r n [0] [List.replicate n 0] := by
  refine ⟨rfl, Nat.le_refl _, fun l hl => by rw [List.mem_singleton.1 hl]; exact List.length_replicate, ⟨fun t ht => by rw [List.mem_singleton.1 ht]; omega, fun l hl x hx => by rw [List.mem_singleton.1 hl] at hx; rw [List.eq_of_mem_replicate hx]; omega⟩, fun _ k h1 h2 i h3 h4 => ?_⟩
  have e : k = 0 := by simp at h1; omega
  subst e
  simp only [zero, List.getElem_cons_zero, List.getElem_replicate]
  exact honest_zero hr
theorem Moments.next {c : Ck} {r : Int} {n : Nat} {T : List Int} {L : List (List Int)} {d : Int} {bs : List Int} (h : Moments c r n T L) (hs : Sound c) (hn : c.ts.length = n) (hr : 0 ≤ r ∧ r ≤ 999) (he : err c d bs = 0) :
    Moments (step c d bs) r n (T ++ [(step c d bs).tr]) (L ++ [(step c d bs).ts]) := by
  have hsd := step_sound (d := d) (bs := bs) hs
  obtain ⟨e1, e2, e3, e4, e5⟩ := err_ok.1 he
  have hst := step_ok he
  refine ⟨by rw [List.length_append, List.length_append, h.len]; rfl, by rw [List.length_append]; have := h.one; omega, fun l hl => ?_, ⟨fun t ht => ?_, fun l hl x hx => ?_⟩, fun hd k h1 h2 i h3 h4 => ?_⟩
  · rcases List.mem_append.1 hl with hl | hl
    · exact h.row l hl
    · rw [List.mem_singleton.1 hl, step_len]; exact hn
  · rcases List.mem_append.1 ht with ht | ht
    · exact h.pos.1 t ht
    · rw [List.mem_singleton.1 ht]; exact hsd.tr
  · rcases List.mem_append.1 hl with hl | hl
    · exact h.pos.2 l hl x hx
    · rw [List.mem_singleton.1 hl] at hx; exact hsd.ts x hx
  · by_cases hk : k < T.length
    · have hk2 : k < L.length := by rw [← h.len]; exact hk
      have hi : i < c.ts.length := by rw [step_len] at h3; exact h3
      have hib : i < bs.length := by omega
      have hd' : decide (drift d c.dr bs ≤ r) = true := decide_eq_true (by have := hd; rw [hst] at this; exact this)
      rw [drift_kept hr, Bool.and_eq_true, decide_eq_true_eq] at hd'
      have hL : (L ++ [(step c d bs).ts])[k] = L[k] := List.getElem_append_left hk2
      have h4' : i < L[k].length := by have := h.row _ (List.getElem_mem hk2); omega
      have h0 := h.hon hd'.1 k hk hk2 i hi h4'
      have h6 := List.all_eq_true.1 hd'.2 _ (List.getElem_mem hib)
      have hts : (step c d bs).ts[i] = c.ts[i] + bs[i] := by
        have e := go_at (d := d) hi hib
        rw [← hst, List.getElem?_eq_getElem h3] at e
        exact Option.some.inj e
      have htr : (step c d bs).tr = c.tr + d := by rw [hst]; rfl
      have hT : (T ++ [(step c d bs).tr])[k] = T[k] := List.getElem_append_left hk
      have hLi : (L ++ [(step c d bs).ts])[k][i] = L[k][i] := by simp only [hL]
      rw [hT, hLi, hts, htr, show c.tr + d - T[k] = (c.tr - T[k]) + d by omega, show c.ts[i] + bs[i] - L[k][i] = (c.ts[i] - L[k][i]) + bs[i] by omega]
      exact honest_add h0 h6
    · have hkT : k = T.length := by rw [List.length_append] at h1; simp at h1; omega
      subst hkT
      have hT : (T ++ [(step c d bs).tr])[T.length] = (step c d bs).tr := by simp
      have hL : (L ++ [(step c d bs).ts])[T.length] = (step c d bs).ts := by
        rw [List.getElem_append_right (by rw [h.len]; exact Nat.le_refl _)]
        simp [h.len]
      have hLi : (L ++ [(step c d bs).ts])[T.length][i] = (step c d bs).ts[i] := by simp only [hL]
      rw [hT, hLi, Int.sub_self, Int.sub_self]
      exact honest_zero hr
end CK
end Go.Proofs.Ytbcpphckjfbkbaa
