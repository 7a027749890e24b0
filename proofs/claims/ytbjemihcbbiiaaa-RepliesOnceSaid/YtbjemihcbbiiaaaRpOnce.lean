/- What the law RepliesOnce carries: one Replies of its own, and a list of what was done. -/
import Derived.Test.YtbjemihcbbiiaaaRpAw
import Derived.Test.YtbjemihcbbiiaaaRpArg
namespace Go.Proofs.Ytbjemihcbbiiaaa
open Go.RowKit
open RP (Kp St Ad)
open WM (Msg)
set_option linter.unusedVariables false
set_option linter.unusedSimpArgs false
set_option maxRecDepth 100000
def flat4 (l : List Ad) : List Value := l.flatMap ad4
theorem flat4_len (l : List Ad) : (flat4 l).length = l.length * 4 := by
  unfold flat4
  induction l with
  | nil => rfl
  | cons e r ih =>
    rw [List.flatMap_cons, List.length_append, ih, List.length_cons]
    show 4 + _ = _
    omega
theorem flat4_append (a b : List Ad) : flat4 (a ++ b) = flat4 a ++ flat4 b := by unfold flat4; rw [List.flatMap_append]
theorem flat4_at : ∀ {l : List Ad} {j : Nat} {e : Ad}, l[j]? = some e → ∀ k, k < 4 → (flat4 l)[j * 4 + k]? = (ad4 e)[k]?
  | [], j, e, h, _, _ => by simp at h
  | x :: r, 0, e, h, k, hk => by
    simp only [List.getElem?_cons_zero, Option.some.injEq] at h
    subst h
    have e1 : flat4 (x :: r) = ad4 x ++ flat4 r := by unfold flat4; rw [List.flatMap_cons]
    rw [e1, Nat.zero_mul, Nat.zero_add, List.getElem?_append_left (show k < (ad4 x).length from hk)]
  | x :: r, j + 1, e, h, k, hk => by
    rw [List.getElem?_cons_succ] at h
    have ih := flat4_at h k hk
    have e1 : flat4 (x :: r) = ad4 x ++ flat4 r := by unfold flat4; rw [List.flatMap_cons]
    rw [e1, List.getElem?_append_right (show (ad4 x).length ≤ (j + 1) * 4 + k by show 4 ≤ _; omega), show (j + 1) * 4 + k - (ad4 x).length = j * 4 + k by show _ - 4 = _; omega]
    exact ih
theorem info_ad : (Try.prog.info? 55).map (fun i => (i.size, i.bytes)) = some (4, 32) := by kernel_rfl
theorem info_adz : ∃ (i : TypeInfo) (z : Value), Try.prog.info? 55 = some i ∧ i.zero = some z ∧ i.size = 4 ∧ i.bytes = 32 ∧ z.cells.size = 4 := by
  obtain ⟨i0, hi, hp⟩ := Option.map_eq_some_iff.1 info_ad
  injection hp with hz1 hz2
  obtain ⟨z, hz0⟩ : ∃ z, i0.zero = some z := by
    have : (Try.prog.info? 55).map (fun i => i.zero.isSome) = some true := by kernel_rfl
    rw [hi] at this
    simp only [Option.map_some, Option.some.injEq] at this
    exact Option.isSome_iff_exists.1 this
  have hzc : z.cells.size = 4 := by
    have : (Try.prog.info? 55).map (fun i => i.zero.map (fun z => z.cells.size)) = some (some 4) := by kernel_rfl
    rw [hi] at this
    simp only [Option.map_some, Option.some.injEq, hz0] at this
    exact this
  exact ⟨i0, z, hi, hz0, hz1, hz2, hzc⟩
/-- A list of requests of one's own reads so. -/
theorem AdsAt.own {w : World} {base n c : Nat} {A : Option Addr} {xs : List Ad} (h : w.ownsRow base 55 4 (.slice A n c) n (flat4 xs)) : AdsAt w A xs := fun h0 => by
  have hl := h.1
  rw [flat4_len] at hl
  have hn : n = xs.length := by omega
  rcases h.2 with ⟨_, h1⟩ | ⟨g, cap, cur, hv, _, hh, _, _, _, ht⟩
  · omega
  · injection hv with hA
    subst hA
    refine ⟨g, 0, rfl, (Array.getElem?_eq_some_iff.1 hh).1, fun j x hx k v hkv => ?_⟩
    have hk4 : k < 4 := (List.getElem?_eq_some_iff.1 hkv).1
    have h1 := flat4_at hx k hk4
    rw [hkv, ← ht] at h1
    rw [Nat.zero_add, cell_of_row w g _ cur _ (0, 0) hh]
    rw [List.getElem?_take] at h1
    split at h1
    · rw [← h1, Array.getElem?_toList]
    · cases h1
structure Ro (w0 wx : World) (g : Nat) (s : St) (v : Value) (l : List Ad) : Prop where
  rt : Rt w0 wx g s
  row : wx.ownsRow w0.heap.size 55 4 v l.length (flat4 l)
section
variable {w0 wx w' : World} {g : Nat} {s : St} {v : Value} {l : List Ad}
theorem Ro.far (h : Ro w0 wx g s v l) : v.ownBlock ≠ some g := by
  obtain ⟨cs, hw, _⟩ := h.rt.at_.row
  exact own_ne h.row hw (by decide)
theorem Ro.below (h : Ro w0 wx g s v l) (hb : Below wx.heap.size wx w') : Ro w0 w' g s v l := ⟨h.rt.below hb, (Mod.of_below hb []).own h.row (by simp)⟩
theorem Ro.alloc (h : Ro w0 wx g s v l) (o : Obj) : Ro w0 (wx.alloc o) g s v l := h.below ((Below.refl _ wx).alloc (Nat.le_refl _) o)
theorem Ro.start (h : Rt w0 wx g s) : Ro w0 wx g s (.slice none 0 0) [] := ⟨h, World.ownsRow_nil _ _ _ _⟩
theorem Ro.mod (h : Ro w0 wx g s v l) {s' : St} (h' : Rt w0 w' g s') (hm : Mod [g] wx w') : Ro w0 w' g s' v l :=
  ⟨h', hm.own h.row (fun k hk hf => by
    obtain rfl : k = g := by simpa using hf
    exact h.far hk)⟩
theorem Ro.seen (h : Ro w0 wx g s v l) (m : Msg) (hw : Wide m) (hs : m.stamp = []) :
    Calls Try.prog 13 #[.pointer (some ⟨g, 0, none⟩), .agg (cellsM m (.slice none 0 0))] wx fun e w' => ∃ A c, e = .returned (.tuple #[.int .i64 (RP.verdict s m), .agg (cellsM (RP.answer s m) (.slice A (RP.answer s m).stamp.length c))]) ∧ Hid (Fit w' A c (RP.answer s m)) ∧ Hid (Ro w0 w' g (RP.seenSt s m) v l) ∧ Hid (Mod [g] wx w') := by
  have := Seen_any none 0 m h.rt.at_ h.rt.ok (fit_bare m hw hs wx)
  rw [hs] at this
  refine this.mono ?_
  rintro e w' ⟨A, c, rfl, hf, _, h1, h2⟩
  exact ⟨A, c, rfl, hf, Lib.hid (h.mod ⟨h1.out.raise h2.out.size (Nat.le_refl _), h.rt.ok.seen m, h.rt.bel.trans (h2.out.below h.rt.bel.size (fun x hx => by simp at hx; have := h.rt.le; omega)), h.rt.le⟩ h2.out), h2⟩
theorem Ro.keep (h : Ro w0 wx g s v l) (m a : Msg) (hw : Wide m) (hs : m.stamp = []) (B : Option Addr) (d : Nat) (hfa : Fit wx B d a) (hg : ∀ ad, B = some ad → ad.block ≠ g) :
    Calls Try.prog 10 #[.pointer (some ⟨g, 0, none⟩), .agg (cellsM m (.slice none 0 0)), .agg (cellsM a (.slice B a.stamp.length d))] wx fun e w' => e = .returned (.bool (RP.kept s m a)) ∧ Hid (Ro w0 w' g (RP.keepSt s m a) v l) ∧ Hid (Mod [g] wx w') := by
  have := Keep_any none B 0 d m a h.rt.at_ h.rt.ok (fit_bare m hw hs wx) hfa hg
  rw [hs] at this
  refine this.mono ?_
  rintro e w' ⟨rfl, h1, h2⟩
  exact ⟨rfl, Lib.hid (h.mod ⟨h1.out, h.rt.ok.keep m a, h.rt.bel.trans (h2.out.below h.rt.bel.size (fun x hx => by simp at hx; have := h.rt.le; omega)), h.rt.le⟩ h2.out), h2⟩
theorem Ro.len (h : Ro w0 wx g s v l) (i : Int) : Calls Try.prog 14 #[.pointer (some ⟨g, 0, none⟩), .int .i64 i] wx fun e w' => e = .returned (.int .i64 (RP.len s i : Nat)) ∧ Hid (Ro w0 w' g s v l) :=
  (Len_any h.rt.at_ i).mono fun e w' ⟨h1, h2⟩ => ⟨h1, Lib.hid (h.below h2)⟩
/-- One request put behind the list. -/
theorem Ro.app {ops : Array Oper} {rest : List Oper} {o : Oper} {a : Act} {Q : Exit → Act → World → Prop} (h : Ro w0 wx g s v l) (hgd : o.guard = none) (t x : Operand)
    (ho : o.op = .call { callee := .builtin .append, args := #[t, x], argTypes := #[53, 53] }) (hs : a.eval t = v) (y : Ad) (hx : a.eval x = .slice (some ⟨wx.heap.size, 0, none⟩) 1 1) (hl : l.length ≤ 1000)
    (hK : ∀ v' w2, Ro w0 w2 g s v' (l ++ [y]) → Mod v.ownBlock.toList (wx.alloc (.cells (ad4 y).toArray 55)) w2 → wpList Try.prog ops Q rest (a.put o.dst v') w2) : wpList Try.prog ops Q (o :: rest) a (wx.alloc (.cells (ad4 y).toArray 55)) := by
  obtain ⟨i0, z, hi, hz0, hz1, hz2, hzc⟩ := info_adz
  refine wpList_append_own_at _ hgd t x 53 ho w0.heap.size 55 i0 z 4 32 Try.underlying53 hi hz0 hz1 hz2 hzc (by decide) v l.length (flat4 l) hs ((h.alloc _).row) ⟨wx.heap.size, 0, none⟩ 1 1 (ad4 y) hx rfl
    (World.news_of_block (cs := (ad4 y).toArray) (t := 55) (fr := (0, 0)) (heap_alloc_new wx _)) (fun u hu => by
      unfold ad4 at hu
      simp only [List.mem_cons, List.not_mem_nil, or_false] at hu
      rcases hu with rfl | rfl | rfl | rfl <;> rfl) (by unfold maxLen; omega) (by omega) (by have := h.rt.bel.size; rw [World.size_alloc]; omega) ?_
  intro v' w2 hown hgrow _ _
  have hb := h.alloc (.cells (ad4 y).toArray 55)
  have hm : Mod v.ownBlock.toList (wx.alloc (.cells (ad4 y).toArray 55)) w2 := (Mod.refl _ _).grown hgrow (fun k hk => .inl (by rw [hk]; simp))
  have hat := hb.rt.at_.modT hm (fun hg => hb.far (by simpa using hg)) (fun k hk => by
    have hk : v.ownBlock = some k := by simpa using hk
    rintro ⟨cs, hw⟩
    exact own_ne hb.row hw (by decide) hk)
  refine hK v' w2 ⟨⟨hat.raise hm.size (Nat.le_refl _), hb.rt.ok, hb.rt.bel.trans (hm.below hb.rt.bel.size (fun k hk => ?_)), hb.rt.le⟩, by rw [List.length_append, flat4_append, show flat4 [y] = ad4 y from List.append_nil _]; exact hown⟩ hm
  exact (h.row.lt k (by simpa using hk)).1
end
theorem wide_onA {x : Ad} (h : AdW x) : Wide (RP.onA x) := by
  have h1 := RP.dd_rng x.frm
  exact ⟨(show In64 1 by unfold In64; omega), h.frm, (show In64 (RP.dd x.frm) by unfold In64; omega), h.boot, h.seq, h.low, (show In64 3 by unfold In64; omega), (show In64 0 by unfold In64; omega), (show In64 0 by unfold In64; omega), (show In64 5 by unfold In64; omega), (show In64 0 by unfold In64; omega), (show In64 0 by unfold In64; omega), (show In64 0 by unfold In64; omega), (by intro x hx; cases hx), (show (ByteArray.mk #[]).size ≤ 140737488351232 by decide)⟩
theorem wide_onR {x : Ad} (h : AdW x) {i : Int} (hi : 0 ≤ i ∧ i ≤ 1000) : Wide (RP.onR x.frm x.boot x.seq i) := by
  have h1 := RP.dd_rng x.frm
  exact ⟨(show In64 2 by unfold In64; omega), (show In64 (RP.dd x.frm) by unfold In64; omega), h.frm, h.boot, h.seq, (show In64 0 by unfold In64; omega), (show In64 0 by unfold In64; omega), (show In64 0 by unfold In64; omega), (show In64 9 by unfold In64; omega), (show In64 (i + 1) by unfold In64; omega), (show In64 0 by unfold In64; omega), (show In64 0 by unfold In64; omega), (show In64 0 by unfold In64; omega), (by intro y hy; rw [List.mem_singleton.1 hy]; unfold In64; omega), (show (ByteArray.mk #[]).size ≤ 140737488351232 by decide)⟩
theorem fit_onR {x : Ad} (h : AdW x) {i : Int} (hi : 0 ≤ i ∧ i ≤ 1000) {w : World} {p : Nat} (hp : Whole w p 3 #[.int .i64 (i + 1)]) : Fit w (some ⟨p, 0, none⟩) 1 (RP.onR x.frm x.boot x.seq i) := by
  refine ⟨wide_onR h hi, fun _ => ⟨p, 0, rfl, hp.lt, fun j y hy => ?_⟩, fun ad e => by cases e; exact hp.lt, Nat.le_refl _, by omega⟩
  have hj : j = 0 := by
    have := (List.getElem?_eq_some_iff.1 hy).1
    have : j < 1 := this
    omega
  subst hj
  have hy : some (i + 1) = some y := hy
  cases hy
  rw [hp.cell]
  rfl
theorem blk_range {w : World} {p : Nat} {m : Msg} {A : Option Addr} {c : Nat} (h : MsgBlk w p m (.slice A m.stamp.length c)) : w.rangeAt p 0 (slotC m A c) := fun j v hv => by
  unfold slotC at hv
  rw [Array.getElem?_toList] at hv
  rw [Nat.zero_add, h.cell]
  exact hv
end Go.Proofs.Ytbjemihcbbiiaaa
