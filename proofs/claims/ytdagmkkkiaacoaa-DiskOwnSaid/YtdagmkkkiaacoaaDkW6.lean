/- The document's New and From; the package's From; lists of bytes that are no sectors. -/
import Derived.Test.YtdagmkkkiaacoaaDkW5
import Derived.Shelf.Abstract
namespace Go.Proofs.Ytdagmkkkiaacoaa
open Go.RowKit
open By (BytesAt u8s own_shape)
set_option linter.unusedVariables false
set_option linter.unusedSimpArgs false
set_option maxRecDepth 100000
/-- One header more is appended to a row of the call's own. -/
theorem run_app_hdr {W : World} {base : Nat} {v : Value} {n : Nat} {hs : List Value} (ty : TypeId) (hown : W.ownsRow base 35 1 v n hs) {p : Nat} {h : Value} (h1 : h.oneCell' = true) (hp : Whole W p 35 #[h]) (hl : (n + 1) * 24 ≤ 140737488355328) (hb : base ≤ W.heap.size) :
    ∃ v' w2, (Builtin.append_ #[42, 42] ty #[v, .slice (some ⟨p, 0, none⟩) 1 1]).run Try.prog W = .ok v' w2 ∧ w2.ownsRow base 35 1 v' (n + 1) (hs ++ [h]) ∧ Mod v.ownBlock.toList W w2 := by
  obtain ⟨i0, hi, hz0, hz1, hz2⟩ := info_parts info_row
  obtain ⟨v', w', hr, h2, h3, _, _⟩ := run_append_own_at (P := Try.prog) W base 42 ty 35 i0 (.slice none 0 0) 1 24 Try.underlying42 hi hz0 hz1 hz2 rfl (by decide) v n hs hown ⟨p, 0, none⟩ 1 1 [h] rfl
    (World.news_of_block (cs := #[h]) (t := 35) (fr := (0, 0)) hp) (by intro u hu; rw [List.mem_singleton.1 hu]; exact h1) (by unfold maxLen; omega) (by omega) hb
  exact ⟨v', w', hr, h2, (Mod.refl _ W).grown h3 (fun k hk => .inl (by rw [hk]; simp))⟩
theorem wp_app_hdr {W : World} {o : Oper} {a : Act} {K : Act → World → Prop} {Q : Exit → Act → World → Prop} (s x : Operand) (ho : o.op = .call { callee := .builtin .append, args := #[s, x], argTypes := #[42, 42] })
    (base : Nat) (v : Value) (n : Nat) (hs : List Value) (hown : W.ownsRow base 35 1 v n hs) (p : Nat) (h : Value) (h1 : h.oneCell' = true) (hp : Whole W p 35 #[h]) (hl : (n + 1) * 24 ≤ 140737488355328) (hb : base ≤ W.heap.size)
    (hsv : a.eval s = v) (hxv : a.eval x = .slice (some ⟨p, 0, none⟩) 1 1)
    (hK : ∀ v' w2, w2.ownsRow base 35 1 v' (n + 1) (hs ++ [h]) → Mod v.ownBlock.toList W w2 → K (a.put o.dst v') w2) : o.wp Try.prog a W K Q := by
  obtain ⟨v', w2, hr, h2, h3⟩ := run_app_hdr o.type hown h1 hp hl hb
  unfold Oper.wp execOp
  simp only [ho, resolve, invoke, builtin, Sem.run_bind, Sem.run_pure, Result.andThen_ok, List.map_toArray, List.map_cons, List.map_nil, hsv, hxv, hr]
  exact hK v' w2 h2 h3
theorem list_app_hdr {W : World} {ops : Array Oper} {rest : List Oper} {o : Oper} {a : Act} {Q : Exit → Act → World → Prop} (hgd : o.guard = none) (s x : Operand) (ho : o.op = .call { callee := .builtin .append, args := #[s, x], argTypes := #[42, 42] })
    (base : Nat) (v : Value) (n : Nat) (hs : List Value) (hown : W.ownsRow base 35 1 v n hs) (p : Nat) (h : Value) (h1 : h.oneCell' = true) (hp : Whole W p 35 #[h]) (hl : (n + 1) * 24 ≤ 140737488355328) (hb : base ≤ W.heap.size)
    (hsv : a.eval s = v) (hxv : a.eval x = .slice (some ⟨p, 0, none⟩) 1 1)
    (hK : ∀ v' w2, w2.ownsRow base 35 1 v' (n + 1) (hs ++ [h]) → Mod v.ownBlock.toList W w2 → wpList Try.prog ops Q rest (a.put o.dst v') w2) : wpList Try.prog ops Q (o :: rest) a W :=
  wpList_plain hgd fun _ hK' => wp_app_hdr s x ho base v n hs hown p h h1 hp hl hb hsv hxv (fun v' w2 k1 k2 => hK' _ _ (hK v' w2 k1 k2))
theorem step_app_hdr {W : World} {ops : Array Oper} {d : Option Tmp} {s x : Operand} {ty : TypeId} {ps : String} {af : Array Edge} {a : Act} {K : Act → World → Prop} {Q : Exit → Act → World → Prop} {E : Prop}
    (base : Nat) (v : Value) (n : Nat) (hs : List Value) (hown : W.ownsRow base 35 1 v n hs) (p : Nat) (h : Value) (h1 : h.oneCell' = true) (hp : Whole W p 35 #[h]) (hl : (n + 1) * 24 ≤ 140737488355328) (hb : base ≤ W.heap.size)
    (hsv : a.eval s = v) (hxv : a.eval x = .slice (some ⟨p, 0, none⟩) 1 1)
    (hK : ∀ v' w2, w2.ownsRow base 35 1 v' (n + 1) (hs ++ [h]) → Mod v.ownBlock.toList W w2 → K (a.put d v') w2) :
    if Region.wanted { dst := d, op := .call { callee := .builtin .append, args := #[s, x], argTypes := #[42, 42] }, type := ty, pos := ps, after := af, guard := none } (yielded ops a.tmps) = true
      then Oper.wp Try.prog { dst := d, op := .call { callee := .builtin .append, args := #[s, x], argTypes := #[42, 42] }, type := ty, pos := ps, after := af, guard := none } a W K Q else E := by
  rw [if_pos (by simp [Region.wanted])]
  exact wp_app_hdr s x rfl base v n hs hown p h h1 hp hl hb hsv hxv hK
section
variable {base : Nat} {w : World} {r : Nat} {v : Value} {d : Dk}
/-- A sector more. -/
theorem RefAt.push (h : RefAt base w r v d) {hs : List Value} (hr : w.ownsRow base 35 1 v d.ss.length hs) (he : ∀ (i : Nat) (x : List UInt8), d.ss[i]? = some x → ∃ b, hs[i]? = some (.slice (some ⟨b, 0, none⟩) 64 64) ∧ base ≤ b ∧ Whole w b 5 (u8s x).toArray)
    {W w2 : World} {v' : Value} {b : Nat} {x : List UInt8} (hW : Mod [] w W) (hb : base ≤ b) (hx : Whole W b 5 (u8s x).toArray) (hown : w2.ownsRow base 35 1 v' (d.ss.length + 1) (hs ++ [.slice (some ⟨b, 0, none⟩) 64 64])) (hm : Mod v.ownBlock.toList W w2) :
    RefAt base (w2.setCell ⟨r, 0, none⟩ v') r v' ⟨d.ss ++ [x], d.wr, d.off, d.am⟩ := by
  have hlen : hs.length = d.ss.length := by have := hr.1; omega
  have hrW := hW.own hr (by simp)
  have boxW := hW.whole h.box (by simp)
  have box2 : Whole w2 r 45 (ref4 v d.wr d.am d.off) := hm.whole boxW (fun hx => own_ne hrW boxW (by decide) (by simpa using hx))
  have keep : ∀ {b' : Nat} {y : List UInt8}, Whole W b' 5 (u8s y).toArray → Whole (w2.setCell ⟨r, 0, none⟩ v') b' 5 (u8s y).toArray := fun hb' =>
    (hm.whole hb' (fun hx => own_ne hrW hb' (by decide) (by simpa using hx))).far (q := ⟨r, 0, none⟩) (fun e => Whole.ne hb' boxW (by decide) e) _
  refine ⟨by have := box2.store 0 v'; exact this, h.ge, hs ++ [.slice (some ⟨b, 0, none⟩) 64 64], ?_, fun i y hy => ?_⟩
  · show World.ownsRow _ base 35 1 v' (d.ss ++ [x]).length _
    rw [List.length_append]
    exact own_far hown (q := ⟨r, 0, none⟩) (fun hx => own_ne hown box2 (by decide) hx) _
  · have hy : (d.ss ++ [x])[i]? = some y := hy
    by_cases hi : i < d.ss.length
    · rw [List.getElem?_append_left hi] at hy
      obtain ⟨b', k1, k2, k3⟩ := he i y hy
      exact ⟨b', by rw [List.getElem?_append_left (by omega)]; exact k1, k2, keep (hW.whole k3 (by simp))⟩
    · have hil : i = d.ss.length := by have := (List.getElem?_eq_some_iff.1 hy).1; rw [List.length_append, List.length_singleton] at this; omega
      subst hil
      rw [List.getElem?_append_right (Nat.le_refl _), Nat.sub_self] at hy
      cases hy
      exact ⟨b, by rw [List.getElem?_append_right (by omega), hlen, Nat.sub_self]; rfl, hb, keep hx⟩
theorem RefAt.empty (w : World) (base : Nat) (hb : base ≤ w.heap.size) : RefAt base (w.alloc (.cells #[.slice none 0 0, .int .i64 0, .int .i64 (-1), .bool false] 45)) w.heap.size (.slice none 0 0) (DK.of []) :=
  ⟨Whole.new w _ _, hb, [], ⟨rfl, .inl ⟨rfl, rfl⟩⟩, fun i x hx => by simp [DK.of] at hx⟩
end
set_option maxHeartbeats 1000000 in
theorem RefNew_no (n : Int) (w : World) (h : n < 1 ∨ 512 < n) (hn : -9223372036854775808 ≤ n ∧ n ≤ 9223372036854775807) :
    Calls Try.prog 12 #[.int .i64 n] w fun e w' => e = .returned (.tuple #[.pointer none, .int .i64 2]) ∧ w = w' := by
  rcases h with h | h
  all_goals
    go_enter Try.func12, Try.ntmps12
    go_wp2_with fail
    go_ret2
    exact ⟨rfl, rfl⟩
theorem zero_succ (k : Nat) : (⟨(DK.zero k).ss ++ [List.replicate 64 0], (DK.zero k).wr, (DK.zero k).off, (DK.zero k).am⟩ : Dk) = DK.zero (k + 1) := by
  exact congrArg (fun l => Dk.mk l 0 false (-1)) List.replicate_succ'.symm
theorem zero64 : madeCells #[Value.int .u8 0] 64 = (u8s (List.replicate 64 0)).toArray := by kernel_rfl
set_option maxHeartbeats 4000000 in
theorem RefNew_ok (n : Nat) (w : World) (h : 1 ≤ n ∧ n ≤ 512) :
    Calls Try.prog 12 #[.int .i64 (n : Int)] w fun e w' => e = .returned (.tuple #[.pointer (some ⟨w.heap.size, 0, none⟩), .int .i64 0]) ∧ Hid (∃ v, RefAt w.heap.size w' w.heap.size v (DK.zero n)) ∧ Hid (Below w.heap.size w w') := by
  have hmk : ∀ w' : World, (Instr.makeSlice 35 (.int .i64 64) (.int .i64 64)).run Try.prog w' = .ok (.slice (some ⟨w'.heap.size, 0, none⟩) 64 64) (w'.alloc (.cells (madeCells #[.int .u8 0] 64) 5)) := fun w' => run_make_row' (P := Try.prog) 35 5 (.int .u8 0) 1 Try.underlying35 By.info_u8 rfl .i64 .i64 64 (by omega) (by omega) w'
  obtain ⟨h1, h2⟩ := h
  go_enter Try.func12, Try.ntmps12
  go_wp2_with fail
  go_loopw [5] (fun i wr => ∃ (k : Nat) (v : Value), i = .int .i64 (k : Int) ∧ k ≤ n ∧ Hid (RefAt w.heap.size wr w.heap.size v (DK.zero k)) ∧ Hid (Below w.heap.size w wr)) (fun i _ => n - (intOf i).toNat)
  case atStart => exact ⟨0, _, rfl, Nat.zero_le _, Lib.hid (RefAt.empty w _ (Nat.le_refl _)), Lib.hid ((Below.refl _ w).alloc (Nat.le_refl _) _)⟩
  case round =>
    obtain ⟨k, v, rfl, hk, HR, HB⟩ := hrel
    by_cases hlt : k < n
    · obtain ⟨hs, h3, h4⟩ := HR.out.row
      have hzl : (DK.zero k).ss.length = k := by simp [DK.zero]
      rw [hzl] at h3
      obtain ⟨A, c, rfl, _, _⟩ := own_shape h3
      have HH := Lib.hid h4
      have HO := Lib.hid h3
      have HZ := Lib.hid hzl
      have hblt := HR.out.box.lt
      have HM3 := Lib.hid ((((Mod.refl [] wr).alloc (.cells (madeCells #[.int .u8 0] 64) 5)).alloc (.cells #[.slice (some ⟨wr.heap.size, 0, none⟩) 64 64] 35)).drew)
      have HO3 := Lib.hid (HM3.out.own h3 (by simp))
      have HX3 := Lib.hid (show Whole (((wr.alloc (.cells (madeCells #[.int .u8 0] 64) 5)).alloc (.cells #[.slice (some ⟨wr.heap.size, 0, none⟩) 64 64] 35)).drew) wr.heap.size 5 (u8s (List.replicate 64 0)).toArray by
        rw [← zero64]
        exact (Whole.new wr _ _).alloc _)
      have HP3 := Lib.hid (show Whole (((wr.alloc (.cells (madeCells #[.int .u8 0] 64) 5)).alloc (.cells #[.slice (some ⟨wr.heap.size, 0, none⟩) 64 64] 35)).drew) (wr.heap.size + 1) 35 #[.slice (some ⟨wr.heap.size, 0, none⟩) 64 64] by
        have h1 : wr.heap.size + 1 = (wr.alloc (.cells (madeCells #[.int .u8 0] 64) 5)).heap.size := by simp
        rw [h1]
        exact Whole.new _ _ _)
      have q1 : wr.cell? ⟨w.heap.size, 0, none⟩ = some (.slice A k c) := HR.out.cells.1
      have HBX := Lib.hid (HM3.out.whole HR.out.box (by simp))
      have HSZ := Lib.hid (show w.heap.size ≤ (((wr.alloc (.cells (madeCells #[.int .u8 0] 64) 5)).alloc (.cells #[.slice (some ⟨wr.heap.size, 0, none⟩) 64 64] 35)).drew).heap.size from Nat.le_trans (Nat.le_of_lt hblt) HM3.out.size)
      have HKL := Lib.hid (show (k + 1) * 24 ≤ 140737488355328 by omega)
      clear h3 h4 hzl
      go_wp2_with fail
      go_region_law (refine step_app_hdr (W := ((wr.alloc (.cells (madeCells #[.int .u8 0] 64) 5)).alloc (.cells #[.slice (some ⟨wr.heap.size, 0, none⟩) 64 64] 35)).drew) w.heap.size (.slice A k c) k hs HO3.out (wr.heap.size + 1) (.slice (some ⟨wr.heap.size, 0, none⟩) 64 64) rfl HP3.out HKL.out HSZ.out rfl rfl ?_
                     intro v2 w2 hown hmod
                     obtain ⟨A2, c2, rfl, _, _⟩ := own_shape hown
                     have HO4 := Lib.hid hown
                     have HM4 := Lib.hid hmod
                     have hb4 := hmod.whole HBX.out (fun hx => own_ne HO3.out HBX.out (by decide) (by simpa using hx))
                     have p0 : w2.cell? ⟨w.heap.size, 0, none⟩ = some (.slice A k c) := hb4.cell 0
                     have pf := hb4.frozen 0
                     clear hown hmod hb4)
      all_goals
        have HF := Lib.hid (HR.out.push (by rw [HZ.out]; exact HO.out) HH.out HM3.out (b := wr.heap.size) (x := List.replicate 64 0) (Nat.le_of_lt hblt) HX3.out (by rw [HZ.out]; exact HO4.out) HM4.out)
        rw [zero_succ] at HF
        have HBF := Lib.hid (HB.out.trans ((((HM3.out.mono (G := (Value.slice A k c).ownBlock.toList) (by simp)).trans HM4.out (fun x hx => .inl hx)).below HB.out.size (fun x hx => (HO.out.lt x (by simpa using hx)).1)).setCell (p := ⟨w.heap.size, 0, none⟩) (Nat.le_refl _) (.slice A2 (k + 1) c2)))
        clear q1 p0 pf
        go_wp2_with fail
        go_roundw
        case rel => exact ⟨k + 1, _, rfl, hlt, HF, HBF⟩
        case measure => simp only [intOf]; omega
    · obtain rfl : k = n := by omega
      go_wp2_with fail
      go_ret2
      exact ⟨rfl, Lib.hid ⟨v, HR.out⟩, HB⟩
/-- A copy has been made: what the append wants. -/
structure Ready (base r : Nat) (v : Value) (d : Dk) (hs : List Value) (x : List UInt8) (b : Nat) (wr w5 : World) : Prop where
  ref : RefAt base wr r v d
  row : wr.ownsRow base 35 1 v d.ss.length hs
  each : ∀ (i : Nat) (x : List UInt8), d.ss[i]? = some x → ∃ b, hs[i]? = some (.slice (some ⟨b, 0, none⟩) 64 64) ∧ base ≤ b ∧ Whole wr b 5 (u8s x).toArray
  mod : Mod [] wr w5
  ge : base ≤ b
  got : Whole w5 b 5 (u8s x).toArray
  len : d.ss.length ≤ 600
  base_le : base ≤ wr.heap.size
/-- What stands behind the append, ahead of the store. -/
structure Got (base r : Nat) (v v' : Value) (d : Dk) (x : List UInt8) (wr w2 : World) : Prop where
  ref : RefAt base (w2.setCell ⟨r, 0, none⟩ v') r v' ⟨d.ss ++ [x], d.wr, d.off, d.am⟩
  below : Below base wr (w2.setCell ⟨r, 0, none⟩ v')
  box : Whole w2 r 45 (ref4 v d.wr d.am d.off)
  shape : ∃ A c, v' = .slice A (d.ss.length + 1) c
theorem step_app_from {base r b : Nat} {v : Value} {d : Dk} {hs : List Value} {x : List UInt8} {wr w5 : World} (hR : Hid (Ready base r v d hs x b wr w5)) {ops : Array Oper} {dt : Option Tmp} {s y : Operand} {ty : TypeId} {ps : String} {af : Array Edge} {a : Act} {K : Act → World → Prop} {Q : Exit → Act → World → Prop} {E : Prop}
    (hsv : a.eval s = v) (hxv : a.eval y = .slice (some ⟨w5.heap.size, 0, none⟩) 1 1)
    (hK : ∀ v' w2, Hid (Got base r v v' d x wr w2) → K (a.put dt v') w2) :
    if Region.wanted { dst := dt, op := .call { callee := .builtin .append, args := #[s, y], argTypes := #[42, 42] }, type := ty, pos := ps, after := af, guard := none } (yielded ops a.tmps) = true
      then Oper.wp Try.prog { dst := dt, op := .call { callee := .builtin .append, args := #[s, y], argTypes := #[42, 42] }, type := ty, pos := ps, after := af, guard := none } a (w5.alloc (.cells #[.slice (some ⟨b, 0, none⟩) 64 64] 35)) K Q else E := by
  have h := hR.out
  have hW := h.mod.alloc (.cells #[.slice (some ⟨b, 0, none⟩) 64 64] 35)
  have ho := hW.own h.row (by simp)
  refine step_app_hdr base v d.ss.length hs ho w5.heap.size (.slice (some ⟨b, 0, none⟩) 64 64) rfl (Whole.new w5 _ _) (by have := h.len; omega) (Nat.le_trans h.base_le hW.size) hsv hxv (fun v' w2 k1 k2 => hK v' w2 (Lib.hid ?_))
  have hbox := hW.whole h.ref.box (by simp)
  refine ⟨h.ref.push h.row h.each hW h.ge (h.got.alloc _) k1 k2, (((hW.mono (G := v.ownBlock.toList) (by simp)).trans k2 (fun x hx => .inl hx)).below h.base_le (fun x hx => (h.row.lt x (by simpa using hx)).1)).setCell (p := ⟨r, 0, none⟩) h.ref.ge v', k2.whole hbox (fun hx => own_ne ho hbox (by decide) (by simpa using hx)), ?_⟩
  obtain ⟨A, c, e, _, _⟩ := own_shape k1
  exact ⟨A, c, e⟩
section
variable {w : World} {A : Option Addr} {ss : List (List UInt8)}
set_option maxHeartbeats 1000000 in
theorem RefFrom_size (c : Nat) (h : ss.length < 1 ∨ 512 < ss.length) (hl : ss.length ≤ 9223372036854775807) :
    Calls Try.prog 26 #[.slice A ss.length c] w fun e w' => e = .returned (.tuple #[.pointer none, .int .i64 2]) ∧ w = w' := by
  rcases h with h | h
  all_goals
    have h' : (ss.length : Int) < 1 ∨ (512 : Int) < ss.length := by omega
    go_enter Try.func26, Try.ntmps26
    go_wp2_with fail
    go_ret2
    exact ⟨rfl, rfl⟩
/-- All of the first k are sectors. -/
def Fit (ss : List (List UInt8)) (k : Nat) : Prop := ∀ (i : Nat) (x : List UInt8), ss[i]? = some x → i < k → x.length = 64
set_option maxHeartbeats 4000000 in
theorem RefFrom_any (c : Nat) (hA : RowsAt w A ss) (h : 1 ≤ ss.length ∧ ss.length ≤ 512) (hcap : ∀ (j : Nat) (x : List UInt8), ss[j]? = some x → x.length ≤ 140737488351232) :
    Calls Try.prog 26 #[.slice A ss.length c] w fun e w' =>
      ((e = .returned (.tuple #[.pointer (some ⟨w.heap.size, 0, none⟩), .int .i64 0]) ∧ Hid (Fit ss ss.length ∧ ∃ v, RefAt w.heap.size w' w.heap.size v (DK.of ss))) ∨ (e = .returned (.tuple #[.pointer none, .int .i64 2]) ∧ Hid (¬ Fit ss ss.length))) ∧ Hid (Below w.heap.size w w') := by
  have HA := Lib.hid hA
  have HC := Lib.hid hcap
  obtain ⟨h1, h2⟩ := h
  clear hA hcap
  go_enter Try.func26, Try.ntmps26
  go_wp2_with fail
  go_loopw [5] (fun i wr => ∃ (k : Nat) (v : Value), i = .int .i64 (k : Int) ∧ k ≤ ss.length ∧ Hid (Fit ss k) ∧ Hid (RefAt w.heap.size wr w.heap.size v (DK.of (ss.take k))) ∧ Hid (Below w.heap.size w wr)) (fun i _ => ss.length - (intOf i).toNat)
  case atStart => exact ⟨0, _, rfl, Nat.zero_le _, Lib.hid (fun i x _ hi => absurd hi (Nat.not_lt_zero _)), Lib.hid (RefAt.empty w _ (Nat.le_refl _)), Lib.hid ((Below.refl _ w).alloc (Nat.le_refl _) _)⟩
  case round =>
    obtain ⟨k, v, rfl, hk, HF, HR, HB⟩ := hrel
    by_cases hlt : k < ss.length
    · obtain ⟨b, o, eA, hb, hca⟩ := (HA.out.below HB.out) (by omega)
      subst eA
      have HX := Lib.hid (List.getElem?_eq_getElem hlt)
      have HTK := Lib.hid (show ss.take (k + 1) = ss.take k ++ [ss[k]] from List.take_succ_eq_append_getElem hlt)
      generalize ss[k] = x at HX HTK
      obtain ⟨A1, c1, a0, hd⟩ := hca k x HX.out
      by_cases hx : x.length = 64
      · obtain ⟨hs, h3, h4⟩ := HR.out.row
        have hzl : (DK.of (ss.take k)).ss.length = k := by show (ss.take k).length = k; rw [List.length_take]; omega
        have q1 : wr.cell? ⟨w.heap.size, 0, none⟩ = some v := HR.out.cells.1
        have HCP := Lib.hid (copied_any A1 x c1 wr.drew (show BytesAt wr.drew A1 x from hd) (by omega))
        rw [hx] at a0 HCP
        have hblt := HR.out.box.lt
        obtain ⟨B, cB, rfl, _, _⟩ := own_shape h3
        have HO := Lib.hid h3
        have HE := Lib.hid h4
        have HZ := Lib.hid hzl
        rw [hzl] at q1
        have HR2 := HR
        have HO2 := HO
        rw [hzl] at HR2 HO2
        have HX64 := Lib.hid hx
        clear h3 h4 hca hd hx hzl
        go_wp2_with fail
        go_region_law (first
          | (refine step_app_from (by assumption) rfl rfl ?_
             intro v2 w2 HG
             obtain ⟨A2, c2, rfl⟩ := HG.out.shape
             have p0 : w2.cell? ⟨w.heap.size, 0, none⟩ = some (.slice B k cB) := HG.out.box.cell 0
             have pf := HG.out.box.frozen 0)
          | (go_simp
             go_at_call 31
             refine HCP.out.mono ?_
             rintro e w5 ⟨rfl, HW5, HB5⟩
             have HRD : Hid (Ready w.heap.size w.heap.size (.slice B k cB) (DK.of (ss.take k)) hs x wr.heap.size wr w5) := Lib.hid ⟨HR2.out, by rw [HZ.out]; exact HO2.out, HE.out, (Mod.refl [] wr).drew.trans (Mod.of_below HB5.out []) (by simp), Nat.le_of_lt hblt, HW5.out, by rw [HZ.out]; omega, Nat.le_of_lt hblt⟩
             have q5 : w5.cell? ⟨w.heap.size, 0, none⟩ = some (.slice B k cB) := (HB5.out.cell (p := ⟨w.heap.size, 0, none⟩) hblt).trans q1
             have hblt5 : w.heap.size < w5.heap.size := Nat.lt_of_lt_of_le hblt HB5.out.size
             go_wp2_with fail))
        all_goals
          have HRF := Lib.hid (show RefAt w.heap.size _ w.heap.size _ (DK.of (ss.take (k + 1))) by rw [HTK.out]; exact HG.out.ref)
          have HBF := Lib.hid (HB.out.trans HG.out.below)
          have HFF := Lib.hid (show Fit ss (k + 1) from fun i y hy hi => if e : i = k then by subst e; rw [HX.out] at hy; cases hy; exact HX64.out else HF.out i y hy (by omega))
          clear q1 q5 p0 pf a0
          go_wp2_with fail
          go_roundw
          case rel => exact ⟨k + 1, _, rfl, hlt, HFF, HRF, HBF⟩
          case measure => simp only [intOf]; omega
      · have hne : ((x.length : Int) == 64) = false := by simp; omega
        have HN := Lib.hid (show ¬ Fit ss ss.length from fun hf => hx (hf k x HX.out hlt))
        go_wp2_with fail
        go_ret2
        exact ⟨.inr ⟨rfl, HN⟩, HB⟩
    · obtain rfl : k = ss.length := by omega
      have HRL := HR.out
      rw [List.take_of_length_le (Nat.le_refl _)] at HRL
      have HRL2 := Lib.hid HRL
      clear HRL
      go_wp2_with fail
      go_ret2
      exact ⟨.inl ⟨rfl, Lib.hid ⟨HF.out, v, HRL2.out⟩⟩, HB⟩
end
end Go.Proofs.Ytdagmkkkiaacoaa
