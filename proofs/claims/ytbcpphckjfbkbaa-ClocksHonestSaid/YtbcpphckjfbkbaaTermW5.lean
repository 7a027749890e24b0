/- Whether a clock keeps within a drift: the package. -/
import Derived.Test.YtbcpphckjfbkbaaTermW4
import Derived.Deep.RegionHeld3
namespace Go.Proofs.Ytbcpphckjfbkbaa.Tm
open Go.RowKit Go.Lib Go.Shelf Go.Sort
/-- What the two calls on halves answer, for three products. -/
theorem times_at {n k : Int} (hn : 0 ≤ n ∧ n ≤ 9223372036854775807) (hk : 0 ≤ k ∧ k ≤ 9223372036854775807) {X a b : Int} (hX : n * k = X) (ha : X / 18446744073709551616 = a) (hb : X % 18446744073709551616 = b) (w : World) :
    Calls Try.prog 27 #[.int .i64 n, .int .i64 k] w fun e w' => e = .returned (.agg #[.int .u64 a, .int .u64 b]) ∧ Up w w' := by
  have h := times_any n k w hn hk
  rw [hX, ha, hb] at h
  exact h
theorem upTo_at {X Y a b c d : Int} (ha : X / 18446744073709551616 = a) (hb : X % 18446744073709551616 = b) (hc : Y / 18446744073709551616 = c) (hd : Y % 18446744073709551616 = d) {p : Bool} (hp : decide (X ≤ Y) = p) (w : World) :
    Calls Try.prog 28 #[.agg #[.int .u64 a, .int .u64 b], .agg #[.int .u64 c, .int .u64 d]] w fun e w' => e = .returned (.bool p) ∧ Up w w' := by
  have h := upTo_any a b c d w
  rw [← ha, ← hb, ← hc, ← hd] at h ⊢
  rw [decide_eq_decide.2 (halves X Y), hp] at h
  exact h
theorem honest_not {d a r : Int} (h : d < 0 ∨ a < 0 ∨ ¬ (0 ≤ r ∧ r ≤ 999)) : false = TM.honest d a r := by
  refine (decide_eq_false ?_).symm
  rintro ⟨h1, h2, h3, h4, _⟩
  omega
theorem honest_when {d a r : Int} (h1 : 0 ≤ d) (h2 : 0 ≤ a) (h3 : 0 ≤ r ∧ r ≤ 999) {p q s : Bool} (hp : decide (d * (1000 - r) ≤ a * 1000) = p) (hq : decide (a * 1000 ≤ d * (1000 + r)) = q) (hs : s = (p && q)) : s = TM.honest d a r := by
  rw [hs, ← hp, ← hq, Bool.eq_iff_iff]
  simp only [TM.honest, TM.keeps, Bool.and_eq_true, decide_eq_true_eq]
  exact ⟨fun h => decide_eq_true ⟨h1, h2, h3.1, h3.2, h.1, h.2⟩, fun h => have k := of_decide_eq_true h; ⟨k.2.2.2.2.1, k.2.2.2.2.2⟩⟩
theorem keep_up {w w1 w2 : World} {b : Nat} {x y : Value} (h : (w1.cell? ⟨b, 0, none⟩ = some x ∧ w1.cell? ⟨b, 1, none⟩ = some y) ∧ Up w w1) (hU : Up w1 w2) : (w2.cell? ⟨b, 0, none⟩ = some x ∧ w2.cell? ⟨b, 1, none⟩ = some y) ∧ Up w w2 :=
  ⟨⟨hU.cell h.1.1, hU.cell h.1.2⟩, h.2.trans hU⟩
theorem held_new {w w1 : World} (h : Up w w1) {a b : Value} (t : TypeId) : ((w1.alloc (.cells #[a, b] t)).drew.cell? ⟨w1.heap.size, 0, none⟩ = some a ∧ (w1.alloc (.cells #[a, b] t)).drew.cell? ⟨w1.heap.size, 1, none⟩ = some b) ∧ Up w (w1.alloc (.cells #[a, b] t)).drew := by
  refine ⟨⟨?_, ?_⟩, (h.alloc _).drew⟩
  · show (w1.alloc (.cells #[a, b] t)).cell? ⟨w1.heap.size, 0, none⟩ = some a
    rw [World.cell?_alloc_at _ _ _ _ (by simp)]; rfl
  · show (w1.alloc (.cells #[a, b] t)).cell? ⟨w1.heap.size, 1, none⟩ = some b
    rw [World.cell?_alloc_at _ _ _ _ (by simp)]; rfl
set_option maxHeartbeats 4000000 in
theorem Honest_any (d a r : Int) (w : World) (hd : -9223372036854775808 ≤ d ∧ d ≤ 9223372036854775807) (ha : -9223372036854775808 ≤ a ∧ a ≤ 9223372036854775807) (hr : -9223372036854775808 ≤ r ∧ r ≤ 9223372036854775807) :
    Calls Try.prog 18 #[.int .i64 d, .int .i64 a, .int .i64 r] w fun e w' => e = .returned (.bool (TM.honest d a r)) ∧ Up w w' := by
  by_cases h1 : d < 0
  · have HF := Lib.hid (honest_not (a := a) (r := r) (.inl h1))
    go_enter Try.func18, Try.ntmps18
    go_wp2_with fail
    go_ret
    exact ⟨ret_bool HF.out, Up.refl w⟩
  by_cases h2 : a < 0
  · have HF := Lib.hid (honest_not (d := d) (r := r) (.inr (.inl h2)))
    go_enter Try.func18, Try.ntmps18
    go_wp2_with fail
    go_ret
    exact ⟨ret_bool HF.out, Up.refl w⟩
  by_cases h3 : 0 ≤ r ∧ r ≤ 999
  · have hk1 : 0 ≤ 1000 - r ∧ 1000 - r ≤ 9223372036854775807 := by omega
    have hk2 : 0 ≤ 1000 + r ∧ 1000 + r ≤ 9223372036854775807 := by omega
    have hD : 0 ≤ d ∧ d ≤ 9223372036854775807 := by omega
    have hA : 0 ≤ a ∧ a ≤ 9223372036854775807 := by omega
    obtain ⟨x1, hx1⟩ : ∃ x, d * (1000 - r) / 18446744073709551616 = x := ⟨_, rfl⟩
    obtain ⟨x2, hx2⟩ : ∃ x, d * (1000 - r) % 18446744073709551616 = x := ⟨_, rfl⟩
    obtain ⟨y1, hy1⟩ : ∃ x, a * 1000 / 18446744073709551616 = x := ⟨_, rfl⟩
    obtain ⟨y2, hy2⟩ : ∃ x, a * 1000 % 18446744073709551616 = x := ⟨_, rfl⟩
    obtain ⟨z1, hz1⟩ : ∃ x, d * (1000 + r) / 18446744073709551616 = x := ⟨_, rfl⟩
    obtain ⟨z2, hz2⟩ : ∃ x, d * (1000 + r) % 18446744073709551616 = x := ⟨_, rfl⟩
    obtain ⟨p, hp⟩ : ∃ p, decide (d * (1000 - r) ≤ a * 1000) = p := ⟨_, rfl⟩
    obtain ⟨q, hq⟩ : ∃ q, decide (a * 1000 ≤ d * (1000 + r)) = q := ⟨_, rfl⟩
    have HX := Lib.hid (times_at hD hk1 rfl hx1 hx2)
    have HY := Lib.hid (times_at hA (show (0 : Int) ≤ 1000 ∧ (1000 : Int) ≤ 9223372036854775807 by decide) rfl hy1 hy2)
    have HZ := Lib.hid (times_at hD hk2 rfl hz1 hz2)
    have HP := Lib.hid (upTo_at hx1 hx2 hy1 hy2 hp)
    have HQ := Lib.hid (upTo_at hy1 hy2 hz1 hz2 hq)
    have HH := Lib.hid (honest_when (s := p && q) hD.1 hA.1 h3 hp hq rfl)
    clear hx1 hx2 hy1 hy2 hz1 hz2 hp hq
    go_enter Try.func18, Try.ntmps18
    go_wp2_with (first
      | (go_at_call 26; refine (mayDrift_yes _ _ h3).mono ?_; rintro e w' ⟨rfl, rfl⟩)
      | (go_at_call 27; refine (HY.out _).mono ?_; rintro e w' ⟨rfl, hU⟩; have HU := Lib.hid hU; clear hU))
    have hS := held_new HU.out (a := .int .u64 y1) (b := .int .u64 y2) 58
    have HW1 := Lib.hid (show IntKind.i64.wrap (1000 - r) = 1000 - r by rw [IntKind.wrap_i64]; omega)
    have HW2 := Lib.hid (show IntKind.i64.wrap (1000 + r) = 1000 + r by rw [IntKind.wrap_i64]; omega)
    generalize w'.alloc (.cells #[.int .u64 y1, .int .u64 y2] 58) = W at *
    generalize w'.heap.size = b at *
    cases p with
    | true =>
      refine wp_region_noPanic ?_
      refine wp_region_held_drew (S := fun w2 : World => (w2.cell? ⟨b, 0, none⟩ = some (.int .u64 y1) ∧ w2.cell? ⟨b, 1, none⟩ = some (.int .u64 y2)) ∧ Up w w2) (by kernel_rfl) (hS) (fun hHeld => ?_)
      refine wpAnyH_take (i := 0) (oi := { dst := some 21, op := Op.move (Operand.tmp 0), type := 3, pos := _, after := #[], guard := none }) (v := ?_) rfl (by kernel_rfl) (by kernel_rfl) (by kernel_rfl) (fun _ _ _ h => h) (Or.inl ⟨by rfl, ?_⟩) hHeld ?_
      rotate_left
      · (intro w hSw; (try dsimp only at hSw); first | (go_simp; done) | (go_simp; with_reducible rfl))
      try simp only [Act.put, List.setIfInBounds_toArray, List.set_cons_zero, List.set_cons_succ]
      refine wpAnyH_take (i := 1) (oi := { dst := some 22, op := Op.move (Operand.tmp 2), type := 3, pos := _, after := #[], guard := none }) (v := ?_) rfl (by kernel_rfl) (by kernel_rfl) (by kernel_rfl) (fun _ _ _ h => h) (Or.inl ⟨by rfl, ?_⟩) hHeld ?_
      rotate_left
      · (intro w hSw; (try dsimp only at hSw); first | (go_simp; done) | (go_simp; with_reducible rfl))
      try simp only [Act.put, List.setIfInBounds_toArray, List.set_cons_zero, List.set_cons_succ]
      refine wpAnyH_take (i := 2) (oi := { dst := some 23, op := Op.binOp BinOp.sub 3 (Operand.const (Value.int IntKind.i64 1000)) (Operand.tmp 22) 3, type := 3, pos := _, after := #[{ on := 1, ground := Ground.data }], guard := none }) (v := ?_) rfl (by kernel_rfl) (by kernel_rfl) (by kernel_rfl) (fun _ _ _ h => h) (Or.inl ⟨by rfl, ?_⟩) hHeld ?_
      rotate_left
      · (intro w hSw; (try dsimp only at hSw); first | (go_simp; done) | (go_simp; with_reducible rfl))
      try simp only [Act.put, List.setIfInBounds_toArray, List.set_cons_zero, List.set_cons_succ]
      refine wpAnyH_take (i := 4) (oi := { dst := some 25, op := Op.load 58 (Operand.tmp 7), type := 58, pos := _, after := #[], guard := none }) (v := ?_) rfl (by kernel_rfl) (by kernel_rfl) (by kernel_rfl) (fun _ _ _ h => h) (Or.inl ⟨by rfl, ?_⟩) hHeld ?_
      rotate_left
      · (intro w hSw; (try dsimp only at hSw); first | (go_simp; done) | (go_simp; with_reducible rfl))
      try simp only [Act.put, List.setIfInBounds_toArray, List.set_cons_zero, List.set_cons_succ]
      refine wpAnyH_ready (rs := [3]) (by kernel_rfl) (by simp) (AllReadyH.cons (o := { dst := some 24, op := Op.call { callee := Callee.value (Operand.func 27), args := #[Operand.tmp 21, Operand.tmp 23], argTypes := #[3, 3] }, type := 58, pos := _, after := #[{ on := 0, ground := Ground.data }, { on := 2, ground := Ground.data }], guard := none }) rfl (fun K hK => ?_) AllReadyH.nil)
      go_simp
      rw [HW1.out]
      refine (HX.out _).mono ?_
      rintro e w2 ⟨rfl, hU⟩
      have hS2 := keep_up hS hU
      clear hS
      have hS := hS2
      clear hS2 hU
      go_simp
      refine hK.out _ _ (hS) (fun hHeld => ?_)
      clear hK K
      try simp only [Act.put, List.setIfInBounds_toArray, List.set_cons_zero, List.set_cons_succ]
      refine wpAnyH_ready (rs := [5]) (by kernel_rfl) (by simp) (AllReadyH.cons (o := { dst := some 26, op := Op.call { callee := Callee.value (Operand.func 28), args := #[Operand.tmp 24, Operand.tmp 25], argTypes := #[58, 58] }, type := 4, pos := _, after := #[{ on := 3, ground := Ground.data }, { on := 4, ground := Ground.data }, { on := 3, ground := Ground.chain }], guard := none }) rfl (fun K hK => ?_) AllReadyH.nil)
      go_simp
      refine (HP.out _).mono ?_
      rintro e w2 ⟨rfl, hU⟩
      have hS2 := keep_up hS hU
      clear hS
      have hS := hS2
      clear hS2 hU
      go_simp
      refine hK.out _ _ (hS) (fun hHeld => ?_)
      clear hK K
      try simp only [Act.put, List.setIfInBounds_toArray, List.set_cons_zero, List.set_cons_succ]
      refine wpAnyH_take (i := 6) (oi := { dst := some 27, op := Op.move (Operand.tmp 26), type := 4, pos := _, after := #[{ on := 5, ground := Ground.data }, { on := 5, ground := Ground.chain }], guard := none }) (v := ?_) rfl (by kernel_rfl) (by kernel_rfl) (by kernel_rfl) (fun _ _ _ h => h) (Or.inl ⟨by rfl, ?_⟩) hHeld ?_
      rotate_left
      · (intro w hSw; (try dsimp only at hSw); first | (go_simp; done) | (go_simp; with_reducible rfl))
      try simp only [Act.put, List.setIfInBounds_toArray, List.set_cons_zero, List.set_cons_succ]
      refine wpAnyH_take (i := 7) (oi := { dst := some 28, op := Op.load 58 (Operand.tmp 7), type := 58, pos := _, after := #[{ on := 6, ground := Ground.guard }], guard := some (6, true) }) (v := ?_) rfl (by kernel_rfl) (by kernel_rfl) (by kernel_rfl) (fun _ _ _ h => h) (Or.inl ⟨by rfl, ?_⟩) hHeld ?_
      rotate_left
      · (intro w hSw; (try dsimp only at hSw); first | (go_simp; done) | (go_simp; with_reducible rfl))
      try simp only [Act.put, List.setIfInBounds_toArray, List.set_cons_zero, List.set_cons_succ]
      refine wpAnyH_take (i := 8) (oi := { dst := some 29, op := Op.move (Operand.tmp 0), type := 3, pos := _, after := #[{ on := 6, ground := Ground.guard }], guard := some (6, true) }) (v := ?_) rfl (by kernel_rfl) (by kernel_rfl) (by kernel_rfl) (fun _ _ _ h => h) (Or.inl ⟨by rfl, ?_⟩) hHeld ?_
      rotate_left
      · (intro w hSw; (try dsimp only at hSw); first | (go_simp; done) | (go_simp; with_reducible rfl))
      try simp only [Act.put, List.setIfInBounds_toArray, List.set_cons_zero, List.set_cons_succ]
      refine wpAnyH_take (i := 9) (oi := { dst := some 30, op := Op.move (Operand.tmp 2), type := 3, pos := _, after := #[{ on := 6, ground := Ground.guard }], guard := some (6, true) }) (v := ?_) rfl (by kernel_rfl) (by kernel_rfl) (by kernel_rfl) (fun _ _ _ h => h) (Or.inl ⟨by rfl, ?_⟩) hHeld ?_
      rotate_left
      · (intro w hSw; (try dsimp only at hSw); first | (go_simp; done) | (go_simp; with_reducible rfl))
      try simp only [Act.put, List.setIfInBounds_toArray, List.set_cons_zero, List.set_cons_succ]
      refine wpAnyH_take (i := 10) (oi := { dst := some 31, op := Op.binOp BinOp.add 3 (Operand.const (Value.int IntKind.i64 1000)) (Operand.tmp 30) 3, type := 3, pos := _, after := #[{ on := 9, ground := Ground.data }, { on := 6, ground := Ground.guard }], guard := some (6, true) }) (v := ?_) rfl (by kernel_rfl) (by kernel_rfl) (by kernel_rfl) (fun _ _ _ h => h) (Or.inl ⟨by rfl, ?_⟩) hHeld ?_
      rotate_left
      · (intro w hSw; (try dsimp only at hSw); first | (go_simp; done) | (go_simp; with_reducible rfl))
      try simp only [Act.put, List.setIfInBounds_toArray, List.set_cons_zero, List.set_cons_succ]
      refine wpAnyH_ready (rs := [11]) (by kernel_rfl) (by simp) (AllReadyH.cons (o := { dst := some 32, op := Op.call { callee := Callee.value (Operand.func 27), args := #[Operand.tmp 29, Operand.tmp 31], argTypes := #[3, 3] }, type := 58, pos := _, after := #[{ on := 8, ground := Ground.data }, { on := 10, ground := Ground.data }, { on := 6, ground := Ground.chain }, { on := 6, ground := Ground.guard }], guard := some (6, true) }) rfl (fun K hK => ?_) AllReadyH.nil)
      go_simp
      rw [HW2.out]
      refine (HZ.out _).mono ?_
      rintro e w2 ⟨rfl, hU⟩
      have hS2 := keep_up hS hU
      clear hS
      have hS := hS2
      clear hS2 hU
      go_simp
      refine hK.out _ _ (hS) (fun hHeld => ?_)
      clear hK K
      try simp only [Act.put, List.setIfInBounds_toArray, List.set_cons_zero, List.set_cons_succ]
      refine wpAnyH_ready (rs := [12]) (by kernel_rfl) (by simp) (AllReadyH.cons (o := { dst := some 33, op := Op.call { callee := Callee.value (Operand.func 28), args := #[Operand.tmp 28, Operand.tmp 32], argTypes := #[58, 58] }, type := 4, pos := _, after := #[{ on := 7, ground := Ground.data }, { on := 11, ground := Ground.data }, { on := 11, ground := Ground.chain }, { on := 6, ground := Ground.guard }], guard := some (6, true) }) rfl (fun K hK => ?_) AllReadyH.nil)
      go_simp
      refine (HQ.out _).mono ?_
      rintro e w2 ⟨rfl, hU⟩
      have hS2 := keep_up hS hU
      clear hS
      have hS := hS2
      clear hS2 hU
      go_simp
      refine hK.out _ _ (hS) (fun hHeld => ?_)
      clear hK K
      try simp only [Act.put, List.setIfInBounds_toArray, List.set_cons_zero, List.set_cons_succ]
      refine wpAnyH_take (i := 13) (oi := { dst := some 34, op := Op.pick (Operand.tmp 27) (Operand.tmp 33) (Operand.const (Value.bool false)), type := 4, pos := _, after := #[{ on := 6, ground := Ground.data }, { on := 12, ground := Ground.data }], guard := none }) (v := ?_) rfl (by kernel_rfl) (by kernel_rfl) (by kernel_rfl) (fun _ _ _ h => h) (Or.inl ⟨by rfl, ?_⟩) hHeld ?_
      rotate_left
      · (intro w hSw; (try dsimp only at hSw); first | (go_simp; done) | (go_simp; with_reducible rfl))
      try simp only [Act.put, List.setIfInBounds_toArray, List.set_cons_zero, List.set_cons_succ]
      refine wpAnyH_take (i := 14) (oi := { dst := some 6, op := Op.assign (Operand.tmp 34), type := 4, pos := _, after := #[{ on := 13, ground := Ground.data }, { on := 12, ground := Ground.chain }, { on := 0, ground := Ground.phase }, { on := 1, ground := Ground.phase }, { on := 2, ground := Ground.phase }, { on := 3, ground := Ground.phase }, { on := 4, ground := Ground.phase }, { on := 5, ground := Ground.phase }, { on := 6, ground := Ground.phase }, { on := 7, ground := Ground.phase }, { on := 8, ground := Ground.phase }, { on := 9, ground := Ground.phase }, { on := 10, ground := Ground.phase }, { on := 11, ground := Ground.phase }, { on := 12, ground := Ground.phase }, { on := 13, ground := Ground.phase }], guard := none }) (v := ?_) rfl (by kernel_rfl) (by kernel_rfl) (by kernel_rfl) (fun _ _ _ h => h) (Or.inl ⟨by rfl, ?_⟩) hHeld ?_
      rotate_left
      · (intro w hSw; (try dsimp only at hSw); first | (go_simp; done) | (go_simp; with_reducible rfl))
      try simp only [Act.put, List.setIfInBounds_toArray, List.set_cons_zero, List.set_cons_succ]
      refine wpAnyH_done (by kernel_rfl) ?_ _
      refine NoPanic.normal ?_
      go_wp2_with fail
      go_ret
      exact ⟨ret_bool HH.out, hS.2⟩
    | false =>
      refine wp_region_noPanic ?_
      refine wp_region_held_drew (S := fun w2 : World => (w2.cell? ⟨b, 0, none⟩ = some (.int .u64 y1) ∧ w2.cell? ⟨b, 1, none⟩ = some (.int .u64 y2)) ∧ Up w w2) (by kernel_rfl) (hS) (fun hHeld => ?_)
      refine wpAnyH_take (i := 0) (oi := { dst := some 21, op := Op.move (Operand.tmp 0), type := 3, pos := _, after := #[], guard := none }) (v := ?_) rfl (by kernel_rfl) (by kernel_rfl) (by kernel_rfl) (fun _ _ _ h => h) (Or.inl ⟨by rfl, ?_⟩) hHeld ?_
      rotate_left
      · (intro w hSw; (try dsimp only at hSw); first | (go_simp; done) | (go_simp; with_reducible rfl))
      try simp only [Act.put, List.setIfInBounds_toArray, List.set_cons_zero, List.set_cons_succ]
      refine wpAnyH_take (i := 1) (oi := { dst := some 22, op := Op.move (Operand.tmp 2), type := 3, pos := _, after := #[], guard := none }) (v := ?_) rfl (by kernel_rfl) (by kernel_rfl) (by kernel_rfl) (fun _ _ _ h => h) (Or.inl ⟨by rfl, ?_⟩) hHeld ?_
      rotate_left
      · (intro w hSw; (try dsimp only at hSw); first | (go_simp; done) | (go_simp; with_reducible rfl))
      try simp only [Act.put, List.setIfInBounds_toArray, List.set_cons_zero, List.set_cons_succ]
      refine wpAnyH_take (i := 2) (oi := { dst := some 23, op := Op.binOp BinOp.sub 3 (Operand.const (Value.int IntKind.i64 1000)) (Operand.tmp 22) 3, type := 3, pos := _, after := #[{ on := 1, ground := Ground.data }], guard := none }) (v := ?_) rfl (by kernel_rfl) (by kernel_rfl) (by kernel_rfl) (fun _ _ _ h => h) (Or.inl ⟨by rfl, ?_⟩) hHeld ?_
      rotate_left
      · (intro w hSw; (try dsimp only at hSw); first | (go_simp; done) | (go_simp; with_reducible rfl))
      try simp only [Act.put, List.setIfInBounds_toArray, List.set_cons_zero, List.set_cons_succ]
      refine wpAnyH_take (i := 4) (oi := { dst := some 25, op := Op.load 58 (Operand.tmp 7), type := 58, pos := _, after := #[], guard := none }) (v := ?_) rfl (by kernel_rfl) (by kernel_rfl) (by kernel_rfl) (fun _ _ _ h => h) (Or.inl ⟨by rfl, ?_⟩) hHeld ?_
      rotate_left
      · (intro w hSw; (try dsimp only at hSw); first | (go_simp; done) | (go_simp; with_reducible rfl))
      try simp only [Act.put, List.setIfInBounds_toArray, List.set_cons_zero, List.set_cons_succ]
      refine wpAnyH_ready (rs := [3]) (by kernel_rfl) (by simp) (AllReadyH.cons (o := { dst := some 24, op := Op.call { callee := Callee.value (Operand.func 27), args := #[Operand.tmp 21, Operand.tmp 23], argTypes := #[3, 3] }, type := 58, pos := _, after := #[{ on := 0, ground := Ground.data }, { on := 2, ground := Ground.data }], guard := none }) rfl (fun K hK => ?_) AllReadyH.nil)
      go_simp
      rw [HW1.out]
      refine (HX.out _).mono ?_
      rintro e w2 ⟨rfl, hU⟩
      have hS2 := keep_up hS hU
      clear hS
      have hS := hS2
      clear hS2 hU
      go_simp
      refine hK.out _ _ (hS) (fun hHeld => ?_)
      clear hK K
      try simp only [Act.put, List.setIfInBounds_toArray, List.set_cons_zero, List.set_cons_succ]
      refine wpAnyH_ready (rs := [5]) (by kernel_rfl) (by simp) (AllReadyH.cons (o := { dst := some 26, op := Op.call { callee := Callee.value (Operand.func 28), args := #[Operand.tmp 24, Operand.tmp 25], argTypes := #[58, 58] }, type := 4, pos := _, after := #[{ on := 3, ground := Ground.data }, { on := 4, ground := Ground.data }, { on := 3, ground := Ground.chain }], guard := none }) rfl (fun K hK => ?_) AllReadyH.nil)
      go_simp
      refine (HP.out _).mono ?_
      rintro e w2 ⟨rfl, hU⟩
      have hS2 := keep_up hS hU
      clear hS
      have hS := hS2
      clear hS2 hU
      go_simp
      refine hK.out _ _ (hS) (fun hHeld => ?_)
      clear hK K
      try simp only [Act.put, List.setIfInBounds_toArray, List.set_cons_zero, List.set_cons_succ]
      refine wpAnyH_take (i := 6) (oi := { dst := some 27, op := Op.move (Operand.tmp 26), type := 4, pos := _, after := #[{ on := 5, ground := Ground.data }, { on := 5, ground := Ground.chain }], guard := none }) (v := ?_) rfl (by kernel_rfl) (by kernel_rfl) (by kernel_rfl) (fun _ _ _ h => h) (Or.inl ⟨by rfl, ?_⟩) hHeld ?_
      rotate_left
      · (intro w hSw; (try dsimp only at hSw); first | (go_simp; done) | (go_simp; with_reducible rfl))
      try simp only [Act.put, List.setIfInBounds_toArray, List.set_cons_zero, List.set_cons_succ]
      refine wpAnyH_take (i := 7) (oi := { dst := some 28, op := Op.load 58 (Operand.tmp 7), type := 58, pos := _, after := #[{ on := 6, ground := Ground.guard }], guard := some (6, true) }) (v := undef) rfl (by kernel_rfl) (by kernel_rfl) (by kernel_rfl) (fun _ _ _ h => h) (Or.inr ⟨by rfl, rfl⟩) hHeld ?_
      try simp only [Act.put, List.setIfInBounds_toArray, List.set_cons_zero, List.set_cons_succ]
      refine wpAnyH_take (i := 8) (oi := { dst := some 29, op := Op.move (Operand.tmp 0), type := 3, pos := _, after := #[{ on := 6, ground := Ground.guard }], guard := some (6, true) }) (v := undef) rfl (by kernel_rfl) (by kernel_rfl) (by kernel_rfl) (fun _ _ _ h => h) (Or.inr ⟨by rfl, rfl⟩) hHeld ?_
      try simp only [Act.put, List.setIfInBounds_toArray, List.set_cons_zero, List.set_cons_succ]
      refine wpAnyH_take (i := 9) (oi := { dst := some 30, op := Op.move (Operand.tmp 2), type := 3, pos := _, after := #[{ on := 6, ground := Ground.guard }], guard := some (6, true) }) (v := undef) rfl (by kernel_rfl) (by kernel_rfl) (by kernel_rfl) (fun _ _ _ h => h) (Or.inr ⟨by rfl, rfl⟩) hHeld ?_
      try simp only [Act.put, List.setIfInBounds_toArray, List.set_cons_zero, List.set_cons_succ]
      refine wpAnyH_take (i := 10) (oi := { dst := some 31, op := Op.binOp BinOp.add 3 (Operand.const (Value.int IntKind.i64 1000)) (Operand.tmp 30) 3, type := 3, pos := _, after := #[{ on := 9, ground := Ground.data }, { on := 6, ground := Ground.guard }], guard := some (6, true) }) (v := undef) rfl (by kernel_rfl) (by kernel_rfl) (by kernel_rfl) (fun _ _ _ h => h) (Or.inr ⟨by rfl, rfl⟩) hHeld ?_
      try simp only [Act.put, List.setIfInBounds_toArray, List.set_cons_zero, List.set_cons_succ]
      refine wpAnyH_take (i := 11) (oi := { dst := some 32, op := Op.call { callee := Callee.value (Operand.func 27), args := #[Operand.tmp 29, Operand.tmp 31], argTypes := #[3, 3] }, type := 58, pos := _, after := #[{ on := 8, ground := Ground.data }, { on := 10, ground := Ground.data }, { on := 6, ground := Ground.chain }, { on := 6, ground := Ground.guard }], guard := some (6, true) }) (v := undef) rfl (by kernel_rfl) (by kernel_rfl) (by kernel_rfl) (fun _ _ _ h => h) (Or.inr ⟨by rfl, rfl⟩) hHeld ?_
      try simp only [Act.put, List.setIfInBounds_toArray, List.set_cons_zero, List.set_cons_succ]
      refine wpAnyH_take (i := 12) (oi := { dst := some 33, op := Op.call { callee := Callee.value (Operand.func 28), args := #[Operand.tmp 28, Operand.tmp 32], argTypes := #[58, 58] }, type := 4, pos := _, after := #[{ on := 7, ground := Ground.data }, { on := 11, ground := Ground.data }, { on := 11, ground := Ground.chain }, { on := 6, ground := Ground.guard }], guard := some (6, true) }) (v := undef) rfl (by kernel_rfl) (by kernel_rfl) (by kernel_rfl) (fun _ _ _ h => h) (Or.inr ⟨by rfl, rfl⟩) hHeld ?_
      try simp only [Act.put, List.setIfInBounds_toArray, List.set_cons_zero, List.set_cons_succ]
      refine wpAnyH_take (i := 13) (oi := { dst := some 34, op := Op.pick (Operand.tmp 27) (Operand.tmp 33) (Operand.const (Value.bool false)), type := 4, pos := _, after := #[{ on := 6, ground := Ground.data }, { on := 12, ground := Ground.data }], guard := none }) (v := ?_) rfl (by kernel_rfl) (by kernel_rfl) (by kernel_rfl) (fun _ _ _ h => h) (Or.inl ⟨by rfl, ?_⟩) hHeld ?_
      rotate_left
      · (intro w hSw; (try dsimp only at hSw); first | (go_simp; done) | (go_simp; with_reducible rfl))
      try simp only [Act.put, List.setIfInBounds_toArray, List.set_cons_zero, List.set_cons_succ]
      refine wpAnyH_take (i := 14) (oi := { dst := some 6, op := Op.assign (Operand.tmp 34), type := 4, pos := _, after := #[{ on := 13, ground := Ground.data }, { on := 12, ground := Ground.chain }, { on := 0, ground := Ground.phase }, { on := 1, ground := Ground.phase }, { on := 2, ground := Ground.phase }, { on := 3, ground := Ground.phase }, { on := 4, ground := Ground.phase }, { on := 5, ground := Ground.phase }, { on := 6, ground := Ground.phase }, { on := 7, ground := Ground.phase }, { on := 8, ground := Ground.phase }, { on := 9, ground := Ground.phase }, { on := 10, ground := Ground.phase }, { on := 11, ground := Ground.phase }, { on := 12, ground := Ground.phase }, { on := 13, ground := Ground.phase }], guard := none }) (v := ?_) rfl (by kernel_rfl) (by kernel_rfl) (by kernel_rfl) (fun _ _ _ h => h) (Or.inl ⟨by rfl, ?_⟩) hHeld ?_
      rotate_left
      · (intro w hSw; (try dsimp only at hSw); first | (go_simp; done) | (go_simp; with_reducible rfl))
      try simp only [Act.put, List.setIfInBounds_toArray, List.set_cons_zero, List.set_cons_succ]
      refine wpAnyH_done (by kernel_rfl) ?_ _
      refine NoPanic.normal ?_
      go_wp2_with fail
      go_ret
      exact ⟨ret_bool HH.out, hS.2⟩
  · have HF := Lib.hid (honest_not (d := d) (a := a) (.inr (.inr h3)))
    go_enter Try.func18, Try.ntmps18
    go_wp2_with (go_at_call 26; refine (mayDrift_no _ _ (by assumption) h3).mono ?_; rintro e w' ⟨rfl, rfl⟩)
    go_ret
    exact ⟨ret_bool HF.out, Up.refl w⟩
end Go.Proofs.Ytbcpphckjfbkbaa.Tm
