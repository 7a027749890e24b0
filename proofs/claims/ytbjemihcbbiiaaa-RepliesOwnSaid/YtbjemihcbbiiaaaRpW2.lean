/- The package's copy of a message; whether a Reply answers a request. -/
import Derived.Test.YtbjemihcbbiiaaaRpA
import Derived.Test.YtbjemihcbbiiaaaWireV1
import Derived.Test.YtbjemihcbbiiaaaWireV2
namespace Go.Proofs.Ytbjemihcbbiiaaa
open Go.RowKit
open RP (Kp St)
open WM (Msg)
set_option linter.unusedVariables false
set_option linter.unusedSimpArgs false
set_option maxRecDepth 100000
/-- All numbers of a list that lies anywhere, put behind none. -/
theorem app_nil {w : World} {ops : Array Oper} {rest : List Oper} {o : Oper} {a : Act} {Q : Exit → Act → World → Prop} (hgd : o.guard = none) (s x : Operand)
    (ho : o.op = .call { callee := .builtin .append, args := #[s, x], argTypes := #[30, 30] })
    (A : Option Addr) (c n : Nat) (l : List Int) (hn : n = l.length) (hB : IntsAt w A l) (hs : a.eval s = .slice none 0 0) (hx : a.eval x = .slice A n c) (hl : l.length * 8 ≤ 140737488355328)
    (h : ∀ A' n' c' w2, Made w l A' n' c' w2 → wpList Try.prog ops Q rest (a.put o.dst (.slice A' n' c')) w2) : wpList Try.prog ops Q (o :: rest) a w := by
  subst hn
  obtain ⟨i0, hi, hz0, hz1, hz2⟩ := info_parts info_int
  cases A with
  | some ad =>
    refine wpList_append_own_at _ hgd s x 30 ho w.heap.size 3 i0 (.int .i64 0) 1 8 Try.underlying30 hi hz0 hz1 hz2 rfl (by decide) (.slice none 0 0) 0 [] hs (World.ownsRow_nil _ _ _ _) ad l.length c (i64s l) hx (by rw [i64s_len, Nat.mul_one]) hB.cells one_i64 (by unfold maxLen; omega) (by omega) (Nat.le_refl _) ?_
    intro v' w2 hown hgrow _ _
    rw [Nat.zero_add, List.nil_append] at hown
    obtain ⟨A', c', rfl, k1, k2⟩ := own_shape hown
    exact h A' _ c' w2 ⟨Lib.hid rfl, Lib.hid (IntsAt.own hown), Lib.hid hown, Lib.hid ((Below.refl _ w).grown hgrow (Nat.le_refl _) (fun k hk => by cases hk)), k1, k2⟩
  | none =>
    have h0 : l = [] := by
      cases l with
      | nil => rfl
      | cons y r =>
        obtain ⟨b, o, e, _⟩ := hB (by simp)
        cases e
    subst h0
    refine wpList_plain hgd fun K hK => ?_
    have hrun : (Builtin.append_ #[30, 30] o.type #[.slice none 0 0, .slice none ([] : List Int).length c]).run Try.prog w = .ok (.slice none 0 0) w := by
      simp [Builtin.append_, run_underlying Try.underlying30, sizeOf, typeInfo, hi, Builtin.lenOf, Builtin.firstCells, storeCells]
    unfold Oper.wp execOp
    simp only [ho, resolve, invoke, builtin, Sem.run_bind, Sem.run_pure, Result.andThen_ok, List.map_toArray, List.map_cons, List.map_nil, hs, hx, hrun]
    exact hK _ _ (h none 0 0 w ⟨Lib.hid rfl, Lib.hid (IntsAt.nil _ _), Lib.hid (World.ownsRow_nil _ _ _ _), Lib.hid (Below.refl _ _), Nat.le_refl _, by omega⟩)
/-- A message with a list of its own. -/
def CpPost (w : World) (m : Msg) (e : Ending) (w' : World) : Prop :=
  ∃ A c, e = .returned (.agg (cellsM m (.slice A m.stamp.length c))) ∧ Hid (Fit w' A c m) ∧ Hid (w'.ownsRow w.heap.size 3 1 (.slice A m.stamp.length c) m.stamp.length (i64s m.stamp)) ∧ Hid (Below w.heap.size w w')
theorem own_fresh {w w' : World} {n : Nat} {A : Option Addr} {c : Nat} {xs : List Value} (h : w'.ownsRow w.heap.size 3 1 (.slice A n c) n xs) : ∀ ad, A = some ad → w.heap.size ≤ ad.block := by
  intro ad e
  subst e
  rcases h.2 with ⟨h, _⟩ | ⟨g, cap, cur, h, hb, _⟩
  · cases h
  · injection h with h1 _ _
    injection h1 with h1
    subst h1
    exact hb
theorem own_intB {w : World} {base n : Nat} {A : Option Addr} {c : Nat} {xs : List Value} (h : w.ownsRow base 3 1 (.slice A n c) n xs) : ∀ ad, A = some ad → IntB w ad.block := by
  intro ad e
  rcases h.2 with ⟨h0, _⟩ | ⟨g, cap, cur, hv, _, hh, _⟩
  · injection h0 with h0; rw [h0] at e; cases e
  · injection hv with hA
    rw [hA] at e
    cases e
    exact ⟨cur, hh⟩
theorem own_lt {w : World} {base n : Nat} {A : Option Addr} {c : Nat} {xs : List Value} (h : w.ownsRow base 3 1 (.slice A n c) n xs) : ∀ ad, A = some ad → ad.block < w.heap.size := by
  intro ad e
  subst e
  exact (h.lt ad.block rfl).2
theorem own_lows {w : World} {b1 b2 : Nat} {e : TypeId} {z n : Nat} {v : Value} {xs : List Value} (h : w.ownsRow b1 e z v n xs) (hb : b2 ≤ b1) : w.ownsRow b2 e z v n xs := by
  refine ⟨h.1, ?_⟩
  rcases h.2 with h2 | ⟨g, cap, cur, hv, hg, h2⟩
  · exact .inl h2
  · exact .inr ⟨g, cap, cur, hv, Nat.le_trans hb hg, h2⟩
theorem msg_there {w : World} {g : Nat} {m : Msg} {sv : Value} (h : MsgBlk w g m sv) : w.there g 0 16 := fun j hj => by
  rw [Nat.zero_add]
  refine ⟨?_, h.frozen j⟩
  rw [h.cell, Array.getElem?_eq_getElem (by show j < 16; exact hj)]
  rfl
set_option maxHeartbeats 4000000 in
theorem copied_any (A : Option Addr) (c : Nat) (m : Msg) (w : World) (h : Fit w A c m) (hl : m.stamp.length * 8 ≤ 140737488355328) :
    Calls Try.prog 23 #[.agg (cellsM m (.slice A m.stamp.length c))] w (CpPost w m) := by
  have HX := Lib.hid (((Below.refl w.heap.size w).alloc (Nat.le_refl _) (.cells (cellsM m (.slice A m.stamp.length c)) 32)).alloc (by simp) (.cells (cellsM WM.zero (.slice none 0 0)) 32))
  have HF := Lib.hid (h.below HX.out)
  have HK := Lib.hid ((Whole.new w 32 (cellsM m (.slice A m.stamp.length c))).alloc (.cells (cellsM WM.zero (.slice none 0 0)) 32))
  have HZ := Lib.hid (show MsgBlk ((w.alloc (.cells (cellsM m (.slice A m.stamp.length c)) 32)).alloc (.cells (cellsM WM.zero (.slice none 0 0)) 32)) (w.heap.size + 1) WM.zero (.slice none 0 0) from by have h := Whole.new (w.alloc (.cells (cellsM m (.slice A m.stamp.length c)) 32)) 32 (cellsM WM.zero (.slice none 0 0)); have e : (w.alloc (.cells (cellsM m (.slice A m.stamp.length c)) 32)).heap.size = w.heap.size + 1 := (by simp); rw [e] at h; exact h)
  have HS := Lib.hid (show ((w.alloc (.cells (cellsM m (.slice A m.stamp.length c)) 32)).alloc (.cells (cellsM WM.zero (.slice none 0 0)) 32)).heap.size = w.heap.size + 2 by simp)
  clear h
  have c13 : ((w.alloc (.cells (cellsM m (.slice A m.stamp.length c)) 32)).alloc (.cells (cellsM WM.zero (.slice none 0 0)) 32)).cell? ⟨w.heap.size, 13, none⟩ = some (.slice A m.stamp.length c) := HK.out.cell 13
  have hz := fun w : World => Try.zeroValue32 w
  rw [show (Value.agg #[.int .i64 0, .int .i64 0, .int .i64 0, .int .i64 0, .int .i64 0, .int .i64 0, .int .i64 0, .string ⟨#[]⟩, .int .i64 0, .int .i64 0, .int .i64 0, .bool false, .int .i64 0, .slice none 0 0, .int .i64 0, .int .i64 0]) = .agg (cellsM WM.zero (.slice none 0 0)) from rfl] at hz
  go_enter Try.func23, Try.ntmps23
  go_wp2_with (
    at_builtin
    refine app_nil rfl (.const (.slice none 0 0)) (.tmp 4) rfl A c m.stamp.length m.stamp rfl HF.out.ints rfl rfl hl ?_
    intro A' n' c' w1 hm
    have HM := Lib.hid hm
    have en := hm.1.out
    clear hm c13
    subst en
    have HB1 := Lib.hid HM.out.2.2.2.1.out
    have HK1 := Lib.hid (blk_below HK.out HB1.out)
    have HZ1 := Lib.hid (blk_below HZ.out HB1.out)
    have c0 : w1.cell? ⟨w.heap.size, 0, none⟩ = some (.int .i64 m.kind) := HK1.out.cell 0
    have c1 : w1.cell? ⟨w.heap.size, 1, none⟩ = some (.int .i64 m.frm) := HK1.out.cell 1
    have c2 : w1.cell? ⟨w.heap.size, 2, none⟩ = some (.int .i64 m.dst) := HK1.out.cell 2
    have c3 : w1.cell? ⟨w.heap.size, 3, none⟩ = some (.int .i64 m.boot) := HK1.out.cell 3
    have c4 : w1.cell? ⟨w.heap.size, 4, none⟩ = some (.int .i64 m.seq) := HK1.out.cell 4
    have c5 : w1.cell? ⟨w.heap.size, 5, none⟩ = some (.int .i64 m.low) := HK1.out.cell 5
    have c6 : w1.cell? ⟨w.heap.size, 6, none⟩ = some (.int .i64 m.verb) := HK1.out.cell 6
    have c7 : w1.cell? ⟨w.heap.size, 7, none⟩ = some (.string m.path) := HK1.out.cell 7
    have c8 : w1.cell? ⟨w.heap.size, 8, none⟩ = some (.int .i64 m.mode) := HK1.out.cell 8
    have c9 : w1.cell? ⟨w.heap.size, 9, none⟩ = some (.int .i64 m.term) := HK1.out.cell 9
    have c10 : w1.cell? ⟨w.heap.size, 10, none⟩ = some (.int .i64 m.id) := HK1.out.cell 10
    have c11 : w1.cell? ⟨w.heap.size, 11, none⟩ = some (.bool m.fresh) := HK1.out.cell 11
    have c12 : w1.cell? ⟨w.heap.size, 12, none⟩ = some (.int .i64 m.code) := HK1.out.cell 12
    have c13 : w1.cell? ⟨w.heap.size, 13, none⟩ = some (.slice A m.stamp.length c) := HK1.out.cell 13
    have c14 : w1.cell? ⟨w.heap.size, 14, none⟩ = some (.int .i64 m.origin) := HK1.out.cell 14
    have c15 : w1.cell? ⟨w.heap.size, 15, none⟩ = some (.int .i64 m.number) := HK1.out.cell 15
    have f13 := HK1.out.frozen 13
    have z0 : w1.cell? ⟨w.heap.size + 1, 0, none⟩ = some (.int .i64 0) := HZ1.out.cell 0
    have z1 : w1.cell? ⟨w.heap.size + 1, 1, none⟩ = some (.int .i64 0) := HZ1.out.cell 1
    have z2 : w1.cell? ⟨w.heap.size + 1, 2, none⟩ = some (.int .i64 0) := HZ1.out.cell 2
    have z3 : w1.cell? ⟨w.heap.size + 1, 3, none⟩ = some (.int .i64 0) := HZ1.out.cell 3
    have z4 : w1.cell? ⟨w.heap.size + 1, 4, none⟩ = some (.int .i64 0) := HZ1.out.cell 4
    have z5 : w1.cell? ⟨w.heap.size + 1, 5, none⟩ = some (.int .i64 0) := HZ1.out.cell 5
    have z6 : w1.cell? ⟨w.heap.size + 1, 6, none⟩ = some (.int .i64 0) := HZ1.out.cell 6
    have z7 : w1.cell? ⟨w.heap.size + 1, 7, none⟩ = some (.string ⟨#[]⟩) := HZ1.out.cell 7
    have z8 : w1.cell? ⟨w.heap.size + 1, 8, none⟩ = some (.int .i64 0) := HZ1.out.cell 8
    have z9 : w1.cell? ⟨w.heap.size + 1, 9, none⟩ = some (.int .i64 0) := HZ1.out.cell 9
    have z10 : w1.cell? ⟨w.heap.size + 1, 10, none⟩ = some (.int .i64 0) := HZ1.out.cell 10
    have z11 : w1.cell? ⟨w.heap.size + 1, 11, none⟩ = some (.bool false) := HZ1.out.cell 11
    have z12 : w1.cell? ⟨w.heap.size + 1, 12, none⟩ = some (.int .i64 0) := HZ1.out.cell 12
    have z13 : w1.cell? ⟨w.heap.size + 1, 13, none⟩ = some (.slice none 0 0) := HZ1.out.cell 13
    have z14 : w1.cell? ⟨w.heap.size + 1, 14, none⟩ = some (.int .i64 0) := HZ1.out.cell 14
    have z15 : w1.cell? ⟨w.heap.size + 1, 15, none⟩ = some (.int .i64 0) := HZ1.out.cell 15
    have g0 := HZ1.out.frozen 0
    have g1 := HZ1.out.frozen 1
    have g2 := HZ1.out.frozen 2
    have g3 := HZ1.out.frozen 3
    have g4 := HZ1.out.frozen 4
    have g5 := HZ1.out.frozen 5
    have g6 := HZ1.out.frozen 6
    have g7 := HZ1.out.frozen 7
    have g8 := HZ1.out.frozen 8
    have g9 := HZ1.out.frozen 9
    have g10 := HZ1.out.frozen 10
    have g11 := HZ1.out.frozen 11
    have g12 := HZ1.out.frozen 12
    have g13 := HZ1.out.frozen 13
    have g14 := HZ1.out.frozen 14
    have g15 := HZ1.out.frozen 15)
  go_wp2_with fail
  refine bodyPost_ret (v := .agg (cellsM m (.slice A' m.stamp.length c'))) (by simp [results, Try.results23, go_sem, z0, z1, z2, z3, z4, z5, z6, z7, z8, z9, z10, z11, z12, z13, z14, z15, cellsM]) rfl ?_
  have hB3 : Mod [w.heap.size, w.heap.size + 1] w1 _ := (((((((((((((((((Mod.refl [w.heap.size, w.heap.size + 1] w1).store (p := ⟨w.heap.size, 13, none⟩) (.inl (by simp)) (.slice A' m.stamp.length c')).store (p := ⟨w.heap.size + 1, 0, none⟩) (.inl (by simp)) (.int .i64 m.kind)).store (p := ⟨w.heap.size + 1, 1, none⟩) (.inl (by simp)) (.int .i64 m.frm)).store (p := ⟨w.heap.size + 1, 2, none⟩) (.inl (by simp)) (.int .i64 m.dst)).store (p := ⟨w.heap.size + 1, 3, none⟩) (.inl (by simp)) (.int .i64 m.boot)).store (p := ⟨w.heap.size + 1, 4, none⟩) (.inl (by simp)) (.int .i64 m.seq)).store (p := ⟨w.heap.size + 1, 5, none⟩) (.inl (by simp)) (.int .i64 m.low)).store (p := ⟨w.heap.size + 1, 6, none⟩) (.inl (by simp)) (.int .i64 m.verb)).store (p := ⟨w.heap.size + 1, 7, none⟩) (.inl (by simp)) (.string m.path)).store (p := ⟨w.heap.size + 1, 8, none⟩) (.inl (by simp)) (.int .i64 m.mode)).store (p := ⟨w.heap.size + 1, 9, none⟩) (.inl (by simp)) (.int .i64 m.term)).store (p := ⟨w.heap.size + 1, 10, none⟩) (.inl (by simp)) (.int .i64 m.id)).store (p := ⟨w.heap.size + 1, 11, none⟩) (.inl (by simp)) (.bool m.fresh)).store (p := ⟨w.heap.size + 1, 12, none⟩) (.inl (by simp)) (.int .i64 m.code)).store (p := ⟨w.heap.size + 1, 13, none⟩) (.inl (by simp)) (.slice A' m.stamp.length c')).store (p := ⟨w.heap.size + 1, 14, none⟩) (.inl (by simp)) (.int .i64 m.origin)).store (p := ⟨w.heap.size + 1, 15, none⟩) (.inl (by simp)) (.int .i64 m.number)
  have hso := hB3.own HM.out.2.2.1.out (fun k hk e => by have h1 := (HM.out.2.2.1.out.lt k hk).1; have := HS.out; simp at e; omega)
  have hBel := (below_on HX.out HB1.out).trans (hB3.below (Nat.le_trans HX.out.size HB1.out.size) (by simp))
  exact ⟨A', c', rfl, Lib.hid ⟨HF.out.wide, IntsAt.own hso, own_lt hso, HM.out.2.2.2.2.1, HM.out.2.2.2.2.2⟩, Lib.hid (own_lows hso (by have := HS.out; omega)), Lib.hid hBel⟩
theorem reply_stamp {m : Msg} (h : WM.valid m = true) (hk : m.kind = 2) : m.stamp.length ≤ 4 := by
  unfold WM.valid at h
  simp only [Bool.and_eq_true, decide_eq_true_eq] at h
  obtain ⟨hm, hu⟩ := h
  by_cases hc : m.code = 0
  · unfold WM.may WM.mayPart WM.mayReply at hm
    simp only [hk, hc, Bool.and_eq_true] at hm
    simp at hm
    have hg := hm.2.2.2.2
    unfold WM.give at hg
    split at hg
    · rename_i e
      rw [e]
      simp
    · simp only [Bool.and_eq_true] at hg
      exact (WM.valid_rng hg.2).1
  · have e := congrArg WM.Msg.stamp hu
    unfold WM.used at e
    simp only [hk] at e
    simp [hc, WM.zero] at e
    simp [e]
theorem valid_stamp {m : Msg} (h : WM.valid m = true) (hk : m.kind = 2) : m.stamp.length * 8 ≤ 140737488355328 := by have := reply_stamp h hk; omega
set_option maxHeartbeats 4000000 in
theorem answers_any (A B : Option Addr) (c d : Nat) (a m : Msg) (w : World) (h : Fit w A c a) :
    Calls Try.prog 22 #[.agg (cellsM a (.slice A a.stamp.length c)), .agg (cellsM m (.slice B m.stamp.length d))] w fun e w' => e = .returned (.bool (RP.fits a m)) ∧ Below w.heap.size w w' := by
  have HX := Lib.hid (((Below.refl w.heap.size w).alloc (Nat.le_refl _) (.cells (cellsM a (.slice A a.stamp.length c)) 32)).alloc (by simp) (.cells (cellsM m (.slice B m.stamp.length d)) 32))
  have HF := Lib.hid (h.below HX.out)
  have HK := Lib.hid ((Whole.new w 32 (cellsM a (.slice A a.stamp.length c))).alloc (.cells (cellsM m (.slice B m.stamp.length d)) 32))
  have HZ := Lib.hid (show MsgBlk ((w.alloc (.cells (cellsM a (.slice A a.stamp.length c)) 32)).alloc (.cells (cellsM m (.slice B m.stamp.length d)) 32)) (w.heap.size + 1) m (.slice B m.stamp.length d) from by have h := Whole.new (w.alloc (.cells (cellsM a (.slice A a.stamp.length c)) 32)) 32 (cellsM m (.slice B m.stamp.length d)); have e : (w.alloc (.cells (cellsM a (.slice A a.stamp.length c)) 32)).heap.size = w.heap.size + 1 := (by simp); rw [e] at h; exact h)
  clear h
  have HE := Lib.hid (show RP.fits a m = (decide (a.kind = 2) && (WM.valid a && (decide (a.frm = m.dst) && (decide (a.dst = m.frm) && (decide (a.boot = m.boot) && decide (a.seq = m.seq)))))) from rfl)
  rw [HE.out]
  by_cases hk : a.kind = 2
  · have HKk := Lib.hid hk
    have hd : (a.kind == 2) = true := by rw [hk]; rfl
    clear hk
    obtain ⟨c0, c1, c2, c3, c4, c5, c6, c7, c8, c9, c10, c11, c12, c13, c14, c15⟩ := msg_cells HK.out
    go_enter Try.func22, Try.ntmps22
    go_wp2_with (
      go_at_call 21
      refine (WValid_reply A c a _ HF.out HKk.out).mono ?_
      rintro e w5 ⟨rfl, hb⟩
      have HX5 := Lib.hid (below_on HX.out hb)
      have HK5 := Lib.hid (blk_below HK.out hb)
      have HZ5 := Lib.hid (blk_below HZ.out hb)
      clear hb c0 c1 c2 c3 c4 c5 c6 c7 c8 c9 c10 c11 c12 c13 c14 c15 HX HF HK HZ HE
      have c1 : w5.cell? ⟨w.heap.size, 1, none⟩ = some (.int .i64 a.frm) := HK5.out.cell 1
      have c2 : w5.cell? ⟨w.heap.size, 2, none⟩ = some (.int .i64 a.dst) := HK5.out.cell 2
      have c3 : w5.cell? ⟨w.heap.size, 3, none⟩ = some (.int .i64 a.boot) := HK5.out.cell 3
      have c4 : w5.cell? ⟨w.heap.size, 4, none⟩ = some (.int .i64 a.seq) := HK5.out.cell 4
      have d1 : w5.cell? ⟨w.heap.size + 1, 1, none⟩ = some (.int .i64 m.frm) := HZ5.out.cell 1
      have d2 : w5.cell? ⟨w.heap.size + 1, 2, none⟩ = some (.int .i64 m.dst) := HZ5.out.cell 2
      have d3 : w5.cell? ⟨w.heap.size + 1, 3, none⟩ = some (.int .i64 m.boot) := HZ5.out.cell 3
      have d4 : w5.cell? ⟨w.heap.size + 1, 4, none⟩ = some (.int .i64 m.seq) := HZ5.out.cell 4
      clear HK5 HZ5
      cases hv : WM.valid a
      · go_wp2_with fail
        go_ret
        exact ⟨ret_bool (by simp [HKk.out, hv]), HX5.out⟩
      · by_cases h1 : a.frm = m.dst
        · by_cases h2 : a.dst = m.frm
          · by_cases h3 : a.boot = m.boot
            · by_cases h4 : a.seq = m.seq
              all_goals
                go_wp2_with fail
                go_ret
                exact ⟨ret_bool (by simp [HKk.out, hv, h1, h2, h3, h4]), HX5.out⟩
            · go_wp2_with fail
              go_ret
              exact ⟨ret_bool (by simp [HKk.out, hv, h1, h2, h3]), HX5.out⟩
          · go_wp2_with fail
            go_ret
            exact ⟨ret_bool (by simp [HKk.out, hv, h1, h2]), HX5.out⟩
        · go_wp2_with fail
          go_ret
          exact ⟨ret_bool (by simp [HKk.out, hv, h1]), HX5.out⟩)
  · obtain ⟨c0, c1, c2, c3, c4, c5, c6, c7, c8, c9, c10, c11, c12, c13, c14, c15⟩ := msg_cells HK.out
    go_enter Try.func22, Try.ntmps22
    go_wp2_with fail
    go_ret
    exact ⟨ret_bool (by simp [hk]), HX.out⟩
end Go.Proofs.Ytbjemihcbbiiaaa
