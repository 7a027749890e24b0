/- What the law RepliesOwn carries: messages with lists of their own, two Replies; what is answered behind one Keep. -/
import Derived.Test.YtbjemihcbbiiaaaRpAw
import Derived.Test.YtbjemihcbbiiaaaRpFr
import Derived.Test.YtbjemihcbbiiaaaRpOn
import Derived.Test.YtbjemihcbbiiaaaWireArg
import Derived.Test.YtbjemihcbbiiaaaWireR1
namespace Go.Proofs.Ytbjemihcbbiiaaa
open Go.RowKit
open RP (Kp St)
open WM (Msg)
set_option linter.unusedVariables false
set_option linter.unusedSimpArgs false
set_option maxRecDepth 100000
set_option maxHeartbeats 2000000 in
theorem l_own (A : Option Addr) (c : Nat) (m : Msg) (w : World) (hI : IntsAt w A m.stamp) (hl : m.stamp.length * 8 ≤ 140737488355328) :
    Calls Try.prog 17 #[.agg (cellsM m (.slice A m.stamp.length c))] w fun e w' => ∃ A' c', e = .returned (.agg (cellsM m (.slice A' m.stamp.length c'))) ∧ Hid (w'.ownsRow w.heap.size 3 1 (.slice A' m.stamp.length c') m.stamp.length (i64s m.stamp)) ∧ Below w.heap.size w w' := by
  have HX := Lib.hid (((Below.refl _ w).alloc (Nat.le_refl _) (.cells (cellsM m (.slice A m.stamp.length c)) 32)).alloc (by simp) (.cells #[.int .i64 0, .int .i64 0, .int .i64 0, .int .i64 0, .int .i64 0, .int .i64 0, .int .i64 0, .string ⟨#[]⟩, .int .i64 0, .int .i64 0, .int .i64 0, .bool false, .int .i64 0, .slice none 0 0, .int .i64 0, .int .i64 0] 32))
  have HK := Lib.hid (show Whole ((w.alloc (.cells (cellsM m (.slice A m.stamp.length c)) 32)).alloc (.cells #[.int .i64 0, .int .i64 0, .int .i64 0, .int .i64 0, .int .i64 0, .int .i64 0, .int .i64 0, .string ⟨#[]⟩, .int .i64 0, .int .i64 0, .int .i64 0, .bool false, .int .i64 0, .slice none 0 0, .int .i64 0, .int .i64 0] 32)) w.heap.size 32 (cellsM m (.slice A m.stamp.length c)) from (Whole.new w 32 (cellsM m (.slice A m.stamp.length c))).alloc _)
  have HR := Lib.hid (show Whole ((w.alloc (.cells (cellsM m (.slice A m.stamp.length c)) 32)).alloc (.cells #[.int .i64 0, .int .i64 0, .int .i64 0, .int .i64 0, .int .i64 0, .int .i64 0, .int .i64 0, .string ⟨#[]⟩, .int .i64 0, .int .i64 0, .int .i64 0, .bool false, .int .i64 0, .slice none 0 0, .int .i64 0, .int .i64 0] 32)) (w.heap.size + 1) 32 #[.int .i64 0, .int .i64 0, .int .i64 0, .int .i64 0, .int .i64 0, .int .i64 0, .int .i64 0, .string ⟨#[]⟩, .int .i64 0, .int .i64 0, .int .i64 0, .bool false, .int .i64 0, .slice none 0 0, .int .i64 0, .int .i64 0] by
    have h := Whole.new (w.alloc (.cells (cellsM m (.slice A m.stamp.length c)) 32)) 32 #[.int .i64 0, .int .i64 0, .int .i64 0, .int .i64 0, .int .i64 0, .int .i64 0, .int .i64 0, .string ⟨#[]⟩, .int .i64 0, .int .i64 0, .int .i64 0, .bool false, .int .i64 0, .slice none 0 0, .int .i64 0, .int .i64 0]
    simpa using h)
  have HI := Lib.hid (hI.below HX.out)
  have HS := Lib.hid (show ((w.alloc (.cells (cellsM m (.slice A m.stamp.length c)) 32)).alloc (.cells #[.int .i64 0, .int .i64 0, .int .i64 0, .int .i64 0, .int .i64 0, .int .i64 0, .int .i64 0, .string ⟨#[]⟩, .int .i64 0, .int .i64 0, .int .i64 0, .bool false, .int .i64 0, .slice none 0 0, .int .i64 0, .int .i64 0] 32)).heap.size = w.heap.size + 2 by simp)
  have HL := Lib.hid hl
  clear hI hl
  go_enter Try.func17, Try.ntmps17
  go_upto_region 1 with (fail)
  generalize (w.alloc (.cells (cellsM m (.slice A m.stamp.length c)) 32)).alloc _ = w1 at HX HK HR HI HS ⊢
  have c13 : (w1.alloc (.cells #[] 3)).cell? ⟨w.heap.size, 13, none⟩ = some (.slice A m.stamp.length c) := (HK.out.alloc (.cells #[] 3)).cell 13
  have hl := HL.out
  go_wp2_with (first
    | (at_builtin; refine app_all rfl (.tmp 3) (.tmp 5) rfl A c m.stamp.length m.stamp rfl HI.out w1.heap.size rfl rfl rfl hl ?_; intro A' n' c' w2 hm
       clear c13
       have HM := Lib.hid hm; clear hm
       have e := HM.out.1.out
       subst e
       have HK2 := Lib.hid ((Mod.of_below HM.out.2.2.2.1.out []).whole HK.out (by simp))
       have HR2 := Lib.hid ((Mod.of_below HM.out.2.2.2.1.out []).whole HR.out (by simp))
       have c13 := HK2.out.cell 13
       have f13 := HK2.out.frozen 13
       have HK3 := Lib.hid (show Whole (w2.setCell ⟨w.heap.size, 13, none⟩ (.slice A' m.stamp.length c')) w.heap.size 32 (cellsM m (.slice A' m.stamp.length c')) from HK2.out.store 13 _)
       have HR3 := Lib.hid (show Whole (w2.setCell ⟨w.heap.size, 13, none⟩ (.slice A' m.stamp.length c')) (w.heap.size + 1) 32 #[.int .i64 0, .int .i64 0, .int .i64 0, .int .i64 0, .int .i64 0, .int .i64 0, .int .i64 0, .string ⟨#[]⟩, .int .i64 0, .int .i64 0, .int .i64 0, .bool false, .int .i64 0, .slice none 0 0, .int .i64 0, .int .i64 0] from ((Mod.refl [w.heap.size] w2).store (p := ⟨w.heap.size, 13, none⟩) (.inl (by simp)) (.slice A' m.stamp.length c')).whole HR2.out (by simp))
       have HLD := Lib.hid (msg_range HK3.out)
       have HX3 := Lib.hid ((below_on HX.out HM.out.2.2.2.1.out).setCell (p := ⟨w.heap.size, 13, none⟩) (Nat.le_refl _) (.slice A' m.stamp.length c')))
    | (refine wpList_load_mid rfl 32 (.tmp 1) rfl w.heap.size 0 rfl (cellsM m (.slice A' m.stamp.length c')).toList _ HLD.out Try.underlying32 rfl (by kernel_rfl) ?_)
    | (refine wpList_store_row rfl 32 (.tmp 2) (.tmp 8) rfl (w.heap.size + 1) (cellsM m (.slice A' m.stamp.length c')) rfl rfl 32 _ HR3.out (by kernel_rfl) rfl (by simp [cellsM, Value.oneCell']) ?_))
  obtain ⟨hK, hM⟩ := row16 (m0 := WM.zero) (sv0 := .slice none 0 0) HR3.out m (.slice A' m.stamp.length c')
  have HX4 := Lib.hid (HX3.out.trans (hM.below HX3.out.size (by simp)))
  have ho2 := HM.out.2.2.1.out
  have hlt : ∀ k, (Value.slice A' m.stamp.length c').ownBlock = some k → w.heap.size + 1 < k := fun k hk => by
    have h1 := (ho2.lt k hk).1
    have h2 := HS.out
    omega
  have ho3 := ((Mod.refl [w.heap.size] w2).store (p := ⟨w.heap.size, 13, none⟩) (.inl (by simp)) (.slice A' m.stamp.length c')).own ho2 (fun k hk => by have := hlt k hk; simp; omega)
  have HO := Lib.hid (own_base (hM.own ho3 (fun k hk => by have := hlt k hk; simp; omega)) (show w.heap.size ≤ w1.heap.size by have := HS.out; omega))
  have HK5 := Lib.hid hK
  clear hK hM ho2 hlt ho3
  generalize (World.setRow _ _ _) = w6 at HX4 HK5 HO ⊢
  obtain ⟨c0, c1', c2, c3, c4, c5, c6, c7, c8, c9, c10, c11, c12, c13', c14, c15⟩ := msg_cells HK5.out
  refine bodyPost_ret (v := .agg (cellsM m (.slice A' m.stamp.length c'))) (by simp [results, Try.results17, go_sem, c0, c1', c2, c3, c4, c5, c6, c7, c8, c9, c10, c11, c12, c13', c14, c15, cellsM]) rfl ?_
  exact ⟨A', c', rfl, HO, HX4.out⟩
/-- What own gives may be handed on. -/
theorem own_fit {A : Option Addr} {c : Nat} {m : Msg} {w : World} {b : Nat} (hw : Wide m) (h : w.ownsRow b 3 1 (.slice A m.stamp.length c) m.stamp.length (i64s m.stamp)) : Fit w A c m := by
  obtain ⟨A1, c1, hv, hl, hc⟩ := own_shape h
  injection hv with e1 e2 e3
  subst e1 e3
  exact ⟨hw, IntsAt.own h, fun ad e => by subst e; exact (h.lt _ rfl).2, hl, hc⟩

/-! ### One Keep, as plain data -/
namespace RP
theorem st0_cl (f : Int) : cl st0 f = kp0 := by
  unfold cl st0
  cases e : (List.replicate 8 kp0)[f.toNat]? with
  | none => rfl
  | some k => exact List.eq_of_mem_replicate (List.mem_of_getElem? e)
theorem st0_not2 (m : Msg) : verdict st0 m ≠ 2 := fun hv => by
  have hn1 : verdict st0 m ≠ 1 := by rw [hv]; decide
  have ha := verdict_ask hn1
  have hB := askB ha
  have hq : (pick (now st0 m) m.seq).seq = m.seq := by
    unfold verdict at hv
    rw [if_pos ha, if_pos (verdict_has hn1)] at hv
    by_cases e : (pick (now st0 m) m.seq).seq = m.seq
    · exact e
    · rw [if_neg e] at hv; exact absurd hv (by decide)
  have hO : Ok (cl st0 m.frm) := by rw [st0_cl]; exact Ok.zero
  have hp : pick (now st0 m) m.seq = WM.zero := by
    unfold now
    rw [pick_follow hO, st0_cl, show pick kp0 m.seq = WM.zero from List.eq_of_mem_replicate (List.mem_of_getElem? (pick_at Ok.zero m.seq)), keepIf_zero]
  rw [hp] at hq
  have : WM.zero.seq = 0 := rfl
  have := hB.s
  omega
theorem seen_again {s : St} (h : s.length = 8) (m : Msg) : verdict (seenSt s m) m = verdict s m ∧ answer (seenSt s m) m = answer s m := by
  obtain ⟨h1, h2⟩ := verdict_again h m
  refine ⟨h1, ?_⟩
  unfold answer
  rw [h1, h2]
theorem keep_no {m a : Msg} (h : kept st0 m a = false) : verdict (keepSt st0 m a) m ≠ 2 := by
  unfold keepSt
  rw [h]
  show verdict (seenSt st0 m) m ≠ 2
  rw [(seen_again Oks.zero.n8 m).1]
  exact st0_not2 m
theorem keep_yes {m a : Msg} (h : kept st0 m a = true) : verdict (keepSt st0 m a) m = 2 ∧ answer (keepSt st0 m a) m = a := by
  obtain ⟨h3, hf⟩ := kept_of h
  have hn1 : verdict st0 m ≠ 1 := by rw [h3]; decide
  have ha := verdict_ask hn1
  have hh := verdict_has hn1
  have hB := askB ha
  have hF := fitsB hf
  have hO : Ok (now st0 m) := (cl_ok Oks.zero _).follow hB
  have hcl : cl (keepSt st0 m a) m.frm = stored (now st0 m) m.seq a := by
    unfold keepSt
    rw [h]
    exact cl_set_same (Oks.zero.seen m).n8 hB.f _
  have hnow : now (keepSt st0 m a) m = stored (now st0 m) m.seq a := by
    have hfa := follow_again (cl st0 m.frm) m
    unfold now
    rw [hcl]
    have hk : ∀ k : Kp, aftB k.boot k.low m = k.boot ∧ aftL k.boot k.low m = k.low → follow k m = k := fun k hk => by unfold follow; rw [if_pos hk]
    refine hk _ ?_
    show aftB (now st0 m).boot (now st0 m).low m = (now st0 m).boot ∧ aftL (now st0 m).boot (now st0 m).low m = (now st0 m).low
    have hbl := follow_bl (now st0 m) m
    have e : follow (now st0 m) m = now st0 m := hfa
    rw [e] at hbl
    exact ⟨hbl.1.symm, hbl.2.symm⟩
  have hp : pick (stored (now st0 m) m.seq a) m.seq = a := pick_of (by
    show ((now st0 m).ans.set (spot m.seq) a)[spot m.seq]? = _
    rw [List.getElem?_set_self (by rw [hO.n8]; exact spot_lt _)])
  have hv : verdict (keepSt st0 m a) m = 2 := by
    unfold verdict
    rw [if_pos ha, hnow, hp]
    rw [show (stored (now st0 m) m.seq a).boot = (now st0 m).boot from rfl, show (stored (now st0 m) m.seq a).low = (now st0 m).low from rfl, if_pos hh, if_pos hF.s]
  refine ⟨hv, ?_⟩
  unfold answer
  rw [if_pos hv, hnow, hp]
end RP
/-! ### In memory -/
set_option maxHeartbeats 4000000 in
theorem Keep_nil (m a : Msg) (sv sv2 : Value) (w : World) : Calls Try.prog 10 #[.pointer none, .agg (cellsM m sv), .agg (cellsM a sv2)] w fun e w' => e = .returned (.bool false) ∧ Below w.heap.size w w' := by
  have HX := Lib.hid (((Below.refl w.heap.size w).alloc (Nat.le_refl _) (.cells (cellsM m sv) 32)).alloc (by simp) (.cells (cellsM a sv2) 32))
  have HK := Lib.hid ((Whole.new w 32 (cellsM m sv)).alloc (.cells (cellsM a sv2) 32))
  go_enter Try.func10, Try.ntmps10
  go_upto_region 1 with (fail)
  generalize (w.alloc (.cells (cellsM m sv) 32)).alloc (.cells (cellsM a sv2) 32) = w0 at HX HK ⊢
  have HL := Lib.hid (msg_range HK.out)
  go_wp2_with (first
    | (refine wpList_load_mid rfl 32 (.tmp 4) rfl w.heap.size 0 rfl _ _ HL.out Try.underlying32 rfl (by kernel_rfl) ?_)
    | (go_at_call 13
       refine (Seen_nil m sv _).mono ?_
       rintro e w3 ⟨rfl, hb⟩
       replace HX := Lib.hid (below_on HX.out hb)
       clear hb HL HK
       unfold cellsM WM.zero))
  go_ret
  exact ⟨rfl, HX.out.alloc HX.out.size _⟩
/-- What the law holds: the two messages that came in, in boxes. -/
structure Ow (w0 wx : World) (m a : Msg) (A0 A1 : Option Addr) (c0 c1 : Nat) : Prop where
  bel : Below w0.heap.size w0 wx
  bm : MsgBlk wx w0.heap.size m (.slice A0 m.stamp.length c0)
  ba : MsgBlk wx (w0.heap.size + 1) a (.slice A1 a.stamp.length c1)
section
variable {w0 wx w' : World} {m a : Msg} {A0 A1 : Option Addr} {c0 c1 : Nat} {F : List Nat}
theorem Ow.mod (h : Ow w0 wx m a A0 A1 c0 c1) (hm : Mod F wx w') (hF : ∀ x ∈ F, w0.heap.size + 2 ≤ x) : Ow w0 w' m a A0 A1 c0 c1 :=
  ⟨h.bel.trans (hm.below h.bel.size (fun x hx => by have := hF x hx; omega)), hm.whole h.bm (fun hx => by have := hF _ hx; omega), hm.whole h.ba (fun hx => by have := hF _ hx; omega)⟩
theorem Ow.below (h : Ow w0 wx m a A0 A1 c0 c1) (hb : Below wx.heap.size wx w') : Ow w0 w' m a A0 A1 c0 c1 := h.mod (Mod.of_below hb []) (by simp)
end
/-- What a request is told in a state, and told again. -/
structure Ans (s : St) (m : Msg) (V : Int) (an : Msg) : Prop where
  ok : RP.Oks s
  v : RP.verdict s m = V
  an : RP.answer s m = an
theorem Ans.seen {s : St} {m an : Msg} {V : Int} (h : Ans s m V an) : Ans (RP.seenSt s m) m V an :=
  ⟨h.ok.seen m, by rw [(RP.seen_again h.ok.n8 m).1]; exact h.v, by rw [(RP.seen_again h.ok.n8 m).2]; exact h.an⟩
def TellPost (w : World) (g lo up : Nat) (m : Msg) (V : Int) (an : Msg) (e : Ending) (w' : World) : Prop :=
  ∃ A c, e = .returned (.tuple #[.int .i64 V, .agg (cellsM an (.slice A an.stamp.length c))]) ∧ Hid (w'.ownsRow w.heap.size 3 1 (.slice A an.stamp.length c) an.stamp.length (i64s an.stamp)) ∧ (∃ s', Hid (RepAt w' g lo up s') ∧ Hid (Ans s' m V an)) ∧ Hid (Mod [g] w w')
theorem tell_any {w : World} {g lo up : Nat} {s : St} {V : Int} {an : Msg} (A : Option Addr) (c : Nat) (m : Msg) (h : RepAt w g lo up s) (hq : Ans s m V an) (hf : Fit w A c m) :
    Calls Try.prog 13 #[.pointer (some ⟨g, 0, none⟩), .agg (cellsM m (.slice A m.stamp.length c))] w (TellPost w g lo up m V an) := by
  refine (Seen_any A c m h hq.ok hf).mono ?_
  rintro e w' ⟨A', c', rfl, h1, h2, h3, h4⟩
  rw [hq.v, hq.an]
  rw [hq.an] at h2
  exact ⟨A', c', rfl, h2, ⟨_, h3, Lib.hid hq.seen⟩, h4⟩
end Go.Proofs.Ytbjemihcbbiiaaa
