/- Texts that belong together: BkR10, BkR11. -/
import Derived.Test.YtboflkadabagfabBkR9
import Derived.Test.YtboflkadabagfabBkRA
import Derived.Test.YtboflkadabagfabBkWd
namespace Go.Proofs.Ytboflkadabagfab
open Go.RowKit
open Oct (BytesAt u8s)
open BM (Gr Rc Bk g0 r0 b0)
set_option linter.unusedVariables false
set_option linter.unusedSimpArgs false
set_option maxRecDepth 100000
def tk2 (A : Option Addr) (n c e : Nat) : Array Value := #[.slice A n c, .int .i64 (e : Int)]
/-- The document's taker: the bytes that are left, the error. -/
def TkAt (w : World) (q B : Nat) (s : WM.St) : Prop := ∃ A c, Whole w q 65 (tk2 A s.1.length c s.2) ∧ BytesAt w A s.1 ∧ s.1.length ≤ c ∧ c ≤ 9223372036854775807 ∧ (0 < s.1.length → ∀ ad, A = some ad → ad.block < B)
theorem bytes_far {w w' : World} {A A2 : Option Addr} {l : List UInt8} {q n c e : Nat} {t : TypeId} (h : BytesAt w A l) (hq : Whole w q t (tk2 A2 n c e)) (hm : Mod [q] w w') : BytesAt w' A l := fun h0 => by
  obtain ⟨b, o, eA, hlt, hc⟩ := h h0
  have hne : b ≠ q := by
    intro eb
    subst eb
    have h1 := hc 0 _ (List.getElem?_eq_getElem h0)
    have h2 := hq.cell (o + 0)
    rw [h1] at h2
    unfold tk2 at h2
    match o with
    | 0 => cases h2
    | 1 => cases h2
    | k + 2 => simp at h2
  exact ⟨b, o, eA, Nat.lt_of_lt_of_le hlt hm.size, fun j x hx => (hm.cell (p := ⟨b, o + j, none⟩) hlt (by simpa using hne)).trans (hc j x hx)⟩
theorem TkAt.below {w w' : World} {q B : Nat} {s : WM.St} (h : TkAt w q B s) (hb : Below w.heap.size w w') : TkAt w' q B s := by
  obtain ⟨A, c, h1, h2, h3⟩ := h
  exact ⟨A, c, (Mod.of_below hb []).whole h1 (by simp), h2.below hb, h3⟩
theorem TkAt.mod {w w' : World} {q B : Nat} {s : WM.St} {F : List Nat} (h : TkAt w q B s) (hm : Mod F w w') (hq : q ∉ F) (hF : ∀ b ∈ F, B ≤ b) : TkAt w' q B s := by
  obtain ⟨A, c, h1, h2, h3, h4, h5⟩ := h
  refine ⟨A, c, hm.whole h1 hq, fun h0 => ?_, h3, h4, h5⟩
  obtain ⟨b, o, eA, hlt, hc⟩ := h2 h0
  have hne : b ∉ F := fun hb => by
    have h6 : b < B := h5 h0 ⟨b, o, none⟩ eA
    have h7 := hF b hb
    omega
  exact ⟨b, o, eA, Nat.lt_of_lt_of_le hlt hm.size, fun j x hx => (hm.cell (p := ⟨b, o + j, none⟩) hlt hne).trans (hc j x hx)⟩
/-- The reader is put back. -/
theorem TkAt.put {w w' : World} {q n c e B : Nat} {A A' A0 : Option Addr} {c' n0 : Nat} {s : WM.St} (hq : Whole w q 65 (tk2 A n c e)) (hB : BytesAt w A' s.1) (hl : s.1.length ≤ c' ∧ c' ≤ 9223372036854775807)
    (hw : Whole w' q 65 (tk2 A' s.1.length c' s.2)) (hm : Mod [q] w w') (h5 : 0 < n0 → ∀ ad, A0 = some ad → ad.block < B) (h6 : s.1.length ≤ n0 ∧ ∀ ad, A' = some ad → ∃ a0, A0 = some a0 ∧ ad.block = a0.block) : TkAt w' q B s :=
  ⟨A', c', hw, bytes_far hB hq hm, hl.1, hl.2, fun h0 ad e => by
    obtain ⟨a0, e0, eb⟩ := h6.2 ad e
    rw [eb]
    exact h5 (by have := h6.1; omega) a0 e0⟩
set_option maxHeartbeats 4000000 in
theorem r11_tnum (q B : Nat) (s : WM.St) (w : World) (h : TkAt w q B s) :
    Calls Try.prog 25 #[.pointer (some ⟨q, 0, none⟩)] w fun e w' => e = .returned (.int .i64 (WM.tnum s).1) ∧ TkAt w' q B ((WM.tnum s).2) ∧ Mod [q] w w' := by
  obtain ⟨A, c, hw, hB, hl, hc, hbk⟩ := h
  have HBK := Lib.hid hbk
  clear hbk
  have HW := Lib.hid hw
  have HB := Lib.hid hB
  have c0 := hw.cell 0
  have c1 := hw.cell 1
  unfold tk2 at c0 c1
  have HH := Lib.hid (show (WM.tnum s).1 = ((OM.rnum s.1 s.2).1 : Int) ∧ (WM.tnum s).2 = ((OM.rnum s.1 s.2).2) from ⟨rfl, rfl⟩)
  clear hw hB
  go_enter Try.func25, Try.ntmps25
  go_wp2_with fail
  refine (Oct.Rb.ReadNum_any A c s.1 s.2 _ HB.out hl hc).mono ?_
  rintro e w1 ⟨A1, c1', rfl, h1, h2, h3, hb, h6⟩
  have H6 := Lib.hid h6
  clear h6
  have HW1 := Lib.hid ((Mod.of_below hb []).whole HW.out (by simp))
  have HX1 := Lib.hid hb
  have HB1 := Lib.hid h1
  have HM := Lib.hid h2
  clear h1 hb c0 c1 HW HB
  generalize OM.rnum s.1 s.2 = r at HB1 HM HH H6 ⊢
  obtain ⟨rv, rl, re⟩ := r
  dsimp only at HB1 HM HH H6 ⊢
  go_upto_region 2 with (fail)
  have HWA := Lib.hid (HW1.out.alloc (.cells #[.slice A1 rl.length c1', .int .i64 (re : Int)] 63))
  have HRA := Lib.hid (Whole.new w1 63 #[.slice A1 rl.length c1', .int .i64 (re : Int)])
  have HXA := Lib.hid ((Below.refl _ w1).alloc (Nat.le_refl _) (.cells #[.slice A1 rl.length c1', .int .i64 (re : Int)] 63))
  have HBA := Lib.hid (HB1.out.below (below_on HX1.out HXA.out))
  generalize w1.alloc (.cells #[.slice A1 rl.length c1', .int .i64 (re : Int)] 63) = wa at HWA HRA HXA HBA ⊢
  have g0 := HWA.out.cell 0
  have g1 := HWA.out.cell 1
  have f0 := HWA.out.frozen 0
  have f1 := HWA.out.frozen 1
  have b0 := HRA.out.cell 0
  have b1 := HRA.out.cell 1
  unfold tk2 at g0 g1
  go_wp2_with fail
  go_ret
  have hK := ((HWA.out.store 0 (.slice A1 rl.length c1')).store 1 (.int .i64 (re : Int)))
  have hM : Mod [q] wa ((wa.setCell ⟨q, 0, none⟩ (.slice A1 rl.length c1')).setCell ⟨q, 1, none⟩ (.int .i64 (re : Int))) := ((Mod.refl [q] wa).store (p := ⟨q, 0, none⟩) (.inl (by simp)) _).store (p := ⟨q, 1, none⟩) (.inl (by simp)) _
  refine ⟨by rw [HH.out.1]; rfl, by rw [HH.out.2]; exact TkAt.put (s := (rl, re)) HWA.out HBA.out ⟨HM.out, h3⟩ hK hM HBK.out H6.out, (Mod.of_below (below_on HX1.out HXA.out) [q]).trans hM (by simp)⟩
/-- One number put behind a row of the call's own. -/
theorem app_int {w1 : World} {ops : Array Oper} {rest : List Oper} {o : Oper} {a : Act} {Q : Exit → Act → World → Prop} (hgd : o.guard = none) (s x : Operand)
    (ho : o.op = .call { callee := .builtin .append, args := #[s, x], argTypes := #[24, 24] })
    (base : Nat) (v : Value) (pre : List Int) (hown : w1.ownsRow base 3 1 v pre.length (i64s pre)) (hb : base ≤ w1.heap.size) (hs : a.eval s = v) (k : Int) (hx : a.eval x = .slice (some ⟨w1.heap.size, 0, none⟩) 1 1) (hl : (pre.length + 1) * 8 ≤ 140737488355328)
    (h : ∀ v' w2, w2.ownsRow base 3 1 v' (pre ++ [k]).length (i64s (pre ++ [k])) → Mod v.ownBlock.toList w1 w2 → wpList Try.prog ops Q rest (a.put o.dst v') w2) : wpList Try.prog ops Q (o :: rest) a (w1.alloc (.cells #[.int .i64 k] 3)) := by
  obtain ⟨i0, hi, hz0, hz1, hz2⟩ := info_parts info_int
  refine wpList_append_own_at _ hgd s x 24 ho base 3 i0 (.int .i64 0) 1 8 Try.underlying24 hi hz0 hz1 hz2 rfl (by decide) v pre.length (i64s pre) hs (hown.alloc _) ⟨w1.heap.size, 0, none⟩ 1 1 [.int .i64 k] hx rfl
    (World.news_of_block (cs := #[.int .i64 k]) (t := 3) (fr := (0, 0)) (heap_alloc_new w1 _)) (one_i64 (l := [k])) (by unfold maxLen; omega) (by omega) (by rw [World.size_alloc]; omega) ?_
  intro v' w2 h2 hgrow _ _
  refine h v' w2 (by rw [List.length_append, i64s_append]; exact h2) (((Mod.refl _ w1).alloc _).grown hgrow (fun k hk => .inl (by rw [hk]; simp)))
set_option maxHeartbeats 4000000 in
theorem r11_tcounters (q B : Nat) (s : WM.St) (w : World) (h : TkAt w q B s) (hB : B ≤ w.heap.size) (hq : q < w.heap.size) :
    Calls Try.prog 27 #[.pointer (some ⟨q, 0, none⟩)] w fun e w' => ∃ v, e = .returned v ∧ w'.ownsRow w.heap.size 3 1 v (WM.tstamp 5 s).1.length (i64s (WM.tstamp 5 s).1) ∧ TkAt w' q B (WM.tstamp 5 s).2 ∧ Mod [q] w w' := by
  have HT := Lib.hid h
  have HE := Lib.hid (show WM.tstamp 5 s = WM.tnums (min (WM.tnum s).1.toNat 5) (WM.tnum s).2 from rfl)
  clear h
  go_enter Try.func27, Try.ntmps27
  go_wp2_with fail
  refine (r11_tnum q B s w HT.out).mono ?_
  rintro e w1 ⟨rfl, h1, hm1⟩
  have HT1 := Lib.hid h1
  have HM1 := Lib.hid hm1
  clear h1 hm1 HT
  generalize WM.tnum s = t0 at HE HT1 ⊢
  obtain ⟨n, s1⟩ := t0
  dsimp only at HE HT1 ⊢
  obtain ⟨M, hM⟩ : ∃ M, M = min n.toNat 5 := ⟨_, rfl⟩
  rw [← hM] at HE
  have hM5 : M ≤ 5 := by omega
  have HMD := Lib.hid (show ∀ k : Nat, k ≤ M → (k < M ↔ ((k : Int) < n ∧ (k : Int) < 5)) from fun k hk => by omega)
  clear hM
  go_wp2_with fail
  go_loopw [5, 4] (fun i v wx => ∃ k : Nat, i = .int .i64 (k : Int) ∧ k ≤ M ∧ Hid (wx.ownsRow w.heap.size 3 1 v (WM.tnums k s1).1.length (i64s (WM.tnums k s1).1)) ∧ Hid (TkAt wx q B (WM.tnums k s1).2) ∧ Hid (Mod [q] w wx)) (fun i _ _ => M - (intOf i).toNat)
  case atStart => exact ⟨0, rfl, Nat.zero_le _, Lib.hid (World.ownsRow_nil _ _ _ _), HT1, HM1⟩
  case round =>
    obtain ⟨k, rfl, hk, HR, HTk, HMk⟩ := hrel
    by_cases hlt : k < M
    · obtain ⟨ha, hb⟩ := (HMD.out k hk).1 hlt
      have d1 : decide ((k : Int) < n) = true := decide_eq_true ha
      have d2 : decide ((k : Int) < 5) = true := decide_eq_true hb
      have HSN := Lib.hid (WM.tnums_snoc k s1)
      have HLN := Lib.hid (WM.tnums_len k s1)
      clear ha hb
      go_wp2_with fail
      refine (r11_tnum q B _ wr HTk.out).mono ?_
      rintro e w2 ⟨rfl, h2, hm2⟩
      have HR2 := Lib.hid (hm2.own HR.out (fun j hj => by have := (HR.out.lt j hj).1; simp; omega))
      have HT2 := Lib.hid h2
      have HM2 := Lib.hid (HMk.out.trans hm2 (by simp))
      clear h2 hm2
      generalize WM.tnums k s1 = pk at HSN HR2 HT2 HLN ⊢
      generalize WM.tnum pk.2 = tk at HSN HT2 ⊢
      go_wp2_with (at_builtin; refine app_int rfl (.tmp 20) (.tmp 22) rfl w.heap.size _ pk.1 HR2.out HM2.out.size rfl tk.1 rfl (by have := HLN.out; omega) ?_; intro v3 w3 h3 hm3; have HR3 := Lib.hid h3; have HT3 := Lib.hid (HT2.out.mod hm3 (by intro hx; have := (HR2.out.lt q (by simpa using hx)).1; omega) (fun b hb => by have := (HR2.out.lt b (by simpa using hb)).1; omega)); have HM3 := Lib.hid (HM2.out.trans hm3 (fun x hx => .inr (HR2.out.lt x (by simpa using hx)).1)); clear h3 hm3)
      go_roundw
      case rel =>
        refine ⟨k + 1, rfl, by omega, Lib.hid ?_, Lib.hid ?_, HM3⟩
        · rw [HSN.out]; exact HR3.out
        · rw [HSN.out]; exact HT3.out
      case measure => simp only [intOf]; omega
    · have hkM : k = M := by omega
      have hno : ¬ ((k : Int) < n ∧ (k : Int) < 5) := fun h => hlt ((HMD.out k hk).2 h)
      have HV := Lib.hid (show WM.tnums k s1 = WM.tstamp 5 s by rw [HE.out, hkM])
      rw [HV.out] at HR HTk
      clear hkM HV
      by_cases ha : (k : Int) < n
      · have d1 : decide ((k : Int) < n) = true := decide_eq_true ha
        have d2 : decide ((k : Int) < 5) = false := decide_eq_false (fun h => hno ⟨ha, h⟩)
        clear ha hno
        go_wp2_with fail
        go_ret
        exact ⟨_, rfl, HR.out, HTk.out, HMk.out⟩
      · have d1 : decide ((k : Int) < n) = false := decide_eq_false ha
        clear ha hno
        go_wp2_with fail
        go_ret
        exact ⟨_, rfl, HR.out, HTk.out, HMk.out⟩
structure D11 (w0 : World) (q : Rc) (V U : Value) (w : World) : Prop where
  kr : Whole w w0.heap.size 28 (twelve r0 (.slice none 0 0) (.slice none 0 0))
  kb : Whole w (w0.heap.size + 2) 28 (twelve q V U)
  rg : w.ownsRow (w0.heap.size + 3) 3 1 V q.g.stamp.length (i64s q.g.stamp)
  ru : w.ownsRow (w0.heap.size + 3) 3 1 U q.stamp.length (i64s q.stamp)
  below : Below w0.heap.size w0 w
  size : w0.heap.size + 3 ≤ w.heap.size
section
variable {w0 w w2 : World} {q q' : Rc} {V U V' U' x : Value}
theorem D11.turn (h : D11 w0 q V U w) {g : Nat} (hm : Mod [g] w w2) (hg : w0.heap.size ≤ g ∧ g < w0.heap.size + 3) (h0 : g ≠ w0.heap.size) (h2 : g ≠ w0.heap.size + 2) : D11 w0 q V U w2 :=
  ⟨hm.whole h.kr (by simp; omega), hm.whole h.kb (by simp; omega), hm.own h.rg (fun k hk => by have := (h.rg.lt k hk).1; simp; omega), hm.own h.ru (fun k hk => by have := (h.ru.lt k hk).1; simp; omega), h.below.trans (hm.below h.below.size (by intro y hy; simp at hy; omega)), Nat.le_trans h.size hm.size⟩
theorem D11.num (h : D11 w0 q V U w) (hm : Mod [w0.heap.size + 1] w w2) : D11 w0 q V U w2 := h.turn hm (by omega) (by omega) (by omega)
theorem D11.on (h : D11 w0 q V U w) (hb : Below w.heap.size w w2) : D11 w0 q V U w2 :=
  ⟨(Mod.of_below hb []).whole h.kr (by simp), (Mod.of_below hb []).whole h.kb (by simp), (Mod.of_below hb []).own h.rg (by simp), (Mod.of_below hb []).own h.ru (by simp), h.below.trans (hb.mono h.below.size), Nat.le_trans h.size hb.size⟩
theorem D11.store (h : D11 w0 q V U w) {i : Nat} (he : (twelve q V U).setIfInBounds i x = twelve q' V' U') (h1 : w.ownsRow (w0.heap.size + 3) 3 1 V' q'.g.stamp.length (i64s q'.g.stamp)) (h2 : w.ownsRow (w0.heap.size + 3) 3 1 U' q'.stamp.length (i64s q'.stamp)) : D11 w0 q' V' U' (w.setCell ⟨w0.heap.size + 2, i, none⟩ x) := by
  have hM : Mod [w0.heap.size + 2] w (w.setCell ⟨w0.heap.size + 2, i, none⟩ x) := (Mod.refl _ w).store (p := ⟨w0.heap.size + 2, i, none⟩) (.inl (by simp)) x
  have hk := h.kb.store i x
  rw [he] at hk
  exact ⟨hM.whole h.kr (by simp), hk, hM.own h1 (fun k hk => by have := (h1.lt k hk).1; simp; omega), hM.own h2 (fun k hk => by have := (h2.lt k hk).1; simp; omega), h.below.trans (hM.below h.below.size (by intro y hy; simp at hy; omega)), by simpa using h.size⟩
theorem tk_store {q B i g : Nat} {s : WM.St} (h : TkAt w q B s) (hq : q < g) (hB : B ≤ g) : TkAt (w.setCell ⟨g, i, none⟩ x) q B s := by
  have hM : Mod [g] w (w.setCell ⟨g, i, none⟩ x) := (Mod.refl _ w).store (p := ⟨g, i, none⟩) (.inl (by simp)) x
  exact h.mod hM (by simp; omega) (fun b hb => by simp at hb; omega)
end
theorem dec_no {w w' : World} {b : List UInt8} (h : ¬ (b.length ≤ 188 ∧ BM.okRc (BM.taken 5 b) = true ∧ BM.laid (BM.taken 5 b) = b)) (hb : Below w.heap.size w w') : DecPost w b (.returned (.tuple #[.agg (twelve r0 (.slice none 0 0) (.slice none 0 0)), .int .i64 43])) w' := by
  have e : BM.decode b = (r0, 43) := by rw [BM.decode_most 5 (by omega), if_neg h]
  unfold DecPost
  rw [e]
  exact ⟨_, _, rfl, World.ownsRow_nil _ _ _ _, World.ownsRow_nil _ _ _ _, rw0, hb⟩
theorem dec_yes {w w' : World} {b : List UInt8} {M : Rc} {V U : Value} (hM : BM.taken 5 b = M) (h : b.length ≤ 188 ∧ BM.okRc M = true ∧ BM.laid M = b) (h1 : w'.ownsRow (w.heap.size + 3) 3 1 V M.g.stamp.length (i64s M.g.stamp)) (h2 : w'.ownsRow (w.heap.size + 3) 3 1 U M.stamp.length (i64s M.stamp)) (hb : Below w.heap.size w w') : DecPost w b (.returned (.tuple #[.agg (twelve M V U), .int .i64 0])) w' := by
  have e : BM.decode b = (M, 0) := by rw [BM.decode_most 5 (by omega), hM, if_pos h]
  have hr := rw_taken 5 (by omega) b
  rw [hM] at hr
  unfold DecPost
  rw [e]
  exact ⟨V, U, rfl, gw_base h1 (by omega), gw_base h2 (by omega), hr, hb⟩
theorem frozen_rec {w : World} {g : Nat} {cs : Array Value} (h : Whole w g 28 cs) : w.frozen? ⟨g, 0, none⟩ = false ∧ w.frozen? ⟨g, 1, none⟩ = false ∧ w.frozen? ⟨g, 2, none⟩ = false ∧ w.frozen? ⟨g, 3, none⟩ = false ∧ w.frozen? ⟨g, 4, none⟩ = false ∧ w.frozen? ⟨g, 5, none⟩ = false ∧ w.frozen? ⟨g, 6, none⟩ = false ∧ w.frozen? ⟨g, 7, none⟩ = false ∧ w.frozen? ⟨g, 8, none⟩ = false ∧ w.frozen? ⟨g, 9, none⟩ = false ∧ w.frozen? ⟨g, 10, none⟩ = false ∧ w.frozen? ⟨g, 11, none⟩ = false :=
  ⟨h.frozen 0, h.frozen 1, h.frozen 2, h.frozen 3, h.frozen 4, h.frozen 5, h.frozen 6, h.frozen 7, h.frozen 8, h.frozen 9, h.frozen 10, h.frozen 11⟩
set_option maxHeartbeats 4000000 in
theorem d11_long (A : Option Addr) (c : Nat) (b : List UInt8) (w : World) (hl : 188 < b.length) :
    Calls Try.prog 9 #[.slice A b.length c] w (DecPost w b) := by
  have HL := Lib.hid hl
  have HX := Lib.hid ((Below.refl _ w).alloc (Nat.le_refl _) (.cells #[.int .i64 0, .int .i64 0, .int .i64 0, .string ⟨#[]⟩, .int .i64 0, .slice none 0 0, .int .i64 0, .int .i64 0, .slice none 0 0, .int .i64 0, .int .i64 0, .int .i64 0] 28))
  have HZ := Lib.hid (show Whole (w.alloc (.cells #[.int .i64 0, .int .i64 0, .int .i64 0, .string ⟨#[]⟩, .int .i64 0, .slice none 0 0, .int .i64 0, .int .i64 0, .slice none 0 0, .int .i64 0, .int .i64 0, .int .i64 0] 28)) w.heap.size 28 (twelve r0 (.slice none 0 0) (.slice none 0 0)) from Whole.new w _ _)
  have hd : decide ((188 : Int) < (b.length : Int)) = true := by simp; omega
  go_enter Try.func9, Try.ntmps9
  go_upto_region 2 with (fail)
  generalize w.alloc (.cells #[.int .i64 0, .int .i64 0, .int .i64 0, .string ⟨#[]⟩, .int .i64 0, .slice none 0 0, .int .i64 0, .int .i64 0, .slice none 0 0, .int .i64 0, .int .i64 0, .int .i64 0] 28) = w1 at HX HZ ⊢
  obtain ⟨z0, z1, z2, z3, z4, z5, z6, z7, z8, z9, z10, z11⟩ := rec_cells HZ.out
  obtain ⟨f0, f1, f2, f3, f4, f5, f6, f7, f8, f9, f10, f11⟩ := frozen_rec HZ.out
  unfold BM.r0 BM.g0 at z0 z1 z2 z3 z4 z6 z7 z9 z10 z11
  go_wp2_with fail
  refine bodyPost_ret (v := .tuple #[.agg (twelve r0 (.slice none 0 0) (.slice none 0 0)), .int .i64 43]) (by simp [results, Try.results9, go_sem, z0, z1, z2, z3, z4, z5, z6, z7, z8, z9, z10, z11, twelve, BM.r0, BM.g0]) rfl ?_
  exact dec_no (fun h => absurd h.1 (by have := HL.out; omega)) (HX.out.trans ((((((((((((((Mod.refl [w.heap.size] _).store (p := ⟨w.heap.size, 0, none⟩) (.inl (by simp)) (.int .i64 0)).store (p := ⟨w.heap.size, 1, none⟩) (.inl (by simp)) (.int .i64 0)).store (p := ⟨w.heap.size, 2, none⟩) (.inl (by simp)) (.int .i64 0)).store (p := ⟨w.heap.size, 3, none⟩) (.inl (by simp)) (.string ⟨#[]⟩)).store (p := ⟨w.heap.size, 4, none⟩) (.inl (by simp)) (.int .i64 0)).store (p := ⟨w.heap.size, 5, none⟩) (.inl (by simp)) (.slice none 0 0)).store (p := ⟨w.heap.size, 6, none⟩) (.inl (by simp)) (.int .i64 0)).store (p := ⟨w.heap.size, 7, none⟩) (.inl (by simp)) (.int .i64 0)).store (p := ⟨w.heap.size, 8, none⟩) (.inl (by simp)) (.slice none 0 0)).store (p := ⟨w.heap.size, 9, none⟩) (.inl (by simp)) (.int .i64 0)).store (p := ⟨w.heap.size, 10, none⟩) (.inl (by simp)) (.int .i64 0)).store (p := ⟨w.heap.size, 11, none⟩) (.inl (by simp)) (.int .i64 0)).below HX.out.size (by intro x hx; simp at hx; omega)))
set_option maxHeartbeats 16000000 in
theorem d11_1 (A : Option Addr) (c : Nat) (b : List UInt8) (w : World) (hA : BytesAt w A b) (hc : b.length ≤ c) (hm : c ≤ 9223372036854775807) (hl : b.length ≤ 188) (hk : (WM.tnum (b, 0)).1 = 1) :
    Calls Try.prog 9 #[.slice A b.length c] w (DecPost w b) := by
  have HL := Lib.hid hl
  have HKK := Lib.hid hk
  clear hk
  have hd : decide ((188 : Int) < (b.length : Int)) = false := by simp; omega
  have HX2 := Lib.hid (((Below.refl _ w).alloc (Nat.le_refl _) (.cells #[.int .i64 0, .int .i64 0, .int .i64 0, .string ⟨#[]⟩, .int .i64 0, .slice none 0 0, .int .i64 0, .int .i64 0, .slice none 0 0, .int .i64 0, .int .i64 0, .int .i64 0] 28)).alloc (by simp) (.cells (tk2 A b.length c 0) 65))
  have HKR := Lib.hid (show Whole ((w.alloc (.cells #[.int .i64 0, .int .i64 0, .int .i64 0, .string ⟨#[]⟩, .int .i64 0, .slice none 0 0, .int .i64 0, .int .i64 0, .slice none 0 0, .int .i64 0, .int .i64 0, .int .i64 0] 28)).alloc (.cells (tk2 A b.length c 0) 65)) w.heap.size 28 (twelve r0 (.slice none 0 0) (.slice none 0 0)) from (Whole.new w 28 (twelve r0 (.slice none 0 0) (.slice none 0 0))).alloc _)
  have HTK := Lib.hid (show TkAt ((w.alloc (.cells #[.int .i64 0, .int .i64 0, .int .i64 0, .string ⟨#[]⟩, .int .i64 0, .slice none 0 0, .int .i64 0, .int .i64 0, .slice none 0 0, .int .i64 0, .int .i64 0, .int .i64 0] 28)).alloc (.cells (tk2 A b.length c 0) 65)) (w.heap.size + 1) w.heap.size (b, 0) from ⟨A, c, by have h := Whole.new (w.alloc (.cells #[.int .i64 0, .int .i64 0, .int .i64 0, .string ⟨#[]⟩, .int .i64 0, .slice none 0 0, .int .i64 0, .int .i64 0, .slice none 0 0, .int .i64 0, .int .i64 0, .int .i64 0] 28)) 65 (tk2 A b.length c 0); have e : (w.alloc (.cells #[.int .i64 0, .int .i64 0, .int .i64 0, .string ⟨#[]⟩, .int .i64 0, .slice none 0 0, .int .i64 0, .int .i64 0, .slice none 0 0, .int .i64 0, .int .i64 0, .int .i64 0] 28)).heap.size = w.heap.size + 1 := (by simp); rw [e] at h; exact h, hA.below HX2.out, hc, hm, fun h0 ad e => by obtain ⟨bb, oo, eA, hlt, _⟩ := hA h0; rw [e] at eA; injection eA with eA; rw [eA]; exact hlt⟩)
  have HSZ := Lib.hid (show ((w.alloc (.cells #[.int .i64 0, .int .i64 0, .int .i64 0, .string ⟨#[]⟩, .int .i64 0, .slice none 0 0, .int .i64 0, .int .i64 0, .slice none 0 0, .int .i64 0, .int .i64 0, .int .i64 0] 28)).alloc (.cells (tk2 A b.length c 0) 65)).heap.size = w.heap.size + 2 by simp)
  have HBY := Lib.hid hA
  clear hA hl
  unfold tk2 at HX2 HKR HTK HSZ
  go_enter Try.func9, Try.ntmps9
  go_upto_region 4 with (fail)
  generalize (w.alloc (.cells #[.int .i64 0, .int .i64 0, .int .i64 0, .string ⟨#[]⟩, .int .i64 0, .slice none 0 0, .int .i64 0, .int .i64 0, .slice none 0 0, .int .i64 0, .int .i64 0, .int .i64 0] 28)).alloc (.cells #[.slice A b.length c, .int .i64 ((0 : Nat) : Int)] 65) = wa at HX2 HKR HTK HSZ ⊢
  have HT := Lib.hid (show D11 w r0 (.slice none 0 0) (.slice none 0 0) (wa.alloc (.cells #[.int .i64 0, .int .i64 0, .int .i64 0, .string ⟨#[]⟩, .int .i64 0, .slice none 0 0, .int .i64 0, .int .i64 0, .slice none 0 0, .int .i64 0, .int .i64 0, .int .i64 0] 28)) from ⟨HKR.out.alloc _, by have h := Whole.new wa 28 (twelve r0 (.slice none 0 0) (.slice none 0 0)); rw [HSZ.out] at h; exact h, World.ownsRow_nil _ _ _ _, World.ownsRow_nil _ _ _ _, (HX2.out).alloc (by have := HSZ.out; omega) _, by have := HSZ.out; simp; omega⟩)
  have HK := Lib.hid (HTK.out.below ((Below.refl _ wa).alloc (Nat.le_refl _) (.cells #[.int .i64 0, .int .i64 0, .int .i64 0, .string ⟨#[]⟩, .int .i64 0, .slice none 0 0, .int .i64 0, .int .i64 0, .slice none 0 0, .int .i64 0, .int .i64 0, .int .i64 0] 28)))
  clear HX2 HKR HTK
  go_upto_region 5 with (fail)
  rw [HSZ.out]
  generalize wa.alloc (.cells #[.int .i64 0, .int .i64 0, .int .i64 0, .string ⟨#[]⟩, .int .i64 0, .slice none 0 0, .int .i64 0, .int .i64 0, .slice none 0 0, .int .i64 0, .int .i64 0, .int .i64 0] 28) = w0 at HT HK ⊢
  clear HSZ
  go_wp2_with fail
  refine (r11_tnum (w.heap.size + 1) w.heap.size (b, 0) _ HK.out).mono ?_
  rintro e x1 ⟨rfl, h2, hm2⟩
  have HT2 := Lib.hid (HT.out.num hm2)
  have HK2 := Lib.hid h2
  clear h2 hm2 HT HK
  generalize ha : WM.tnum (b, 0) = t1 at HK2 ⊢ HKK
  obtain ⟨n1, s1⟩ := t1
  have HA1 := Lib.hid ha
  clear ha
  dsimp only at HK2 ⊢ HKK
  have hk1 := HKK.out
  subst hk1
  obtain ⟨c0, c1, c2', c3, c4, c5, c6, c7, c8, c9, c10, c11⟩ := rec_cells HT2.out.kb
  have fz := HT2.out.kb.frozen 0
  go_upto_region 6 with (fail)
  have HT := Lib.hid (HT2.out.store (i := 0) (x := .int .i64 1) (q' := { r0 with kind := 1 }) (V' := (.slice none 0 0)) (U' := (.slice none 0 0)) rfl HT2.out.rg HT2.out.ru)
  have HK := Lib.hid (tk_store (i := 0) (x := .int .i64 1) (g := w.heap.size + 2) HK2.out (by omega) (by omega))
  clear HT2 HK2 fz c0 c1 c2' c3 c4 c5 c6 c7 c8 c9 c10 c11
  generalize World.setCell _ _ _ = y1 at HT HK ⊢
  obtain ⟨c0, c1, c2', c3, c4, c5, c6, c7, c8, c9, c10, c11⟩ := rec_cells HT.out.kb
  go_wp2_with fail
  refine (r11_tnum (w.heap.size + 1) w.heap.size s1 _ HK.out).mono ?_
  rintro e x2 ⟨rfl, h2, hm2⟩
  have HT2 := Lib.hid (HT.out.num hm2)
  have HK2 := Lib.hid h2
  clear h2 hm2 HT HK c0 c1 c2' c3 c4 c5 c6 c7 c8 c9 c10 c11
  generalize ha : WM.tnum s1 = t2 at HK2 ⊢
  obtain ⟨n2, s2⟩ := t2
  have HA2 := Lib.hid ha
  clear ha
  dsimp only at HK2 ⊢
  obtain ⟨c0, c1, c2', c3, c4, c5, c6, c7, c8, c9, c10, c11⟩ := rec_cells HT2.out.kb
  have fz := HT2.out.kb.frozen 9
  go_upto_region 9 with (fail)
  have HT := Lib.hid (HT2.out.store (i := 9) (x := .int .i64 n2) (q' := { r0 with kind := 1, next := n2 }) (V' := (.slice none 0 0)) (U' := (.slice none 0 0)) rfl HT2.out.rg HT2.out.ru)
  have HK := Lib.hid (tk_store (i := 9) (x := .int .i64 n2) (g := w.heap.size + 2) HK2.out (by omega) (by omega))
  clear HT2 HK2 fz c0 c1 c2' c3 c4 c5 c6 c7 c8 c9 c10 c11
  generalize World.setCell _ _ _ = y2 at HT HK ⊢
  obtain ⟨c0, c1, c2', c3, c4, c5, c6, c7, c8, c9, c10, c11⟩ := rec_cells HT.out.kb
  go_wp2_with fail
  refine (r11_tnum (w.heap.size + 1) w.heap.size s2 _ HK.out).mono ?_
  rintro e x3 ⟨rfl, h2, hm2⟩
  have HT2 := Lib.hid (HT.out.num hm2)
  have HK2 := Lib.hid h2
  clear h2 hm2 HT HK c0 c1 c2' c3 c4 c5 c6 c7 c8 c9 c10 c11
  generalize ha : WM.tnum s2 = t3 at HK2 ⊢
  obtain ⟨n3, s3⟩ := t3
  have HA3 := Lib.hid ha
  clear ha
  dsimp only at HK2 ⊢
  obtain ⟨c0, c1, c2', c3, c4, c5, c6, c7, c8, c9, c10, c11⟩ := rec_cells HT2.out.kb
  have fz := HT2.out.kb.frozen 10
  go_upto_region 27 with (fail)
  have HT := Lib.hid (HT2.out.store (i := 10) (x := .int .i64 n3) (q' := { r0 with kind := 1, next := n2, boots := n3 }) (V' := (.slice none 0 0)) (U' := (.slice none 0 0)) rfl HT2.out.rg HT2.out.ru)
  have HK := Lib.hid (tk_store (i := 10) (x := .int .i64 n3) (g := w.heap.size + 2) HK2.out (by omega) (by omega))
  clear HT2 HK2 fz c0 c1 c2' c3 c4 c5 c6 c7 c8 c9 c10 c11
  generalize World.setCell _ _ _ = y3 at HT HK ⊢
  obtain ⟨c0, c1, c2', c3, c4, c5, c6, c7, c8, c9, c10, c11⟩ := rec_cells HT.out.kb
  have HMM := Lib.hid (show BM.taken 5 b = { r0 with kind := 1, next := n2, boots := n3 } by
    have hk := HKK.out
    unfold BM.taken
    rw [HA1.out]
    simp [BM.partT, BM.grantT, HA2.out, HA3.out, BM.r0, BM.g0])
  have HRT := Lib.hid (rw_taken 5 (by omega) b)
  rw [HMM.out] at HRT
  have HF := Lib.hid (fit_own HRT.out HT.out.rg HT.out.ru)
  clear HK HRT
  go_wp2_with fail
  refine (r11_Encode _ _ _ _ HF.out).mono ?_
  rintro e w6 ⟨A6, cz6, rfl, ho6, hb6⟩
  have HT6 := Lib.hid (HT.out.on hb6)
  have HO6 := Lib.hid ho6
  have HKB := Lib.hid HT6.out.kb
  clear ho6 hb6 HT HF c0 c1 c2' c3 c4 c5 c6 c7 c8 c9 c10 c11
  cases hor : BM.okRc ({ r0 with kind := 1, next := n2, boots := n3 }) with
  | false =>
    have he : BM.encode ({ r0 with kind := 1, next := n2, boots := n3 }) = ([], 43) := if_neg (by rw [hor]; decide)
    have HNO := Lib.hid (show ¬ (b.length ≤ 188 ∧ BM.okRc (BM.taken 5 b) = true ∧ BM.laid (BM.taken 5 b) = b) from fun h => by have h2 := h.2.1; rw [HMM.out, hor] at h2; cases h2)
    rw [he]
    clear he hor HO6 HKB HMM
    obtain ⟨z0, z1, z2, z3, z4, z5, z6, z7, z8, z9, z10, z11⟩ := rec_cells HT6.out.kr
    obtain ⟨f0, f1, f2, f3, f4, f5, f6, f7, f8, f9, f10, f11⟩ := frozen_rec HT6.out.kr
    unfold BM.r0 BM.g0 at z0 z1 z2 z3 z4 z6 z7 z9 z10 z11
    go_wp2_with fail
    refine bodyPost_ret (v := .tuple #[.agg (twelve r0 (.slice none 0 0) (.slice none 0 0)), .int .i64 43]) (by simp [results, Try.results9, go_sem, z0, z1, z2, z3, z4, z5, z6, z7, z8, z9, z10, z11, twelve, BM.r0, BM.g0]) rfl ?_
    exact dec_no (HNO.out) (HT6.out.below.trans ((((((((((((((Mod.refl [w.heap.size] _).store (p := ⟨w.heap.size, 0, none⟩) (.inl (by simp)) (.int .i64 0)).store (p := ⟨w.heap.size, 1, none⟩) (.inl (by simp)) (.int .i64 0)).store (p := ⟨w.heap.size, 2, none⟩) (.inl (by simp)) (.int .i64 0)).store (p := ⟨w.heap.size, 3, none⟩) (.inl (by simp)) (.string ⟨#[]⟩)).store (p := ⟨w.heap.size, 4, none⟩) (.inl (by simp)) (.int .i64 0)).store (p := ⟨w.heap.size, 5, none⟩) (.inl (by simp)) (.slice none 0 0)).store (p := ⟨w.heap.size, 6, none⟩) (.inl (by simp)) (.int .i64 0)).store (p := ⟨w.heap.size, 7, none⟩) (.inl (by simp)) (.int .i64 0)).store (p := ⟨w.heap.size, 8, none⟩) (.inl (by simp)) (.slice none 0 0)).store (p := ⟨w.heap.size, 9, none⟩) (.inl (by simp)) (.int .i64 0)).store (p := ⟨w.heap.size, 10, none⟩) (.inl (by simp)) (.int .i64 0)).store (p := ⟨w.heap.size, 11, none⟩) (.inl (by simp)) (.int .i64 0)).below HT6.out.below.size (by intro x hx; simp at hx; omega)))
  | true =>
    have he : BM.encode ({ r0 with kind := 1, next := n2, boots := n3 }) = (BM.laid ({ r0 with kind := 1, next := n2, boots := n3 }), 0) := if_pos hor
    rw [he] at HO6 ⊢
    clear he
    have HOR := Lib.hid hor
    clear hor
    generalize hLD : BM.laid ({ r0 with kind := 1, next := n2, boots := n3 }) = ld at HO6 ⊢
    have HLD := Lib.hid hLD
    clear hLD
    have hcv1 := By.str_of (c := cz6) (show By.BytesAt w6 A6 ld from By.BytesAt.own HO6.out)
    have hcv2 := By.str_of (c := c) (show By.BytesAt w6 A b from HBY.out.below HT6.out.below)
    by_cases heq : ld = b
    · subst heq
      obtain ⟨c0, c1, c2', c3, c4, c5, c6, c7, c8, c9, c10, c11⟩ := rec_cells HKB.out
      obtain ⟨z0, z1, z2, z3, z4, z5, z6, z7, z8, z9, z10, z11⟩ := rec_cells HT6.out.kr
      obtain ⟨f0, f1, f2, f3, f4, f5, f6, f7, f8, f9, f10, f11⟩ := frozen_rec HT6.out.kr
      go_wp2_with fail
      refine bodyPost_ret (v := .tuple #[.agg (twelve ({ r0 with kind := 1, next := n2, boots := n3 }) (.slice none 0 0) (.slice none 0 0)), .int .i64 0]) (by simp [results, Try.results9, go_sem, z0, z1, z2, z3, z4, z5, z6, z7, z8, z9, z10, z11, twelve, BM.r0, BM.g0]) rfl ?_
      have hM := (((((((((((((Mod.refl [w.heap.size] w6).store (p := ⟨w.heap.size, 0, none⟩) (.inl (by simp)) (.int .i64 ({ r0 with kind := 1, next := n2, boots := n3 }).kind)).store (p := ⟨w.heap.size, 1, none⟩) (.inl (by simp)) (.int .i64 ({ r0 with kind := 1, next := n2, boots := n3 }).g.id)).store (p := ⟨w.heap.size, 2, none⟩) (.inl (by simp)) (.int .i64 ({ r0 with kind := 1, next := n2, boots := n3 }).g.holder)).store (p := ⟨w.heap.size, 3, none⟩) (.inl (by simp)) (.string ({ r0 with kind := 1, next := n2, boots := n3 }).g.path)).store (p := ⟨w.heap.size, 4, none⟩) (.inl (by simp)) (.int .i64 ({ r0 with kind := 1, next := n2, boots := n3 }).g.mode)).store (p := ⟨w.heap.size, 5, none⟩) (.inl (by simp)) (.slice none 0 0)).store (p := ⟨w.heap.size, 6, none⟩) (.inl (by simp)) (.int .i64 ({ r0 with kind := 1, next := n2, boots := n3 }).g.term)).store (p := ⟨w.heap.size, 7, none⟩) (.inl (by simp)) (.int .i64 ({ r0 with kind := 1, next := n2, boots := n3 }).id)).store (p := ⟨w.heap.size, 8, none⟩) (.inl (by simp)) (.slice none 0 0)).store (p := ⟨w.heap.size, 9, none⟩) (.inl (by simp)) (.int .i64 ({ r0 with kind := 1, next := n2, boots := n3 }).next)).store (p := ⟨w.heap.size, 10, none⟩) (.inl (by simp)) (.int .i64 ({ r0 with kind := 1, next := n2, boots := n3 }).boots)).store (p := ⟨w.heap.size, 11, none⟩) (.inl (by simp)) (.int .i64 ({ r0 with kind := 1, next := n2, boots := n3 }).longest))
      exact dec_yes HMM.out ⟨HL.out, HOR.out, HLD.out⟩ (hM.own HT6.out.rg (fun k hk => by have := (HT6.out.rg.lt k hk).1; simp; omega)) (hM.own HT6.out.ru (fun k hk => by have := (HT6.out.ru.lt k hk).1; simp; omega)) (HT6.out.below.trans (hM.below HT6.out.below.size (by intro x hx; simp at hx; omega)))
    · have HNO := Lib.hid (show ¬ (b.length ≤ 188 ∧ BM.okRc (BM.taken 5 b) = true ∧ BM.laid (BM.taken 5 b) = b) from fun h => by have h2 := h.2.2; rw [HMM.out, HLD.out] at h2; exact heq h2)
      have hne2 : ((⟨ld.toArray⟩ : ByteArray).toList == (⟨b.toArray⟩ : ByteArray).toList) = false := by
        rw [beq_eq_false_iff_ne]
        intro e
        rw [Lib.toList_data, Lib.toList_data] at e
        exact heq (by simpa using e)
      obtain ⟨xa, hxa⟩ : ∃ x, x = (⟨ld.toArray⟩ : ByteArray) := ⟨_, rfl⟩
      obtain ⟨xb, hxb⟩ : ∃ x, x = (⟨b.toArray⟩ : ByteArray) := ⟨_, rfl⟩
      rw [← hxa] at hcv1 hne2
      rw [← hxb] at hcv2 hne2
      have hne3 : (xa.toList != xb.toList) = true := by simp [bne, hne2]
      have hne4 : ¬ xa.toList = xb.toList := by simpa using hne2
      clear hxa hxb heq HO6 HKB HMM HLD
      obtain ⟨z0, z1, z2, z3, z4, z5, z6, z7, z8, z9, z10, z11⟩ := rec_cells HT6.out.kr
      obtain ⟨f0, f1, f2, f3, f4, f5, f6, f7, f8, f9, f10, f11⟩ := frozen_rec HT6.out.kr
      unfold BM.r0 BM.g0 at z0 z1 z2 z3 z4 z6 z7 z9 z10 z11
      go_wp2_with fail
      refine bodyPost_ret (v := .tuple #[.agg (twelve r0 (.slice none 0 0) (.slice none 0 0)), .int .i64 43]) (by simp [results, Try.results9, go_sem, z0, z1, z2, z3, z4, z5, z6, z7, z8, z9, z10, z11, twelve, BM.r0, BM.g0]) rfl ?_
      exact dec_no (HNO.out) (HT6.out.below.trans ((((((((((((((Mod.refl [w.heap.size] _).store (p := ⟨w.heap.size, 0, none⟩) (.inl (by simp)) (.int .i64 0)).store (p := ⟨w.heap.size, 1, none⟩) (.inl (by simp)) (.int .i64 0)).store (p := ⟨w.heap.size, 2, none⟩) (.inl (by simp)) (.int .i64 0)).store (p := ⟨w.heap.size, 3, none⟩) (.inl (by simp)) (.string ⟨#[]⟩)).store (p := ⟨w.heap.size, 4, none⟩) (.inl (by simp)) (.int .i64 0)).store (p := ⟨w.heap.size, 5, none⟩) (.inl (by simp)) (.slice none 0 0)).store (p := ⟨w.heap.size, 6, none⟩) (.inl (by simp)) (.int .i64 0)).store (p := ⟨w.heap.size, 7, none⟩) (.inl (by simp)) (.int .i64 0)).store (p := ⟨w.heap.size, 8, none⟩) (.inl (by simp)) (.slice none 0 0)).store (p := ⟨w.heap.size, 9, none⟩) (.inl (by simp)) (.int .i64 0)).store (p := ⟨w.heap.size, 10, none⟩) (.inl (by simp)) (.int .i64 0)).store (p := ⟨w.heap.size, 11, none⟩) (.inl (by simp)) (.int .i64 0)).below HT6.out.below.size (by intro x hx; simp at hx; omega)))
set_option maxHeartbeats 16000000 in
theorem d11_2 (A : Option Addr) (c : Nat) (b : List UInt8) (w : World) (hA : BytesAt w A b) (hc : b.length ≤ c) (hm : c ≤ 9223372036854775807) (hl : b.length ≤ 188) (hk : (WM.tnum (b, 0)).1 = 2) :
    Calls Try.prog 9 #[.slice A b.length c] w (DecPost w b) := by
  have HL := Lib.hid hl
  have HKK := Lib.hid hk
  clear hk
  have hd : decide ((188 : Int) < (b.length : Int)) = false := by simp; omega
  have HX2 := Lib.hid (((Below.refl _ w).alloc (Nat.le_refl _) (.cells #[.int .i64 0, .int .i64 0, .int .i64 0, .string ⟨#[]⟩, .int .i64 0, .slice none 0 0, .int .i64 0, .int .i64 0, .slice none 0 0, .int .i64 0, .int .i64 0, .int .i64 0] 28)).alloc (by simp) (.cells (tk2 A b.length c 0) 65))
  have HKR := Lib.hid (show Whole ((w.alloc (.cells #[.int .i64 0, .int .i64 0, .int .i64 0, .string ⟨#[]⟩, .int .i64 0, .slice none 0 0, .int .i64 0, .int .i64 0, .slice none 0 0, .int .i64 0, .int .i64 0, .int .i64 0] 28)).alloc (.cells (tk2 A b.length c 0) 65)) w.heap.size 28 (twelve r0 (.slice none 0 0) (.slice none 0 0)) from (Whole.new w 28 (twelve r0 (.slice none 0 0) (.slice none 0 0))).alloc _)
  have HTK := Lib.hid (show TkAt ((w.alloc (.cells #[.int .i64 0, .int .i64 0, .int .i64 0, .string ⟨#[]⟩, .int .i64 0, .slice none 0 0, .int .i64 0, .int .i64 0, .slice none 0 0, .int .i64 0, .int .i64 0, .int .i64 0] 28)).alloc (.cells (tk2 A b.length c 0) 65)) (w.heap.size + 1) w.heap.size (b, 0) from ⟨A, c, by have h := Whole.new (w.alloc (.cells #[.int .i64 0, .int .i64 0, .int .i64 0, .string ⟨#[]⟩, .int .i64 0, .slice none 0 0, .int .i64 0, .int .i64 0, .slice none 0 0, .int .i64 0, .int .i64 0, .int .i64 0] 28)) 65 (tk2 A b.length c 0); have e : (w.alloc (.cells #[.int .i64 0, .int .i64 0, .int .i64 0, .string ⟨#[]⟩, .int .i64 0, .slice none 0 0, .int .i64 0, .int .i64 0, .slice none 0 0, .int .i64 0, .int .i64 0, .int .i64 0] 28)).heap.size = w.heap.size + 1 := (by simp); rw [e] at h; exact h, hA.below HX2.out, hc, hm, fun h0 ad e => by obtain ⟨bb, oo, eA, hlt, _⟩ := hA h0; rw [e] at eA; injection eA with eA; rw [eA]; exact hlt⟩)
  have HSZ := Lib.hid (show ((w.alloc (.cells #[.int .i64 0, .int .i64 0, .int .i64 0, .string ⟨#[]⟩, .int .i64 0, .slice none 0 0, .int .i64 0, .int .i64 0, .slice none 0 0, .int .i64 0, .int .i64 0, .int .i64 0] 28)).alloc (.cells (tk2 A b.length c 0) 65)).heap.size = w.heap.size + 2 by simp)
  have HBY := Lib.hid hA
  clear hA hl
  unfold tk2 at HX2 HKR HTK HSZ
  go_enter Try.func9, Try.ntmps9
  go_upto_region 4 with (fail)
  generalize (w.alloc (.cells #[.int .i64 0, .int .i64 0, .int .i64 0, .string ⟨#[]⟩, .int .i64 0, .slice none 0 0, .int .i64 0, .int .i64 0, .slice none 0 0, .int .i64 0, .int .i64 0, .int .i64 0] 28)).alloc (.cells #[.slice A b.length c, .int .i64 ((0 : Nat) : Int)] 65) = wa at HX2 HKR HTK HSZ ⊢
  have HT := Lib.hid (show D11 w r0 (.slice none 0 0) (.slice none 0 0) (wa.alloc (.cells #[.int .i64 0, .int .i64 0, .int .i64 0, .string ⟨#[]⟩, .int .i64 0, .slice none 0 0, .int .i64 0, .int .i64 0, .slice none 0 0, .int .i64 0, .int .i64 0, .int .i64 0] 28)) from ⟨HKR.out.alloc _, by have h := Whole.new wa 28 (twelve r0 (.slice none 0 0) (.slice none 0 0)); rw [HSZ.out] at h; exact h, World.ownsRow_nil _ _ _ _, World.ownsRow_nil _ _ _ _, (HX2.out).alloc (by have := HSZ.out; omega) _, by have := HSZ.out; simp; omega⟩)
  have HK := Lib.hid (HTK.out.below ((Below.refl _ wa).alloc (Nat.le_refl _) (.cells #[.int .i64 0, .int .i64 0, .int .i64 0, .string ⟨#[]⟩, .int .i64 0, .slice none 0 0, .int .i64 0, .int .i64 0, .slice none 0 0, .int .i64 0, .int .i64 0, .int .i64 0] 28)))
  clear HX2 HKR HTK
  go_upto_region 5 with (fail)
  rw [HSZ.out]
  generalize wa.alloc (.cells #[.int .i64 0, .int .i64 0, .int .i64 0, .string ⟨#[]⟩, .int .i64 0, .slice none 0 0, .int .i64 0, .int .i64 0, .slice none 0 0, .int .i64 0, .int .i64 0, .int .i64 0] 28) = w0 at HT HK ⊢
  clear HSZ
  go_wp2_with fail
  refine (r11_tnum (w.heap.size + 1) w.heap.size (b, 0) _ HK.out).mono ?_
  rintro e x1 ⟨rfl, h2, hm2⟩
  have HT2 := Lib.hid (HT.out.num hm2)
  have HK2 := Lib.hid h2
  clear h2 hm2 HT HK
  generalize ha : WM.tnum (b, 0) = t1 at HK2 ⊢ HKK
  obtain ⟨n1, s1⟩ := t1
  have HA1 := Lib.hid ha
  clear ha
  dsimp only at HK2 ⊢ HKK
  have hk1 := HKK.out
  subst hk1
  obtain ⟨c0, c1, c2', c3, c4, c5, c6, c7, c8, c9, c10, c11⟩ := rec_cells HT2.out.kb
  have fz := HT2.out.kb.frozen 0
  go_upto_region 6 with (fail)
  have HT := Lib.hid (HT2.out.store (i := 0) (x := .int .i64 2) (q' := { r0 with kind := 2 }) (V' := (.slice none 0 0)) (U' := (.slice none 0 0)) rfl HT2.out.rg HT2.out.ru)
  have HK := Lib.hid (tk_store (i := 0) (x := .int .i64 2) (g := w.heap.size + 2) HK2.out (by omega) (by omega))
  clear HT2 HK2 fz c0 c1 c2' c3 c4 c5 c6 c7 c8 c9 c10 c11
  generalize World.setCell _ _ _ = y1 at HT HK ⊢
  obtain ⟨c0, c1, c2', c3, c4, c5, c6, c7, c8, c9, c10, c11⟩ := rec_cells HT.out.kb
  go_wp2_with fail
  refine (r11_tnum (w.heap.size + 1) w.heap.size s1 _ HK.out).mono ?_
  rintro e x2 ⟨rfl, h2, hm2⟩
  have HT2 := Lib.hid (HT.out.num hm2)
  have HK2 := Lib.hid h2
  clear h2 hm2 HT HK c0 c1 c2' c3 c4 c5 c6 c7 c8 c9 c10 c11
  generalize ha : WM.tnum s1 = t2 at HK2 ⊢
  obtain ⟨n2, s2⟩ := t2
  have HA2 := Lib.hid ha
  clear ha
  dsimp only at HK2 ⊢
  obtain ⟨c0, c1, c2', c3, c4, c5, c6, c7, c8, c9, c10, c11⟩ := rec_cells HT2.out.kb
  have fz := HT2.out.kb.frozen 11
  go_upto_region 27 with (fail)
  have HT := Lib.hid (HT2.out.store (i := 11) (x := .int .i64 n2) (q' := { r0 with kind := 2, longest := n2 }) (V' := (.slice none 0 0)) (U' := (.slice none 0 0)) rfl HT2.out.rg HT2.out.ru)
  have HK := Lib.hid (tk_store (i := 11) (x := .int .i64 n2) (g := w.heap.size + 2) HK2.out (by omega) (by omega))
  clear HT2 HK2 fz c0 c1 c2' c3 c4 c5 c6 c7 c8 c9 c10 c11
  generalize World.setCell _ _ _ = y2 at HT HK ⊢
  obtain ⟨c0, c1, c2', c3, c4, c5, c6, c7, c8, c9, c10, c11⟩ := rec_cells HT.out.kb
  have HMM := Lib.hid (show BM.taken 5 b = { r0 with kind := 2, longest := n2 } by
    have hk := HKK.out
    unfold BM.taken
    rw [HA1.out]
    simp [BM.partT, BM.grantT, HA2.out, BM.r0, BM.g0])
  have HRT := Lib.hid (rw_taken 5 (by omega) b)
  rw [HMM.out] at HRT
  have HF := Lib.hid (fit_own HRT.out HT.out.rg HT.out.ru)
  clear HK HRT
  go_wp2_with fail
  refine (r11_Encode _ _ _ _ HF.out).mono ?_
  rintro e w6 ⟨A6, cz6, rfl, ho6, hb6⟩
  have HT6 := Lib.hid (HT.out.on hb6)
  have HO6 := Lib.hid ho6
  have HKB := Lib.hid HT6.out.kb
  clear ho6 hb6 HT HF c0 c1 c2' c3 c4 c5 c6 c7 c8 c9 c10 c11
  cases hor : BM.okRc ({ r0 with kind := 2, longest := n2 }) with
  | false =>
    have he : BM.encode ({ r0 with kind := 2, longest := n2 }) = ([], 43) := if_neg (by rw [hor]; decide)
    have HNO := Lib.hid (show ¬ (b.length ≤ 188 ∧ BM.okRc (BM.taken 5 b) = true ∧ BM.laid (BM.taken 5 b) = b) from fun h => by have h2 := h.2.1; rw [HMM.out, hor] at h2; cases h2)
    rw [he]
    clear he hor HO6 HKB HMM
    obtain ⟨z0, z1, z2, z3, z4, z5, z6, z7, z8, z9, z10, z11⟩ := rec_cells HT6.out.kr
    obtain ⟨f0, f1, f2, f3, f4, f5, f6, f7, f8, f9, f10, f11⟩ := frozen_rec HT6.out.kr
    unfold BM.r0 BM.g0 at z0 z1 z2 z3 z4 z6 z7 z9 z10 z11
    go_wp2_with fail
    refine bodyPost_ret (v := .tuple #[.agg (twelve r0 (.slice none 0 0) (.slice none 0 0)), .int .i64 43]) (by simp [results, Try.results9, go_sem, z0, z1, z2, z3, z4, z5, z6, z7, z8, z9, z10, z11, twelve, BM.r0, BM.g0]) rfl ?_
    exact dec_no (HNO.out) (HT6.out.below.trans ((((((((((((((Mod.refl [w.heap.size] _).store (p := ⟨w.heap.size, 0, none⟩) (.inl (by simp)) (.int .i64 0)).store (p := ⟨w.heap.size, 1, none⟩) (.inl (by simp)) (.int .i64 0)).store (p := ⟨w.heap.size, 2, none⟩) (.inl (by simp)) (.int .i64 0)).store (p := ⟨w.heap.size, 3, none⟩) (.inl (by simp)) (.string ⟨#[]⟩)).store (p := ⟨w.heap.size, 4, none⟩) (.inl (by simp)) (.int .i64 0)).store (p := ⟨w.heap.size, 5, none⟩) (.inl (by simp)) (.slice none 0 0)).store (p := ⟨w.heap.size, 6, none⟩) (.inl (by simp)) (.int .i64 0)).store (p := ⟨w.heap.size, 7, none⟩) (.inl (by simp)) (.int .i64 0)).store (p := ⟨w.heap.size, 8, none⟩) (.inl (by simp)) (.slice none 0 0)).store (p := ⟨w.heap.size, 9, none⟩) (.inl (by simp)) (.int .i64 0)).store (p := ⟨w.heap.size, 10, none⟩) (.inl (by simp)) (.int .i64 0)).store (p := ⟨w.heap.size, 11, none⟩) (.inl (by simp)) (.int .i64 0)).below HT6.out.below.size (by intro x hx; simp at hx; omega)))
  | true =>
    have he : BM.encode ({ r0 with kind := 2, longest := n2 }) = (BM.laid ({ r0 with kind := 2, longest := n2 }), 0) := if_pos hor
    rw [he] at HO6 ⊢
    clear he
    have HOR := Lib.hid hor
    clear hor
    generalize hLD : BM.laid ({ r0 with kind := 2, longest := n2 }) = ld at HO6 ⊢
    have HLD := Lib.hid hLD
    clear hLD
    have hcv1 := By.str_of (c := cz6) (show By.BytesAt w6 A6 ld from By.BytesAt.own HO6.out)
    have hcv2 := By.str_of (c := c) (show By.BytesAt w6 A b from HBY.out.below HT6.out.below)
    by_cases heq : ld = b
    · subst heq
      obtain ⟨c0, c1, c2', c3, c4, c5, c6, c7, c8, c9, c10, c11⟩ := rec_cells HKB.out
      obtain ⟨z0, z1, z2, z3, z4, z5, z6, z7, z8, z9, z10, z11⟩ := rec_cells HT6.out.kr
      obtain ⟨f0, f1, f2, f3, f4, f5, f6, f7, f8, f9, f10, f11⟩ := frozen_rec HT6.out.kr
      go_wp2_with fail
      refine bodyPost_ret (v := .tuple #[.agg (twelve ({ r0 with kind := 2, longest := n2 }) (.slice none 0 0) (.slice none 0 0)), .int .i64 0]) (by simp [results, Try.results9, go_sem, z0, z1, z2, z3, z4, z5, z6, z7, z8, z9, z10, z11, twelve, BM.r0, BM.g0]) rfl ?_
      have hM := (((((((((((((Mod.refl [w.heap.size] w6).store (p := ⟨w.heap.size, 0, none⟩) (.inl (by simp)) (.int .i64 ({ r0 with kind := 2, longest := n2 }).kind)).store (p := ⟨w.heap.size, 1, none⟩) (.inl (by simp)) (.int .i64 ({ r0 with kind := 2, longest := n2 }).g.id)).store (p := ⟨w.heap.size, 2, none⟩) (.inl (by simp)) (.int .i64 ({ r0 with kind := 2, longest := n2 }).g.holder)).store (p := ⟨w.heap.size, 3, none⟩) (.inl (by simp)) (.string ({ r0 with kind := 2, longest := n2 }).g.path)).store (p := ⟨w.heap.size, 4, none⟩) (.inl (by simp)) (.int .i64 ({ r0 with kind := 2, longest := n2 }).g.mode)).store (p := ⟨w.heap.size, 5, none⟩) (.inl (by simp)) (.slice none 0 0)).store (p := ⟨w.heap.size, 6, none⟩) (.inl (by simp)) (.int .i64 ({ r0 with kind := 2, longest := n2 }).g.term)).store (p := ⟨w.heap.size, 7, none⟩) (.inl (by simp)) (.int .i64 ({ r0 with kind := 2, longest := n2 }).id)).store (p := ⟨w.heap.size, 8, none⟩) (.inl (by simp)) (.slice none 0 0)).store (p := ⟨w.heap.size, 9, none⟩) (.inl (by simp)) (.int .i64 ({ r0 with kind := 2, longest := n2 }).next)).store (p := ⟨w.heap.size, 10, none⟩) (.inl (by simp)) (.int .i64 ({ r0 with kind := 2, longest := n2 }).boots)).store (p := ⟨w.heap.size, 11, none⟩) (.inl (by simp)) (.int .i64 ({ r0 with kind := 2, longest := n2 }).longest))
      exact dec_yes HMM.out ⟨HL.out, HOR.out, HLD.out⟩ (hM.own HT6.out.rg (fun k hk => by have := (HT6.out.rg.lt k hk).1; simp; omega)) (hM.own HT6.out.ru (fun k hk => by have := (HT6.out.ru.lt k hk).1; simp; omega)) (HT6.out.below.trans (hM.below HT6.out.below.size (by intro x hx; simp at hx; omega)))
    · have HNO := Lib.hid (show ¬ (b.length ≤ 188 ∧ BM.okRc (BM.taken 5 b) = true ∧ BM.laid (BM.taken 5 b) = b) from fun h => by have h2 := h.2.2; rw [HMM.out, HLD.out] at h2; exact heq h2)
      have hne2 : ((⟨ld.toArray⟩ : ByteArray).toList == (⟨b.toArray⟩ : ByteArray).toList) = false := by
        rw [beq_eq_false_iff_ne]
        intro e
        rw [Lib.toList_data, Lib.toList_data] at e
        exact heq (by simpa using e)
      obtain ⟨xa, hxa⟩ : ∃ x, x = (⟨ld.toArray⟩ : ByteArray) := ⟨_, rfl⟩
      obtain ⟨xb, hxb⟩ : ∃ x, x = (⟨b.toArray⟩ : ByteArray) := ⟨_, rfl⟩
      rw [← hxa] at hcv1 hne2
      rw [← hxb] at hcv2 hne2
      have hne3 : (xa.toList != xb.toList) = true := by simp [bne, hne2]
      have hne4 : ¬ xa.toList = xb.toList := by simpa using hne2
      clear hxa hxb heq HO6 HKB HMM HLD
      obtain ⟨z0, z1, z2, z3, z4, z5, z6, z7, z8, z9, z10, z11⟩ := rec_cells HT6.out.kr
      obtain ⟨f0, f1, f2, f3, f4, f5, f6, f7, f8, f9, f10, f11⟩ := frozen_rec HT6.out.kr
      unfold BM.r0 BM.g0 at z0 z1 z2 z3 z4 z6 z7 z9 z10 z11
      go_wp2_with fail
      refine bodyPost_ret (v := .tuple #[.agg (twelve r0 (.slice none 0 0) (.slice none 0 0)), .int .i64 43]) (by simp [results, Try.results9, go_sem, z0, z1, z2, z3, z4, z5, z6, z7, z8, z9, z10, z11, twelve, BM.r0, BM.g0]) rfl ?_
      exact dec_no (HNO.out) (HT6.out.below.trans ((((((((((((((Mod.refl [w.heap.size] _).store (p := ⟨w.heap.size, 0, none⟩) (.inl (by simp)) (.int .i64 0)).store (p := ⟨w.heap.size, 1, none⟩) (.inl (by simp)) (.int .i64 0)).store (p := ⟨w.heap.size, 2, none⟩) (.inl (by simp)) (.int .i64 0)).store (p := ⟨w.heap.size, 3, none⟩) (.inl (by simp)) (.string ⟨#[]⟩)).store (p := ⟨w.heap.size, 4, none⟩) (.inl (by simp)) (.int .i64 0)).store (p := ⟨w.heap.size, 5, none⟩) (.inl (by simp)) (.slice none 0 0)).store (p := ⟨w.heap.size, 6, none⟩) (.inl (by simp)) (.int .i64 0)).store (p := ⟨w.heap.size, 7, none⟩) (.inl (by simp)) (.int .i64 0)).store (p := ⟨w.heap.size, 8, none⟩) (.inl (by simp)) (.slice none 0 0)).store (p := ⟨w.heap.size, 9, none⟩) (.inl (by simp)) (.int .i64 0)).store (p := ⟨w.heap.size, 10, none⟩) (.inl (by simp)) (.int .i64 0)).store (p := ⟨w.heap.size, 11, none⟩) (.inl (by simp)) (.int .i64 0)).below HT6.out.below.size (by intro x hx; simp at hx; omega)))
set_option maxHeartbeats 16000000 in
theorem d11_6 (A : Option Addr) (c : Nat) (b : List UInt8) (w : World) (hA : BytesAt w A b) (hc : b.length ≤ c) (hm : c ≤ 9223372036854775807) (hl : b.length ≤ 188) (hk : (WM.tnum (b, 0)).1 = 6) :
    Calls Try.prog 9 #[.slice A b.length c] w (DecPost w b) := by
  have HL := Lib.hid hl
  have HKK := Lib.hid hk
  clear hk
  have hd : decide ((188 : Int) < (b.length : Int)) = false := by simp; omega
  have HX2 := Lib.hid (((Below.refl _ w).alloc (Nat.le_refl _) (.cells #[.int .i64 0, .int .i64 0, .int .i64 0, .string ⟨#[]⟩, .int .i64 0, .slice none 0 0, .int .i64 0, .int .i64 0, .slice none 0 0, .int .i64 0, .int .i64 0, .int .i64 0] 28)).alloc (by simp) (.cells (tk2 A b.length c 0) 65))
  have HKR := Lib.hid (show Whole ((w.alloc (.cells #[.int .i64 0, .int .i64 0, .int .i64 0, .string ⟨#[]⟩, .int .i64 0, .slice none 0 0, .int .i64 0, .int .i64 0, .slice none 0 0, .int .i64 0, .int .i64 0, .int .i64 0] 28)).alloc (.cells (tk2 A b.length c 0) 65)) w.heap.size 28 (twelve r0 (.slice none 0 0) (.slice none 0 0)) from (Whole.new w 28 (twelve r0 (.slice none 0 0) (.slice none 0 0))).alloc _)
  have HTK := Lib.hid (show TkAt ((w.alloc (.cells #[.int .i64 0, .int .i64 0, .int .i64 0, .string ⟨#[]⟩, .int .i64 0, .slice none 0 0, .int .i64 0, .int .i64 0, .slice none 0 0, .int .i64 0, .int .i64 0, .int .i64 0] 28)).alloc (.cells (tk2 A b.length c 0) 65)) (w.heap.size + 1) w.heap.size (b, 0) from ⟨A, c, by have h := Whole.new (w.alloc (.cells #[.int .i64 0, .int .i64 0, .int .i64 0, .string ⟨#[]⟩, .int .i64 0, .slice none 0 0, .int .i64 0, .int .i64 0, .slice none 0 0, .int .i64 0, .int .i64 0, .int .i64 0] 28)) 65 (tk2 A b.length c 0); have e : (w.alloc (.cells #[.int .i64 0, .int .i64 0, .int .i64 0, .string ⟨#[]⟩, .int .i64 0, .slice none 0 0, .int .i64 0, .int .i64 0, .slice none 0 0, .int .i64 0, .int .i64 0, .int .i64 0] 28)).heap.size = w.heap.size + 1 := (by simp); rw [e] at h; exact h, hA.below HX2.out, hc, hm, fun h0 ad e => by obtain ⟨bb, oo, eA, hlt, _⟩ := hA h0; rw [e] at eA; injection eA with eA; rw [eA]; exact hlt⟩)
  have HSZ := Lib.hid (show ((w.alloc (.cells #[.int .i64 0, .int .i64 0, .int .i64 0, .string ⟨#[]⟩, .int .i64 0, .slice none 0 0, .int .i64 0, .int .i64 0, .slice none 0 0, .int .i64 0, .int .i64 0, .int .i64 0] 28)).alloc (.cells (tk2 A b.length c 0) 65)).heap.size = w.heap.size + 2 by simp)
  have HBY := Lib.hid hA
  clear hA hl
  unfold tk2 at HX2 HKR HTK HSZ
  go_enter Try.func9, Try.ntmps9
  go_upto_region 4 with (fail)
  generalize (w.alloc (.cells #[.int .i64 0, .int .i64 0, .int .i64 0, .string ⟨#[]⟩, .int .i64 0, .slice none 0 0, .int .i64 0, .int .i64 0, .slice none 0 0, .int .i64 0, .int .i64 0, .int .i64 0] 28)).alloc (.cells #[.slice A b.length c, .int .i64 ((0 : Nat) : Int)] 65) = wa at HX2 HKR HTK HSZ ⊢
  have HT := Lib.hid (show D11 w r0 (.slice none 0 0) (.slice none 0 0) (wa.alloc (.cells #[.int .i64 0, .int .i64 0, .int .i64 0, .string ⟨#[]⟩, .int .i64 0, .slice none 0 0, .int .i64 0, .int .i64 0, .slice none 0 0, .int .i64 0, .int .i64 0, .int .i64 0] 28)) from ⟨HKR.out.alloc _, by have h := Whole.new wa 28 (twelve r0 (.slice none 0 0) (.slice none 0 0)); rw [HSZ.out] at h; exact h, World.ownsRow_nil _ _ _ _, World.ownsRow_nil _ _ _ _, (HX2.out).alloc (by have := HSZ.out; omega) _, by have := HSZ.out; simp; omega⟩)
  have HK := Lib.hid (HTK.out.below ((Below.refl _ wa).alloc (Nat.le_refl _) (.cells #[.int .i64 0, .int .i64 0, .int .i64 0, .string ⟨#[]⟩, .int .i64 0, .slice none 0 0, .int .i64 0, .int .i64 0, .slice none 0 0, .int .i64 0, .int .i64 0, .int .i64 0] 28)))
  clear HX2 HKR HTK
  go_upto_region 5 with (fail)
  rw [HSZ.out]
  generalize wa.alloc (.cells #[.int .i64 0, .int .i64 0, .int .i64 0, .string ⟨#[]⟩, .int .i64 0, .slice none 0 0, .int .i64 0, .int .i64 0, .slice none 0 0, .int .i64 0, .int .i64 0, .int .i64 0] 28) = w0 at HT HK ⊢
  clear HSZ
  go_wp2_with fail
  refine (r11_tnum (w.heap.size + 1) w.heap.size (b, 0) _ HK.out).mono ?_
  rintro e x1 ⟨rfl, h2, hm2⟩
  have HT2 := Lib.hid (HT.out.num hm2)
  have HK2 := Lib.hid h2
  clear h2 hm2 HT HK
  generalize ha : WM.tnum (b, 0) = t1 at HK2 ⊢ HKK
  obtain ⟨n1, s1⟩ := t1
  have HA1 := Lib.hid ha
  clear ha
  dsimp only at HK2 ⊢ HKK
  have hk1 := HKK.out
  subst hk1
  obtain ⟨c0, c1, c2', c3, c4, c5, c6, c7, c8, c9, c10, c11⟩ := rec_cells HT2.out.kb
  have fz := HT2.out.kb.frozen 0
  go_upto_region 6 with (fail)
  have HT := Lib.hid (HT2.out.store (i := 0) (x := .int .i64 6) (q' := { r0 with kind := 6 }) (V' := (.slice none 0 0)) (U' := (.slice none 0 0)) rfl HT2.out.rg HT2.out.ru)
  have HK := Lib.hid (tk_store (i := 0) (x := .int .i64 6) (g := w.heap.size + 2) HK2.out (by omega) (by omega))
  clear HT2 HK2 fz c0 c1 c2' c3 c4 c5 c6 c7 c8 c9 c10 c11
  generalize World.setCell _ _ _ = y1 at HT HK ⊢
  obtain ⟨c0, c1, c2', c3, c4, c5, c6, c7, c8, c9, c10, c11⟩ := rec_cells HT.out.kb
  go_wp2_with fail
  refine (r11_tnum (w.heap.size + 1) w.heap.size s1 _ HK.out).mono ?_
  rintro e x2 ⟨rfl, h2, hm2⟩
  have HT2 := Lib.hid (HT.out.num hm2)
  have HK2 := Lib.hid h2
  clear h2 hm2 HT HK c0 c1 c2' c3 c4 c5 c6 c7 c8 c9 c10 c11
  generalize ha : WM.tnum s1 = t2 at HK2 ⊢
  obtain ⟨n2, s2⟩ := t2
  have HA2 := Lib.hid ha
  clear ha
  dsimp only at HK2 ⊢
  obtain ⟨c0, c1, c2', c3, c4, c5, c6, c7, c8, c9, c10, c11⟩ := rec_cells HT2.out.kb
  have fz := HT2.out.kb.frozen 7
  go_upto_region 27 with (fail)
  have HT := Lib.hid (HT2.out.store (i := 7) (x := .int .i64 n2) (q' := { r0 with kind := 6, id := n2 }) (V' := (.slice none 0 0)) (U' := (.slice none 0 0)) rfl HT2.out.rg HT2.out.ru)
  have HK := Lib.hid (tk_store (i := 7) (x := .int .i64 n2) (g := w.heap.size + 2) HK2.out (by omega) (by omega))
  clear HT2 HK2 fz c0 c1 c2' c3 c4 c5 c6 c7 c8 c9 c10 c11
  generalize World.setCell _ _ _ = y2 at HT HK ⊢
  obtain ⟨c0, c1, c2', c3, c4, c5, c6, c7, c8, c9, c10, c11⟩ := rec_cells HT.out.kb
  have HMM := Lib.hid (show BM.taken 5 b = { r0 with kind := 6, id := n2 } by
    have hk := HKK.out
    unfold BM.taken
    rw [HA1.out]
    simp [BM.partT, BM.grantT, HA2.out, BM.r0, BM.g0])
  have HRT := Lib.hid (rw_taken 5 (by omega) b)
  rw [HMM.out] at HRT
  have HF := Lib.hid (fit_own HRT.out HT.out.rg HT.out.ru)
  clear HK HRT
  go_wp2_with fail
  refine (r11_Encode _ _ _ _ HF.out).mono ?_
  rintro e w6 ⟨A6, cz6, rfl, ho6, hb6⟩
  have HT6 := Lib.hid (HT.out.on hb6)
  have HO6 := Lib.hid ho6
  have HKB := Lib.hid HT6.out.kb
  clear ho6 hb6 HT HF c0 c1 c2' c3 c4 c5 c6 c7 c8 c9 c10 c11
  cases hor : BM.okRc ({ r0 with kind := 6, id := n2 }) with
  | false =>
    have he : BM.encode ({ r0 with kind := 6, id := n2 }) = ([], 43) := if_neg (by rw [hor]; decide)
    have HNO := Lib.hid (show ¬ (b.length ≤ 188 ∧ BM.okRc (BM.taken 5 b) = true ∧ BM.laid (BM.taken 5 b) = b) from fun h => by have h2 := h.2.1; rw [HMM.out, hor] at h2; cases h2)
    rw [he]
    clear he hor HO6 HKB HMM
    obtain ⟨z0, z1, z2, z3, z4, z5, z6, z7, z8, z9, z10, z11⟩ := rec_cells HT6.out.kr
    obtain ⟨f0, f1, f2, f3, f4, f5, f6, f7, f8, f9, f10, f11⟩ := frozen_rec HT6.out.kr
    unfold BM.r0 BM.g0 at z0 z1 z2 z3 z4 z6 z7 z9 z10 z11
    go_wp2_with fail
    refine bodyPost_ret (v := .tuple #[.agg (twelve r0 (.slice none 0 0) (.slice none 0 0)), .int .i64 43]) (by simp [results, Try.results9, go_sem, z0, z1, z2, z3, z4, z5, z6, z7, z8, z9, z10, z11, twelve, BM.r0, BM.g0]) rfl ?_
    exact dec_no (HNO.out) (HT6.out.below.trans ((((((((((((((Mod.refl [w.heap.size] _).store (p := ⟨w.heap.size, 0, none⟩) (.inl (by simp)) (.int .i64 0)).store (p := ⟨w.heap.size, 1, none⟩) (.inl (by simp)) (.int .i64 0)).store (p := ⟨w.heap.size, 2, none⟩) (.inl (by simp)) (.int .i64 0)).store (p := ⟨w.heap.size, 3, none⟩) (.inl (by simp)) (.string ⟨#[]⟩)).store (p := ⟨w.heap.size, 4, none⟩) (.inl (by simp)) (.int .i64 0)).store (p := ⟨w.heap.size, 5, none⟩) (.inl (by simp)) (.slice none 0 0)).store (p := ⟨w.heap.size, 6, none⟩) (.inl (by simp)) (.int .i64 0)).store (p := ⟨w.heap.size, 7, none⟩) (.inl (by simp)) (.int .i64 0)).store (p := ⟨w.heap.size, 8, none⟩) (.inl (by simp)) (.slice none 0 0)).store (p := ⟨w.heap.size, 9, none⟩) (.inl (by simp)) (.int .i64 0)).store (p := ⟨w.heap.size, 10, none⟩) (.inl (by simp)) (.int .i64 0)).store (p := ⟨w.heap.size, 11, none⟩) (.inl (by simp)) (.int .i64 0)).below HT6.out.below.size (by intro x hx; simp at hx; omega)))
  | true =>
    have he : BM.encode ({ r0 with kind := 6, id := n2 }) = (BM.laid ({ r0 with kind := 6, id := n2 }), 0) := if_pos hor
    rw [he] at HO6 ⊢
    clear he
    have HOR := Lib.hid hor
    clear hor
    generalize hLD : BM.laid ({ r0 with kind := 6, id := n2 }) = ld at HO6 ⊢
    have HLD := Lib.hid hLD
    clear hLD
    have hcv1 := By.str_of (c := cz6) (show By.BytesAt w6 A6 ld from By.BytesAt.own HO6.out)
    have hcv2 := By.str_of (c := c) (show By.BytesAt w6 A b from HBY.out.below HT6.out.below)
    by_cases heq : ld = b
    · subst heq
      obtain ⟨c0, c1, c2', c3, c4, c5, c6, c7, c8, c9, c10, c11⟩ := rec_cells HKB.out
      obtain ⟨z0, z1, z2, z3, z4, z5, z6, z7, z8, z9, z10, z11⟩ := rec_cells HT6.out.kr
      obtain ⟨f0, f1, f2, f3, f4, f5, f6, f7, f8, f9, f10, f11⟩ := frozen_rec HT6.out.kr
      go_wp2_with fail
      refine bodyPost_ret (v := .tuple #[.agg (twelve ({ r0 with kind := 6, id := n2 }) (.slice none 0 0) (.slice none 0 0)), .int .i64 0]) (by simp [results, Try.results9, go_sem, z0, z1, z2, z3, z4, z5, z6, z7, z8, z9, z10, z11, twelve, BM.r0, BM.g0]) rfl ?_
      have hM := (((((((((((((Mod.refl [w.heap.size] w6).store (p := ⟨w.heap.size, 0, none⟩) (.inl (by simp)) (.int .i64 ({ r0 with kind := 6, id := n2 }).kind)).store (p := ⟨w.heap.size, 1, none⟩) (.inl (by simp)) (.int .i64 ({ r0 with kind := 6, id := n2 }).g.id)).store (p := ⟨w.heap.size, 2, none⟩) (.inl (by simp)) (.int .i64 ({ r0 with kind := 6, id := n2 }).g.holder)).store (p := ⟨w.heap.size, 3, none⟩) (.inl (by simp)) (.string ({ r0 with kind := 6, id := n2 }).g.path)).store (p := ⟨w.heap.size, 4, none⟩) (.inl (by simp)) (.int .i64 ({ r0 with kind := 6, id := n2 }).g.mode)).store (p := ⟨w.heap.size, 5, none⟩) (.inl (by simp)) (.slice none 0 0)).store (p := ⟨w.heap.size, 6, none⟩) (.inl (by simp)) (.int .i64 ({ r0 with kind := 6, id := n2 }).g.term)).store (p := ⟨w.heap.size, 7, none⟩) (.inl (by simp)) (.int .i64 ({ r0 with kind := 6, id := n2 }).id)).store (p := ⟨w.heap.size, 8, none⟩) (.inl (by simp)) (.slice none 0 0)).store (p := ⟨w.heap.size, 9, none⟩) (.inl (by simp)) (.int .i64 ({ r0 with kind := 6, id := n2 }).next)).store (p := ⟨w.heap.size, 10, none⟩) (.inl (by simp)) (.int .i64 ({ r0 with kind := 6, id := n2 }).boots)).store (p := ⟨w.heap.size, 11, none⟩) (.inl (by simp)) (.int .i64 ({ r0 with kind := 6, id := n2 }).longest))
      exact dec_yes HMM.out ⟨HL.out, HOR.out, HLD.out⟩ (hM.own HT6.out.rg (fun k hk => by have := (HT6.out.rg.lt k hk).1; simp; omega)) (hM.own HT6.out.ru (fun k hk => by have := (HT6.out.ru.lt k hk).1; simp; omega)) (HT6.out.below.trans (hM.below HT6.out.below.size (by intro x hx; simp at hx; omega)))
    · have HNO := Lib.hid (show ¬ (b.length ≤ 188 ∧ BM.okRc (BM.taken 5 b) = true ∧ BM.laid (BM.taken 5 b) = b) from fun h => by have h2 := h.2.2; rw [HMM.out, HLD.out] at h2; exact heq h2)
      have hne2 : ((⟨ld.toArray⟩ : ByteArray).toList == (⟨b.toArray⟩ : ByteArray).toList) = false := by
        rw [beq_eq_false_iff_ne]
        intro e
        rw [Lib.toList_data, Lib.toList_data] at e
        exact heq (by simpa using e)
      obtain ⟨xa, hxa⟩ : ∃ x, x = (⟨ld.toArray⟩ : ByteArray) := ⟨_, rfl⟩
      obtain ⟨xb, hxb⟩ : ∃ x, x = (⟨b.toArray⟩ : ByteArray) := ⟨_, rfl⟩
      rw [← hxa] at hcv1 hne2
      rw [← hxb] at hcv2 hne2
      have hne3 : (xa.toList != xb.toList) = true := by simp [bne, hne2]
      have hne4 : ¬ xa.toList = xb.toList := by simpa using hne2
      clear hxa hxb heq HO6 HKB HMM HLD
      obtain ⟨z0, z1, z2, z3, z4, z5, z6, z7, z8, z9, z10, z11⟩ := rec_cells HT6.out.kr
      obtain ⟨f0, f1, f2, f3, f4, f5, f6, f7, f8, f9, f10, f11⟩ := frozen_rec HT6.out.kr
      unfold BM.r0 BM.g0 at z0 z1 z2 z3 z4 z6 z7 z9 z10 z11
      go_wp2_with fail
      refine bodyPost_ret (v := .tuple #[.agg (twelve r0 (.slice none 0 0) (.slice none 0 0)), .int .i64 43]) (by simp [results, Try.results9, go_sem, z0, z1, z2, z3, z4, z5, z6, z7, z8, z9, z10, z11, twelve, BM.r0, BM.g0]) rfl ?_
      exact dec_no (HNO.out) (HT6.out.below.trans ((((((((((((((Mod.refl [w.heap.size] _).store (p := ⟨w.heap.size, 0, none⟩) (.inl (by simp)) (.int .i64 0)).store (p := ⟨w.heap.size, 1, none⟩) (.inl (by simp)) (.int .i64 0)).store (p := ⟨w.heap.size, 2, none⟩) (.inl (by simp)) (.int .i64 0)).store (p := ⟨w.heap.size, 3, none⟩) (.inl (by simp)) (.string ⟨#[]⟩)).store (p := ⟨w.heap.size, 4, none⟩) (.inl (by simp)) (.int .i64 0)).store (p := ⟨w.heap.size, 5, none⟩) (.inl (by simp)) (.slice none 0 0)).store (p := ⟨w.heap.size, 6, none⟩) (.inl (by simp)) (.int .i64 0)).store (p := ⟨w.heap.size, 7, none⟩) (.inl (by simp)) (.int .i64 0)).store (p := ⟨w.heap.size, 8, none⟩) (.inl (by simp)) (.slice none 0 0)).store (p := ⟨w.heap.size, 9, none⟩) (.inl (by simp)) (.int .i64 0)).store (p := ⟨w.heap.size, 10, none⟩) (.inl (by simp)) (.int .i64 0)).store (p := ⟨w.heap.size, 11, none⟩) (.inl (by simp)) (.int .i64 0)).below HT6.out.below.size (by intro x hx; simp at hx; omega)))
end Go.Proofs.Ytboflkadabagfab
namespace Go.Proofs.Ytboflkadabagfab
open Go.RowKit
open Oct (BytesAt u8s)
open BM (Gr Rc Bk g0 r0 b0)
set_option linter.unusedVariables false
set_option linter.unusedSimpArgs false
set_option maxRecDepth 100000
set_option maxHeartbeats 16000000 in
theorem d11_3 (A : Option Addr) (c : Nat) (b : List UInt8) (w : World) (hA : BytesAt w A b) (hc : b.length ≤ c) (hm : c ≤ 9223372036854775807) (hl : b.length ≤ 188) (hk : (WM.tnum (b, 0)).1 = 3) :
    Calls Try.prog 9 #[.slice A b.length c] w (DecPost w b) := by
  have HL := Lib.hid hl
  have HKK := Lib.hid hk
  clear hk
  have hd : decide ((188 : Int) < (b.length : Int)) = false := by simp; omega
  have HX2 := Lib.hid (((Below.refl _ w).alloc (Nat.le_refl _) (.cells #[.int .i64 0, .int .i64 0, .int .i64 0, .string ⟨#[]⟩, .int .i64 0, .slice none 0 0, .int .i64 0, .int .i64 0, .slice none 0 0, .int .i64 0, .int .i64 0, .int .i64 0] 28)).alloc (by simp) (.cells (tk2 A b.length c 0) 65))
  have HKR := Lib.hid (show Whole ((w.alloc (.cells #[.int .i64 0, .int .i64 0, .int .i64 0, .string ⟨#[]⟩, .int .i64 0, .slice none 0 0, .int .i64 0, .int .i64 0, .slice none 0 0, .int .i64 0, .int .i64 0, .int .i64 0] 28)).alloc (.cells (tk2 A b.length c 0) 65)) w.heap.size 28 (twelve r0 (.slice none 0 0) (.slice none 0 0)) from (Whole.new w 28 (twelve r0 (.slice none 0 0) (.slice none 0 0))).alloc _)
  have HTK := Lib.hid (show TkAt ((w.alloc (.cells #[.int .i64 0, .int .i64 0, .int .i64 0, .string ⟨#[]⟩, .int .i64 0, .slice none 0 0, .int .i64 0, .int .i64 0, .slice none 0 0, .int .i64 0, .int .i64 0, .int .i64 0] 28)).alloc (.cells (tk2 A b.length c 0) 65)) (w.heap.size + 1) w.heap.size (b, 0) from ⟨A, c, by have h := Whole.new (w.alloc (.cells #[.int .i64 0, .int .i64 0, .int .i64 0, .string ⟨#[]⟩, .int .i64 0, .slice none 0 0, .int .i64 0, .int .i64 0, .slice none 0 0, .int .i64 0, .int .i64 0, .int .i64 0] 28)) 65 (tk2 A b.length c 0); have e : (w.alloc (.cells #[.int .i64 0, .int .i64 0, .int .i64 0, .string ⟨#[]⟩, .int .i64 0, .slice none 0 0, .int .i64 0, .int .i64 0, .slice none 0 0, .int .i64 0, .int .i64 0, .int .i64 0] 28)).heap.size = w.heap.size + 1 := (by simp); rw [e] at h; exact h, hA.below HX2.out, hc, hm, fun h0 ad e => by obtain ⟨bb, oo, eA, hlt, _⟩ := hA h0; rw [e] at eA; injection eA with eA; rw [eA]; exact hlt⟩)
  have HSZ := Lib.hid (show ((w.alloc (.cells #[.int .i64 0, .int .i64 0, .int .i64 0, .string ⟨#[]⟩, .int .i64 0, .slice none 0 0, .int .i64 0, .int .i64 0, .slice none 0 0, .int .i64 0, .int .i64 0, .int .i64 0] 28)).alloc (.cells (tk2 A b.length c 0) 65)).heap.size = w.heap.size + 2 by simp)
  have HBY := Lib.hid hA
  clear hA hl
  unfold tk2 at HX2 HKR HTK HSZ
  go_enter Try.func9, Try.ntmps9
  go_upto_region 4 with (fail)
  generalize (w.alloc (.cells #[.int .i64 0, .int .i64 0, .int .i64 0, .string ⟨#[]⟩, .int .i64 0, .slice none 0 0, .int .i64 0, .int .i64 0, .slice none 0 0, .int .i64 0, .int .i64 0, .int .i64 0] 28)).alloc (.cells #[.slice A b.length c, .int .i64 ((0 : Nat) : Int)] 65) = wa at HX2 HKR HTK HSZ ⊢
  have HT := Lib.hid (show D11 w r0 (.slice none 0 0) (.slice none 0 0) (wa.alloc (.cells #[.int .i64 0, .int .i64 0, .int .i64 0, .string ⟨#[]⟩, .int .i64 0, .slice none 0 0, .int .i64 0, .int .i64 0, .slice none 0 0, .int .i64 0, .int .i64 0, .int .i64 0] 28)) from ⟨HKR.out.alloc _, by have h := Whole.new wa 28 (twelve r0 (.slice none 0 0) (.slice none 0 0)); rw [HSZ.out] at h; exact h, World.ownsRow_nil _ _ _ _, World.ownsRow_nil _ _ _ _, (HX2.out).alloc (by have := HSZ.out; omega) _, by have := HSZ.out; simp; omega⟩)
  have HK := Lib.hid (HTK.out.below ((Below.refl _ wa).alloc (Nat.le_refl _) (.cells #[.int .i64 0, .int .i64 0, .int .i64 0, .string ⟨#[]⟩, .int .i64 0, .slice none 0 0, .int .i64 0, .int .i64 0, .slice none 0 0, .int .i64 0, .int .i64 0, .int .i64 0] 28)))
  clear HX2 HKR HTK
  go_upto_region 5 with (fail)
  rw [HSZ.out]
  generalize wa.alloc (.cells #[.int .i64 0, .int .i64 0, .int .i64 0, .string ⟨#[]⟩, .int .i64 0, .slice none 0 0, .int .i64 0, .int .i64 0, .slice none 0 0, .int .i64 0, .int .i64 0, .int .i64 0] 28) = w0 at HT HK ⊢
  clear HSZ
  go_wp2_with fail
  refine (r11_tnum (w.heap.size + 1) w.heap.size (b, 0) _ HK.out).mono ?_
  rintro e x1 ⟨rfl, h2, hm2⟩
  have HT2 := Lib.hid (HT.out.num hm2)
  have HK2 := Lib.hid h2
  clear h2 hm2 HT HK
  generalize ha : WM.tnum (b, 0) = t1 at HK2 ⊢ HKK
  obtain ⟨n1, s1⟩ := t1
  have HA1 := Lib.hid ha
  clear ha
  dsimp only at HK2 ⊢ HKK
  have hk1 := HKK.out
  subst hk1
  obtain ⟨c0, c1, c2', c3, c4, c5, c6, c7, c8, c9, c10, c11⟩ := rec_cells HT2.out.kb
  have fz := HT2.out.kb.frozen 0
  go_upto_region 6 with (fail)
  have HT := Lib.hid (HT2.out.store (i := 0) (x := .int .i64 3) (q' := { r0 with kind := 3 }) (V' := (.slice none 0 0)) (U' := (.slice none 0 0)) rfl HT2.out.rg HT2.out.ru)
  have HK := Lib.hid (tk_store (i := 0) (x := .int .i64 3) (g := w.heap.size + 2) HK2.out (by omega) (by omega))
  clear HT2 HK2 fz c0 c1 c2' c3 c4 c5 c6 c7 c8 c9 c10 c11
  generalize World.setCell _ _ _ = y1 at HT HK ⊢
  obtain ⟨c0, c1, c2', c3, c4, c5, c6, c7, c8, c9, c10, c11⟩ := rec_cells HT.out.kb
  go_wp2_with fail
  refine (r11_tnum (w.heap.size + 1) w.heap.size s1 _ HK.out).mono ?_
  rintro e x2 ⟨rfl, h2, hm2⟩
  have HT2 := Lib.hid (HT.out.num hm2)
  have HK2 := Lib.hid h2
  clear h2 hm2 HT HK c0 c1 c2' c3 c4 c5 c6 c7 c8 c9 c10 c11
  generalize ha : WM.tnum s1 = t2 at HK2 ⊢
  obtain ⟨n2, s2⟩ := t2
  have HA2 := Lib.hid ha
  clear ha
  dsimp only at HK2 ⊢
  obtain ⟨c0, c1, c2', c3, c4, c5, c6, c7, c8, c9, c10, c11⟩ := rec_cells HT2.out.kb
  have fz := HT2.out.kb.frozen 1
  go_upto_region 15 with (fail)
  have HT := Lib.hid (HT2.out.store (i := 1) (x := .int .i64 n2) (q' := { r0 with g := { g0 with id := n2 }, kind := 3 }) (V' := (.slice none 0 0)) (U' := (.slice none 0 0)) rfl HT2.out.rg HT2.out.ru)
  have HK := Lib.hid (tk_store (i := 1) (x := .int .i64 n2) (g := w.heap.size + 2) HK2.out (by omega) (by omega))
  clear HT2 HK2 fz c0 c1 c2' c3 c4 c5 c6 c7 c8 c9 c10 c11
  generalize World.setCell _ _ _ = y2 at HT HK ⊢
  obtain ⟨c0, c1, c2', c3, c4, c5, c6, c7, c8, c9, c10, c11⟩ := rec_cells HT.out.kb
  go_wp2_with fail
  refine (r11_tnum (w.heap.size + 1) w.heap.size s2 _ HK.out).mono ?_
  rintro e x3 ⟨rfl, h2, hm2⟩
  have HT2 := Lib.hid (HT.out.num hm2)
  have HK2 := Lib.hid h2
  clear h2 hm2 HT HK c0 c1 c2' c3 c4 c5 c6 c7 c8 c9 c10 c11
  generalize ha : WM.tnum s2 = t3 at HK2 ⊢
  obtain ⟨n3, s3⟩ := t3
  have HA3 := Lib.hid ha
  clear ha
  dsimp only at HK2 ⊢
  obtain ⟨c0, c1, c2', c3, c4, c5, c6, c7, c8, c9, c10, c11⟩ := rec_cells HT2.out.kb
  have fz := HT2.out.kb.frozen 2
  go_upto_region 16 with (fail)
  have HT := Lib.hid (HT2.out.store (i := 2) (x := .int .i64 n3) (q' := { r0 with g := { g0 with id := n2, holder := n3 }, kind := 3 }) (V' := (.slice none 0 0)) (U' := (.slice none 0 0)) rfl HT2.out.rg HT2.out.ru)
  have HK := Lib.hid (tk_store (i := 2) (x := .int .i64 n3) (g := w.heap.size + 2) HK2.out (by omega) (by omega))
  clear HT2 HK2 fz c0 c1 c2' c3 c4 c5 c6 c7 c8 c9 c10 c11
  generalize World.setCell _ _ _ = y3 at HT HK ⊢
  obtain ⟨c0, c1, c2', c3, c4, c5, c6, c7, c8, c9, c10, c11⟩ := rec_cells HT.out.kb
  obtain ⟨A1, cz1, hw, hB, hl1, hc1, hbk⟩ := HK.out
  have HW := Lib.hid hw
  have HB := Lib.hid hB
  have HBK := Lib.hid hbk
  have k0 := hw.cell 0
  have k1 := hw.cell 1
  unfold tk2 at k0 k1
  clear hw hB hbk HK
  have HH := Lib.hid (show BM.ttext s3 = (⟨(OM.rtext s3.1 s3.2 188).1.toArray⟩, (OM.rtext s3.1 s3.2 188).2) from rfl)
  go_wp2_with fail
  refine (Oct.Rb.ReadText_any A1 cz1 s3.1 s3.2 188 _ (by decide) HB.out hl1 hc1).mono ?_
  rintro e x4 ⟨A5, cz5, rfl, h1, h2, h3, hb, h6⟩
  have H6 := Lib.hid h6
  have HX1 := Lib.hid hb
  have HM := Lib.hid h2
  have HTX := Lib.hid (HT.out.on hb)
  have HWX := Lib.hid ((Mod.of_below hb []).whole HW.out (by simp))
  have HB1 := Lib.hid h1
  clear h1 h2 h6 hb k0 k1 HT HW HB c0 c1 c2' c3 c4 c5 c6 c7 c8 c9 c10 c11
  generalize OM.rtext s3.1 s3.2 188 = rr at HB1 HM HH H6 ⊢
  obtain ⟨rv, rl, re⟩ := rr
  dsimp only at HB1 HM HH H6 ⊢
  go_upto_region 17 with (fail)
  have hbA := ((Below.refl _ x4).alloc (Nat.le_refl _) (.cells #[.slice A5 rl.length cz5, .int .i64 (re : Int)] 63))
  have HWQ := Lib.hid (HWX.out.alloc (.cells #[.slice A5 rl.length cz5, .int .i64 (re : Int)] 63))
  have HRA := Lib.hid (Whole.new x4 63 #[.slice A5 rl.length cz5, .int .i64 (re : Int)])
  have HBA := Lib.hid (HB1.out.below (below_on HX1.out hbA))
  have HTA := Lib.hid (HTX.out.on hbA)
  clear hbA HTX HWX HB1 HX1
  generalize x4.alloc (.cells #[.slice A5 rl.length cz5, .int .i64 (re : Int)] 63) = wv at HWQ HRA HBA HTA ⊢
  have g0' := HWQ.out.cell 0
  have g1 := HWQ.out.cell 1
  have f0 := HWQ.out.frozen 0
  have f1 := HWQ.out.frozen 1
  have b0' := HRA.out.cell 0
  have b1 := HRA.out.cell 1
  unfold tk2 at g0' g1
  go_upto_region 18 with (fail)
  have hK := ((HWQ.out.store 0 (.slice A5 rl.length cz5)).store 1 (.int .i64 (re : Int)))
  have hM : Mod [w.heap.size + 1] wv ((wv.setCell ⟨w.heap.size + 1, 0, none⟩ (.slice A5 rl.length cz5)).setCell ⟨w.heap.size + 1, 1, none⟩ (.int .i64 (re : Int))) := ((Mod.refl _ wv).store (p := ⟨w.heap.size + 1, 0, none⟩) (.inl (by simp)) _).store (p := ⟨w.heap.size + 1, 1, none⟩) (.inl (by simp)) _
  have HK2 := Lib.hid (TkAt.put (s := (rl, re)) HWQ.out HBA.out ⟨HM.out, h3⟩ hK hM HBK.out H6.out)
  have HT2 := Lib.hid (HTA.out.num hM)
  clear hK hM g0' g1 f0 f1 b0' b1 HWQ HRA HBA HTA H6 HBK HM
  generalize (wv.setCell ⟨w.heap.size + 1, 0, none⟩ (.slice A5 rl.length cz5)).setCell ⟨w.heap.size + 1, 1, none⟩ (.int .i64 (re : Int)) = wt at HK2 HT2 ⊢
  obtain ⟨px, hpx⟩ : ∃ p, p = (⟨rv.toArray⟩ : ByteArray) := ⟨_, rfl⟩
  rw [← hpx] at HH ⊢
  obtain ⟨s4, hs2⟩ : ∃ p, p = ((rl, re) : WM.St) := ⟨_, rfl⟩
  rw [← hs2] at HH HK2
  clear hpx hs2
  have HA4 := HH
  clear HH
  obtain ⟨c0, c1, c2', c3, c4, c5, c6, c7, c8, c9, c10, c11⟩ := rec_cells HT2.out.kb
  have fz := HT2.out.kb.frozen 3
  go_upto_region 19 with (fail)
  have HT := Lib.hid (HT2.out.store (i := 3) (x := .string px) (q' := { r0 with g := { g0 with id := n2, holder := n3, path := px }, kind := 3 }) (V' := (.slice none 0 0)) (U' := (.slice none 0 0)) rfl HT2.out.rg HT2.out.ru)
  have HK := Lib.hid (tk_store (i := 3) (x := .string px) (g := w.heap.size + 2) HK2.out (by omega) (by omega))
  clear HT2 HK2 fz c0 c1 c2' c3 c4 c5 c6 c7 c8 c9 c10 c11
  generalize World.setCell _ _ _ = y4 at HT HK ⊢
  obtain ⟨c0, c1, c2', c3, c4, c5, c6, c7, c8, c9, c10, c11⟩ := rec_cells HT.out.kb
  go_wp2_with fail
  refine (r11_tnum (w.heap.size + 1) w.heap.size s4 _ HK.out).mono ?_
  rintro e x5 ⟨rfl, h2, hm2⟩
  have HT2 := Lib.hid (HT.out.num hm2)
  have HK2 := Lib.hid h2
  clear h2 hm2 HT HK c0 c1 c2' c3 c4 c5 c6 c7 c8 c9 c10 c11
  generalize ha : WM.tnum s4 = t5 at HK2 ⊢
  obtain ⟨n5, s5⟩ := t5
  have HA5 := Lib.hid ha
  clear ha
  dsimp only at HK2 ⊢
  obtain ⟨c0, c1, c2', c3, c4, c5, c6, c7, c8, c9, c10, c11⟩ := rec_cells HT2.out.kb
  have fz := HT2.out.kb.frozen 4
  go_upto_region 20 with (fail)
  have HT := Lib.hid (HT2.out.store (i := 4) (x := .int .i64 n5) (q' := { r0 with g := { g0 with id := n2, holder := n3, path := px, mode := n5 }, kind := 3 }) (V' := (.slice none 0 0)) (U' := (.slice none 0 0)) rfl HT2.out.rg HT2.out.ru)
  have HK := Lib.hid (tk_store (i := 4) (x := .int .i64 n5) (g := w.heap.size + 2) HK2.out (by omega) (by omega))
  clear HT2 HK2 fz c0 c1 c2' c3 c4 c5 c6 c7 c8 c9 c10 c11
  generalize World.setCell _ _ _ = y5 at HT HK ⊢
  obtain ⟨c0, c1, c2', c3, c4, c5, c6, c7, c8, c9, c10, c11⟩ := rec_cells HT.out.kb
  go_wp2_with fail
  refine (r11_tnum (w.heap.size + 1) w.heap.size s5 _ HK.out).mono ?_
  rintro e x6 ⟨rfl, h2, hm2⟩
  have HT2 := Lib.hid (HT.out.num hm2)
  have HK2 := Lib.hid h2
  clear h2 hm2 HT HK c0 c1 c2' c3 c4 c5 c6 c7 c8 c9 c10 c11
  generalize ha : WM.tnum s5 = t6 at HK2 ⊢
  obtain ⟨n6, s6⟩ := t6
  have HA6 := Lib.hid ha
  clear ha
  dsimp only at HK2 ⊢
  obtain ⟨c0, c1, c2', c3, c4, c5, c6, c7, c8, c9, c10, c11⟩ := rec_cells HT2.out.kb
  have fz := HT2.out.kb.frozen 6
  go_upto_region 21 with (fail)
  have HT := Lib.hid (HT2.out.store (i := 6) (x := .int .i64 n6) (q' := { r0 with g := { g0 with id := n2, holder := n3, path := px, mode := n5, term := n6 }, kind := 3 }) (V' := (.slice none 0 0)) (U' := (.slice none 0 0)) rfl HT2.out.rg HT2.out.ru)
  have HK := Lib.hid (tk_store (i := 6) (x := .int .i64 n6) (g := w.heap.size + 2) HK2.out (by omega) (by omega))
  clear HT2 HK2 fz c0 c1 c2' c3 c4 c5 c6 c7 c8 c9 c10 c11
  generalize World.setCell _ _ _ = y6 at HT HK ⊢
  obtain ⟨c0, c1, c2', c3, c4, c5, c6, c7, c8, c9, c10, c11⟩ := rec_cells HT.out.kb
  go_wp2_with fail
  refine (r11_tcounters (w.heap.size + 1) w.heap.size s6 _ HK.out (by have := HT.out.size; omega) (by have := HT.out.size; omega)).mono ?_
  rintro e x7 ⟨vv, rfl, h1, h2, hm2⟩
  obtain ⟨A9, cz9, e9, _, _⟩ := own_shape h1
  subst e9
  have HT2 := Lib.hid (HT.out.num hm2)
  have HK2 := Lib.hid h2
  have HRW := Lib.hid (gw_base h1 (show w.heap.size + 3 ≤ _ from HT.out.size))
  clear h1 h2 hm2 HT HK c0 c1 c2' c3 c4 c5 c6 c7 c8 c9 c10 c11
  generalize ha : WM.tstamp 5 s6 = t7 at HK2 HRW ⊢
  obtain ⟨n7, s7⟩ := t7
  have HA7 := Lib.hid ha
  clear ha
  dsimp only at HK2 HRW ⊢
  obtain ⟨c0, c1, c2', c3, c4, c5, c6, c7, c8, c9, c10, c11⟩ := rec_cells HT2.out.kb
  have fz := HT2.out.kb.frozen 5
  go_upto_region 27 with (fail)
  have HT := Lib.hid (HT2.out.store (i := 5) (x := (.slice A9 n7.length cz9)) (q' := { r0 with g := { g0 with id := n2, holder := n3, path := px, mode := n5, term := n6, stamp := n7 }, kind := 3 }) (V' := (.slice A9 n7.length cz9)) (U' := (.slice none 0 0)) rfl HRW.out HT2.out.ru)
  have HK := Lib.hid (tk_store (i := 5) (x := (.slice A9 n7.length cz9)) (g := w.heap.size + 2) HK2.out (by omega) (by omega))
  clear HT2 HK2 HRW fz c0 c1 c2' c3 c4 c5 c6 c7 c8 c9 c10 c11
  generalize World.setCell _ _ _ = y7 at HT HK ⊢
  obtain ⟨c0, c1, c2', c3, c4, c5, c6, c7, c8, c9, c10, c11⟩ := rec_cells HT.out.kb
  have HMM := Lib.hid (show BM.taken 5 b = { r0 with g := { g0 with id := n2, holder := n3, path := px, mode := n5, term := n6, stamp := n7 }, kind := 3 } by
    have hk := HKK.out
    unfold BM.taken
    rw [HA1.out]
    simp [BM.partT, BM.grantT, HA2.out, HA3.out, HA4.out, HA5.out, HA6.out, HA7.out, BM.r0, BM.g0])
  have HRT := Lib.hid (rw_taken 5 (by omega) b)
  rw [HMM.out] at HRT
  have HF := Lib.hid (fit_own HRT.out HT.out.rg HT.out.ru)
  clear HK HRT
  go_wp2_with fail
  refine (r11_Encode _ _ _ _ HF.out).mono ?_
  rintro e w6 ⟨A6, cz6, rfl, ho6, hb6⟩
  have HT6 := Lib.hid (HT.out.on hb6)
  have HO6 := Lib.hid ho6
  have HKB := Lib.hid HT6.out.kb
  clear ho6 hb6 HT HF c0 c1 c2' c3 c4 c5 c6 c7 c8 c9 c10 c11
  cases hor : BM.okRc ({ r0 with g := { g0 with id := n2, holder := n3, path := px, mode := n5, term := n6, stamp := n7 }, kind := 3 }) with
  | false =>
    have he : BM.encode ({ r0 with g := { g0 with id := n2, holder := n3, path := px, mode := n5, term := n6, stamp := n7 }, kind := 3 }) = ([], 43) := if_neg (by rw [hor]; decide)
    have HNO := Lib.hid (show ¬ (b.length ≤ 188 ∧ BM.okRc (BM.taken 5 b) = true ∧ BM.laid (BM.taken 5 b) = b) from fun h => by have h2 := h.2.1; rw [HMM.out, hor] at h2; cases h2)
    rw [he]
    clear he hor HO6 HKB HMM
    obtain ⟨z0, z1, z2, z3, z4, z5, z6, z7, z8, z9, z10, z11⟩ := rec_cells HT6.out.kr
    obtain ⟨f0, f1, f2, f3, f4, f5, f6, f7, f8, f9, f10, f11⟩ := frozen_rec HT6.out.kr
    unfold BM.r0 BM.g0 at z0 z1 z2 z3 z4 z6 z7 z9 z10 z11
    go_wp2_with fail
    refine bodyPost_ret (v := .tuple #[.agg (twelve r0 (.slice none 0 0) (.slice none 0 0)), .int .i64 43]) (by simp [results, Try.results9, go_sem, z0, z1, z2, z3, z4, z5, z6, z7, z8, z9, z10, z11, twelve, BM.r0, BM.g0]) rfl ?_
    exact dec_no (HNO.out) (HT6.out.below.trans ((((((((((((((Mod.refl [w.heap.size] _).store (p := ⟨w.heap.size, 0, none⟩) (.inl (by simp)) (.int .i64 0)).store (p := ⟨w.heap.size, 1, none⟩) (.inl (by simp)) (.int .i64 0)).store (p := ⟨w.heap.size, 2, none⟩) (.inl (by simp)) (.int .i64 0)).store (p := ⟨w.heap.size, 3, none⟩) (.inl (by simp)) (.string ⟨#[]⟩)).store (p := ⟨w.heap.size, 4, none⟩) (.inl (by simp)) (.int .i64 0)).store (p := ⟨w.heap.size, 5, none⟩) (.inl (by simp)) (.slice none 0 0)).store (p := ⟨w.heap.size, 6, none⟩) (.inl (by simp)) (.int .i64 0)).store (p := ⟨w.heap.size, 7, none⟩) (.inl (by simp)) (.int .i64 0)).store (p := ⟨w.heap.size, 8, none⟩) (.inl (by simp)) (.slice none 0 0)).store (p := ⟨w.heap.size, 9, none⟩) (.inl (by simp)) (.int .i64 0)).store (p := ⟨w.heap.size, 10, none⟩) (.inl (by simp)) (.int .i64 0)).store (p := ⟨w.heap.size, 11, none⟩) (.inl (by simp)) (.int .i64 0)).below HT6.out.below.size (by intro x hx; simp at hx; omega)))
  | true =>
    have he : BM.encode ({ r0 with g := { g0 with id := n2, holder := n3, path := px, mode := n5, term := n6, stamp := n7 }, kind := 3 }) = (BM.laid ({ r0 with g := { g0 with id := n2, holder := n3, path := px, mode := n5, term := n6, stamp := n7 }, kind := 3 }), 0) := if_pos hor
    rw [he] at HO6 ⊢
    clear he
    have HOR := Lib.hid hor
    clear hor
    generalize hLD : BM.laid ({ r0 with g := { g0 with id := n2, holder := n3, path := px, mode := n5, term := n6, stamp := n7 }, kind := 3 }) = ld at HO6 ⊢
    have HLD := Lib.hid hLD
    clear hLD
    have hcv1 := By.str_of (c := cz6) (show By.BytesAt w6 A6 ld from By.BytesAt.own HO6.out)
    have hcv2 := By.str_of (c := c) (show By.BytesAt w6 A b from HBY.out.below HT6.out.below)
    by_cases heq : ld = b
    · subst heq
      obtain ⟨c0, c1, c2', c3, c4, c5, c6, c7, c8, c9, c10, c11⟩ := rec_cells HKB.out
      obtain ⟨z0, z1, z2, z3, z4, z5, z6, z7, z8, z9, z10, z11⟩ := rec_cells HT6.out.kr
      obtain ⟨f0, f1, f2, f3, f4, f5, f6, f7, f8, f9, f10, f11⟩ := frozen_rec HT6.out.kr
      go_wp2_with fail
      refine bodyPost_ret (v := .tuple #[.agg (twelve ({ r0 with g := { g0 with id := n2, holder := n3, path := px, mode := n5, term := n6, stamp := n7 }, kind := 3 }) (.slice A9 n7.length cz9) (.slice none 0 0)), .int .i64 0]) (by simp [results, Try.results9, go_sem, z0, z1, z2, z3, z4, z5, z6, z7, z8, z9, z10, z11, twelve, BM.r0, BM.g0]) rfl ?_
      have hM := (((((((((((((Mod.refl [w.heap.size] w6).store (p := ⟨w.heap.size, 0, none⟩) (.inl (by simp)) (.int .i64 ({ r0 with g := { g0 with id := n2, holder := n3, path := px, mode := n5, term := n6, stamp := n7 }, kind := 3 }).kind)).store (p := ⟨w.heap.size, 1, none⟩) (.inl (by simp)) (.int .i64 ({ r0 with g := { g0 with id := n2, holder := n3, path := px, mode := n5, term := n6, stamp := n7 }, kind := 3 }).g.id)).store (p := ⟨w.heap.size, 2, none⟩) (.inl (by simp)) (.int .i64 ({ r0 with g := { g0 with id := n2, holder := n3, path := px, mode := n5, term := n6, stamp := n7 }, kind := 3 }).g.holder)).store (p := ⟨w.heap.size, 3, none⟩) (.inl (by simp)) (.string ({ r0 with g := { g0 with id := n2, holder := n3, path := px, mode := n5, term := n6, stamp := n7 }, kind := 3 }).g.path)).store (p := ⟨w.heap.size, 4, none⟩) (.inl (by simp)) (.int .i64 ({ r0 with g := { g0 with id := n2, holder := n3, path := px, mode := n5, term := n6, stamp := n7 }, kind := 3 }).g.mode)).store (p := ⟨w.heap.size, 5, none⟩) (.inl (by simp)) (.slice A9 n7.length cz9)).store (p := ⟨w.heap.size, 6, none⟩) (.inl (by simp)) (.int .i64 ({ r0 with g := { g0 with id := n2, holder := n3, path := px, mode := n5, term := n6, stamp := n7 }, kind := 3 }).g.term)).store (p := ⟨w.heap.size, 7, none⟩) (.inl (by simp)) (.int .i64 ({ r0 with g := { g0 with id := n2, holder := n3, path := px, mode := n5, term := n6, stamp := n7 }, kind := 3 }).id)).store (p := ⟨w.heap.size, 8, none⟩) (.inl (by simp)) (.slice none 0 0)).store (p := ⟨w.heap.size, 9, none⟩) (.inl (by simp)) (.int .i64 ({ r0 with g := { g0 with id := n2, holder := n3, path := px, mode := n5, term := n6, stamp := n7 }, kind := 3 }).next)).store (p := ⟨w.heap.size, 10, none⟩) (.inl (by simp)) (.int .i64 ({ r0 with g := { g0 with id := n2, holder := n3, path := px, mode := n5, term := n6, stamp := n7 }, kind := 3 }).boots)).store (p := ⟨w.heap.size, 11, none⟩) (.inl (by simp)) (.int .i64 ({ r0 with g := { g0 with id := n2, holder := n3, path := px, mode := n5, term := n6, stamp := n7 }, kind := 3 }).longest))
      exact dec_yes HMM.out ⟨HL.out, HOR.out, HLD.out⟩ (hM.own HT6.out.rg (fun k hk => by have := (HT6.out.rg.lt k hk).1; simp; omega)) (hM.own HT6.out.ru (fun k hk => by have := (HT6.out.ru.lt k hk).1; simp; omega)) (HT6.out.below.trans (hM.below HT6.out.below.size (by intro x hx; simp at hx; omega)))
    · have HNO := Lib.hid (show ¬ (b.length ≤ 188 ∧ BM.okRc (BM.taken 5 b) = true ∧ BM.laid (BM.taken 5 b) = b) from fun h => by have h2 := h.2.2; rw [HMM.out, HLD.out] at h2; exact heq h2)
      have hne2 : ((⟨ld.toArray⟩ : ByteArray).toList == (⟨b.toArray⟩ : ByteArray).toList) = false := by
        rw [beq_eq_false_iff_ne]
        intro e
        rw [Lib.toList_data, Lib.toList_data] at e
        exact heq (by simpa using e)
      obtain ⟨xa, hxa⟩ : ∃ x, x = (⟨ld.toArray⟩ : ByteArray) := ⟨_, rfl⟩
      obtain ⟨xb, hxb⟩ : ∃ x, x = (⟨b.toArray⟩ : ByteArray) := ⟨_, rfl⟩
      rw [← hxa] at hcv1 hne2
      rw [← hxb] at hcv2 hne2
      have hne3 : (xa.toList != xb.toList) = true := by simp [bne, hne2]
      have hne4 : ¬ xa.toList = xb.toList := by simpa using hne2
      clear hxa hxb heq HO6 HKB HMM HLD
      obtain ⟨z0, z1, z2, z3, z4, z5, z6, z7, z8, z9, z10, z11⟩ := rec_cells HT6.out.kr
      obtain ⟨f0, f1, f2, f3, f4, f5, f6, f7, f8, f9, f10, f11⟩ := frozen_rec HT6.out.kr
      unfold BM.r0 BM.g0 at z0 z1 z2 z3 z4 z6 z7 z9 z10 z11
      go_wp2_with fail
      refine bodyPost_ret (v := .tuple #[.agg (twelve r0 (.slice none 0 0) (.slice none 0 0)), .int .i64 43]) (by simp [results, Try.results9, go_sem, z0, z1, z2, z3, z4, z5, z6, z7, z8, z9, z10, z11, twelve, BM.r0, BM.g0]) rfl ?_
      exact dec_no (HNO.out) (HT6.out.below.trans ((((((((((((((Mod.refl [w.heap.size] _).store (p := ⟨w.heap.size, 0, none⟩) (.inl (by simp)) (.int .i64 0)).store (p := ⟨w.heap.size, 1, none⟩) (.inl (by simp)) (.int .i64 0)).store (p := ⟨w.heap.size, 2, none⟩) (.inl (by simp)) (.int .i64 0)).store (p := ⟨w.heap.size, 3, none⟩) (.inl (by simp)) (.string ⟨#[]⟩)).store (p := ⟨w.heap.size, 4, none⟩) (.inl (by simp)) (.int .i64 0)).store (p := ⟨w.heap.size, 5, none⟩) (.inl (by simp)) (.slice none 0 0)).store (p := ⟨w.heap.size, 6, none⟩) (.inl (by simp)) (.int .i64 0)).store (p := ⟨w.heap.size, 7, none⟩) (.inl (by simp)) (.int .i64 0)).store (p := ⟨w.heap.size, 8, none⟩) (.inl (by simp)) (.slice none 0 0)).store (p := ⟨w.heap.size, 9, none⟩) (.inl (by simp)) (.int .i64 0)).store (p := ⟨w.heap.size, 10, none⟩) (.inl (by simp)) (.int .i64 0)).store (p := ⟨w.heap.size, 11, none⟩) (.inl (by simp)) (.int .i64 0)).below HT6.out.below.size (by intro x hx; simp at hx; omega)))
set_option maxHeartbeats 16000000 in
theorem d11_4 (A : Option Addr) (c : Nat) (b : List UInt8) (w : World) (hA : BytesAt w A b) (hc : b.length ≤ c) (hm : c ≤ 9223372036854775807) (hl : b.length ≤ 188) (hk : (WM.tnum (b, 0)).1 = 4) :
    Calls Try.prog 9 #[.slice A b.length c] w (DecPost w b) := by
  have HL := Lib.hid hl
  have HKK := Lib.hid hk
  clear hk
  have hd : decide ((188 : Int) < (b.length : Int)) = false := by simp; omega
  have HX2 := Lib.hid (((Below.refl _ w).alloc (Nat.le_refl _) (.cells #[.int .i64 0, .int .i64 0, .int .i64 0, .string ⟨#[]⟩, .int .i64 0, .slice none 0 0, .int .i64 0, .int .i64 0, .slice none 0 0, .int .i64 0, .int .i64 0, .int .i64 0] 28)).alloc (by simp) (.cells (tk2 A b.length c 0) 65))
  have HKR := Lib.hid (show Whole ((w.alloc (.cells #[.int .i64 0, .int .i64 0, .int .i64 0, .string ⟨#[]⟩, .int .i64 0, .slice none 0 0, .int .i64 0, .int .i64 0, .slice none 0 0, .int .i64 0, .int .i64 0, .int .i64 0] 28)).alloc (.cells (tk2 A b.length c 0) 65)) w.heap.size 28 (twelve r0 (.slice none 0 0) (.slice none 0 0)) from (Whole.new w 28 (twelve r0 (.slice none 0 0) (.slice none 0 0))).alloc _)
  have HTK := Lib.hid (show TkAt ((w.alloc (.cells #[.int .i64 0, .int .i64 0, .int .i64 0, .string ⟨#[]⟩, .int .i64 0, .slice none 0 0, .int .i64 0, .int .i64 0, .slice none 0 0, .int .i64 0, .int .i64 0, .int .i64 0] 28)).alloc (.cells (tk2 A b.length c 0) 65)) (w.heap.size + 1) w.heap.size (b, 0) from ⟨A, c, by have h := Whole.new (w.alloc (.cells #[.int .i64 0, .int .i64 0, .int .i64 0, .string ⟨#[]⟩, .int .i64 0, .slice none 0 0, .int .i64 0, .int .i64 0, .slice none 0 0, .int .i64 0, .int .i64 0, .int .i64 0] 28)) 65 (tk2 A b.length c 0); have e : (w.alloc (.cells #[.int .i64 0, .int .i64 0, .int .i64 0, .string ⟨#[]⟩, .int .i64 0, .slice none 0 0, .int .i64 0, .int .i64 0, .slice none 0 0, .int .i64 0, .int .i64 0, .int .i64 0] 28)).heap.size = w.heap.size + 1 := (by simp); rw [e] at h; exact h, hA.below HX2.out, hc, hm, fun h0 ad e => by obtain ⟨bb, oo, eA, hlt, _⟩ := hA h0; rw [e] at eA; injection eA with eA; rw [eA]; exact hlt⟩)
  have HSZ := Lib.hid (show ((w.alloc (.cells #[.int .i64 0, .int .i64 0, .int .i64 0, .string ⟨#[]⟩, .int .i64 0, .slice none 0 0, .int .i64 0, .int .i64 0, .slice none 0 0, .int .i64 0, .int .i64 0, .int .i64 0] 28)).alloc (.cells (tk2 A b.length c 0) 65)).heap.size = w.heap.size + 2 by simp)
  have HBY := Lib.hid hA
  clear hA hl
  unfold tk2 at HX2 HKR HTK HSZ
  go_enter Try.func9, Try.ntmps9
  go_upto_region 4 with (fail)
  generalize (w.alloc (.cells #[.int .i64 0, .int .i64 0, .int .i64 0, .string ⟨#[]⟩, .int .i64 0, .slice none 0 0, .int .i64 0, .int .i64 0, .slice none 0 0, .int .i64 0, .int .i64 0, .int .i64 0] 28)).alloc (.cells #[.slice A b.length c, .int .i64 ((0 : Nat) : Int)] 65) = wa at HX2 HKR HTK HSZ ⊢
  have HT := Lib.hid (show D11 w r0 (.slice none 0 0) (.slice none 0 0) (wa.alloc (.cells #[.int .i64 0, .int .i64 0, .int .i64 0, .string ⟨#[]⟩, .int .i64 0, .slice none 0 0, .int .i64 0, .int .i64 0, .slice none 0 0, .int .i64 0, .int .i64 0, .int .i64 0] 28)) from ⟨HKR.out.alloc _, by have h := Whole.new wa 28 (twelve r0 (.slice none 0 0) (.slice none 0 0)); rw [HSZ.out] at h; exact h, World.ownsRow_nil _ _ _ _, World.ownsRow_nil _ _ _ _, (HX2.out).alloc (by have := HSZ.out; omega) _, by have := HSZ.out; simp; omega⟩)
  have HK := Lib.hid (HTK.out.below ((Below.refl _ wa).alloc (Nat.le_refl _) (.cells #[.int .i64 0, .int .i64 0, .int .i64 0, .string ⟨#[]⟩, .int .i64 0, .slice none 0 0, .int .i64 0, .int .i64 0, .slice none 0 0, .int .i64 0, .int .i64 0, .int .i64 0] 28)))
  clear HX2 HKR HTK
  go_upto_region 5 with (fail)
  rw [HSZ.out]
  generalize wa.alloc (.cells #[.int .i64 0, .int .i64 0, .int .i64 0, .string ⟨#[]⟩, .int .i64 0, .slice none 0 0, .int .i64 0, .int .i64 0, .slice none 0 0, .int .i64 0, .int .i64 0, .int .i64 0] 28) = w0 at HT HK ⊢
  clear HSZ
  go_wp2_with fail
  refine (r11_tnum (w.heap.size + 1) w.heap.size (b, 0) _ HK.out).mono ?_
  rintro e x1 ⟨rfl, h2, hm2⟩
  have HT2 := Lib.hid (HT.out.num hm2)
  have HK2 := Lib.hid h2
  clear h2 hm2 HT HK
  generalize ha : WM.tnum (b, 0) = t1 at HK2 ⊢ HKK
  obtain ⟨n1, s1⟩ := t1
  have HA1 := Lib.hid ha
  clear ha
  dsimp only at HK2 ⊢ HKK
  have hk1 := HKK.out
  subst hk1
  obtain ⟨c0, c1, c2', c3, c4, c5, c6, c7, c8, c9, c10, c11⟩ := rec_cells HT2.out.kb
  have fz := HT2.out.kb.frozen 0
  go_upto_region 6 with (fail)
  have HT := Lib.hid (HT2.out.store (i := 0) (x := .int .i64 4) (q' := { r0 with kind := 4 }) (V' := (.slice none 0 0)) (U' := (.slice none 0 0)) rfl HT2.out.rg HT2.out.ru)
  have HK := Lib.hid (tk_store (i := 0) (x := .int .i64 4) (g := w.heap.size + 2) HK2.out (by omega) (by omega))
  clear HT2 HK2 fz c0 c1 c2' c3 c4 c5 c6 c7 c8 c9 c10 c11
  generalize World.setCell _ _ _ = y1 at HT HK ⊢
  obtain ⟨c0, c1, c2', c3, c4, c5, c6, c7, c8, c9, c10, c11⟩ := rec_cells HT.out.kb
  go_wp2_with fail
  refine (r11_tnum (w.heap.size + 1) w.heap.size s1 _ HK.out).mono ?_
  rintro e x2 ⟨rfl, h2, hm2⟩
  have HT2 := Lib.hid (HT.out.num hm2)
  have HK2 := Lib.hid h2
  clear h2 hm2 HT HK c0 c1 c2' c3 c4 c5 c6 c7 c8 c9 c10 c11
  generalize ha : WM.tnum s1 = t2 at HK2 ⊢
  obtain ⟨n2, s2⟩ := t2
  have HA2 := Lib.hid ha
  clear ha
  dsimp only at HK2 ⊢
  obtain ⟨c0, c1, c2', c3, c4, c5, c6, c7, c8, c9, c10, c11⟩ := rec_cells HT2.out.kb
  have fz := HT2.out.kb.frozen 1
  go_upto_region 15 with (fail)
  have HT := Lib.hid (HT2.out.store (i := 1) (x := .int .i64 n2) (q' := { r0 with g := { g0 with id := n2 }, kind := 4 }) (V' := (.slice none 0 0)) (U' := (.slice none 0 0)) rfl HT2.out.rg HT2.out.ru)
  have HK := Lib.hid (tk_store (i := 1) (x := .int .i64 n2) (g := w.heap.size + 2) HK2.out (by omega) (by omega))
  clear HT2 HK2 fz c0 c1 c2' c3 c4 c5 c6 c7 c8 c9 c10 c11
  generalize World.setCell _ _ _ = y2 at HT HK ⊢
  obtain ⟨c0, c1, c2', c3, c4, c5, c6, c7, c8, c9, c10, c11⟩ := rec_cells HT.out.kb
  go_wp2_with fail
  refine (r11_tnum (w.heap.size + 1) w.heap.size s2 _ HK.out).mono ?_
  rintro e x3 ⟨rfl, h2, hm2⟩
  have HT2 := Lib.hid (HT.out.num hm2)
  have HK2 := Lib.hid h2
  clear h2 hm2 HT HK c0 c1 c2' c3 c4 c5 c6 c7 c8 c9 c10 c11
  generalize ha : WM.tnum s2 = t3 at HK2 ⊢
  obtain ⟨n3, s3⟩ := t3
  have HA3 := Lib.hid ha
  clear ha
  dsimp only at HK2 ⊢
  obtain ⟨c0, c1, c2', c3, c4, c5, c6, c7, c8, c9, c10, c11⟩ := rec_cells HT2.out.kb
  have fz := HT2.out.kb.frozen 2
  go_upto_region 16 with (fail)
  have HT := Lib.hid (HT2.out.store (i := 2) (x := .int .i64 n3) (q' := { r0 with g := { g0 with id := n2, holder := n3 }, kind := 4 }) (V' := (.slice none 0 0)) (U' := (.slice none 0 0)) rfl HT2.out.rg HT2.out.ru)
  have HK := Lib.hid (tk_store (i := 2) (x := .int .i64 n3) (g := w.heap.size + 2) HK2.out (by omega) (by omega))
  clear HT2 HK2 fz c0 c1 c2' c3 c4 c5 c6 c7 c8 c9 c10 c11
  generalize World.setCell _ _ _ = y3 at HT HK ⊢
  obtain ⟨c0, c1, c2', c3, c4, c5, c6, c7, c8, c9, c10, c11⟩ := rec_cells HT.out.kb
  obtain ⟨A1, cz1, hw, hB, hl1, hc1, hbk⟩ := HK.out
  have HW := Lib.hid hw
  have HB := Lib.hid hB
  have HBK := Lib.hid hbk
  have k0 := hw.cell 0
  have k1 := hw.cell 1
  unfold tk2 at k0 k1
  clear hw hB hbk HK
  have HH := Lib.hid (show BM.ttext s3 = (⟨(OM.rtext s3.1 s3.2 188).1.toArray⟩, (OM.rtext s3.1 s3.2 188).2) from rfl)
  go_wp2_with fail
  refine (Oct.Rb.ReadText_any A1 cz1 s3.1 s3.2 188 _ (by decide) HB.out hl1 hc1).mono ?_
  rintro e x4 ⟨A5, cz5, rfl, h1, h2, h3, hb, h6⟩
  have H6 := Lib.hid h6
  have HX1 := Lib.hid hb
  have HM := Lib.hid h2
  have HTX := Lib.hid (HT.out.on hb)
  have HWX := Lib.hid ((Mod.of_below hb []).whole HW.out (by simp))
  have HB1 := Lib.hid h1
  clear h1 h2 h6 hb k0 k1 HT HW HB c0 c1 c2' c3 c4 c5 c6 c7 c8 c9 c10 c11
  generalize OM.rtext s3.1 s3.2 188 = rr at HB1 HM HH H6 ⊢
  obtain ⟨rv, rl, re⟩ := rr
  dsimp only at HB1 HM HH H6 ⊢
  go_upto_region 17 with (fail)
  have hbA := ((Below.refl _ x4).alloc (Nat.le_refl _) (.cells #[.slice A5 rl.length cz5, .int .i64 (re : Int)] 63))
  have HWQ := Lib.hid (HWX.out.alloc (.cells #[.slice A5 rl.length cz5, .int .i64 (re : Int)] 63))
  have HRA := Lib.hid (Whole.new x4 63 #[.slice A5 rl.length cz5, .int .i64 (re : Int)])
  have HBA := Lib.hid (HB1.out.below (below_on HX1.out hbA))
  have HTA := Lib.hid (HTX.out.on hbA)
  clear hbA HTX HWX HB1 HX1
  generalize x4.alloc (.cells #[.slice A5 rl.length cz5, .int .i64 (re : Int)] 63) = wv at HWQ HRA HBA HTA ⊢
  have g0' := HWQ.out.cell 0
  have g1 := HWQ.out.cell 1
  have f0 := HWQ.out.frozen 0
  have f1 := HWQ.out.frozen 1
  have b0' := HRA.out.cell 0
  have b1 := HRA.out.cell 1
  unfold tk2 at g0' g1
  go_upto_region 18 with (fail)
  have hK := ((HWQ.out.store 0 (.slice A5 rl.length cz5)).store 1 (.int .i64 (re : Int)))
  have hM : Mod [w.heap.size + 1] wv ((wv.setCell ⟨w.heap.size + 1, 0, none⟩ (.slice A5 rl.length cz5)).setCell ⟨w.heap.size + 1, 1, none⟩ (.int .i64 (re : Int))) := ((Mod.refl _ wv).store (p := ⟨w.heap.size + 1, 0, none⟩) (.inl (by simp)) _).store (p := ⟨w.heap.size + 1, 1, none⟩) (.inl (by simp)) _
  have HK2 := Lib.hid (TkAt.put (s := (rl, re)) HWQ.out HBA.out ⟨HM.out, h3⟩ hK hM HBK.out H6.out)
  have HT2 := Lib.hid (HTA.out.num hM)
  clear hK hM g0' g1 f0 f1 b0' b1 HWQ HRA HBA HTA H6 HBK HM
  generalize (wv.setCell ⟨w.heap.size + 1, 0, none⟩ (.slice A5 rl.length cz5)).setCell ⟨w.heap.size + 1, 1, none⟩ (.int .i64 (re : Int)) = wt at HK2 HT2 ⊢
  obtain ⟨px, hpx⟩ : ∃ p, p = (⟨rv.toArray⟩ : ByteArray) := ⟨_, rfl⟩
  rw [← hpx] at HH ⊢
  obtain ⟨s4, hs2⟩ : ∃ p, p = ((rl, re) : WM.St) := ⟨_, rfl⟩
  rw [← hs2] at HH HK2
  clear hpx hs2
  have HA4 := HH
  clear HH
  obtain ⟨c0, c1, c2', c3, c4, c5, c6, c7, c8, c9, c10, c11⟩ := rec_cells HT2.out.kb
  have fz := HT2.out.kb.frozen 3
  go_upto_region 19 with (fail)
  have HT := Lib.hid (HT2.out.store (i := 3) (x := .string px) (q' := { r0 with g := { g0 with id := n2, holder := n3, path := px }, kind := 4 }) (V' := (.slice none 0 0)) (U' := (.slice none 0 0)) rfl HT2.out.rg HT2.out.ru)
  have HK := Lib.hid (tk_store (i := 3) (x := .string px) (g := w.heap.size + 2) HK2.out (by omega) (by omega))
  clear HT2 HK2 fz c0 c1 c2' c3 c4 c5 c6 c7 c8 c9 c10 c11
  generalize World.setCell _ _ _ = y4 at HT HK ⊢
  obtain ⟨c0, c1, c2', c3, c4, c5, c6, c7, c8, c9, c10, c11⟩ := rec_cells HT.out.kb
  go_wp2_with fail
  refine (r11_tnum (w.heap.size + 1) w.heap.size s4 _ HK.out).mono ?_
  rintro e x5 ⟨rfl, h2, hm2⟩
  have HT2 := Lib.hid (HT.out.num hm2)
  have HK2 := Lib.hid h2
  clear h2 hm2 HT HK c0 c1 c2' c3 c4 c5 c6 c7 c8 c9 c10 c11
  generalize ha : WM.tnum s4 = t5 at HK2 ⊢
  obtain ⟨n5, s5⟩ := t5
  have HA5 := Lib.hid ha
  clear ha
  dsimp only at HK2 ⊢
  obtain ⟨c0, c1, c2', c3, c4, c5, c6, c7, c8, c9, c10, c11⟩ := rec_cells HT2.out.kb
  have fz := HT2.out.kb.frozen 4
  go_upto_region 20 with (fail)
  have HT := Lib.hid (HT2.out.store (i := 4) (x := .int .i64 n5) (q' := { r0 with g := { g0 with id := n2, holder := n3, path := px, mode := n5 }, kind := 4 }) (V' := (.slice none 0 0)) (U' := (.slice none 0 0)) rfl HT2.out.rg HT2.out.ru)
  have HK := Lib.hid (tk_store (i := 4) (x := .int .i64 n5) (g := w.heap.size + 2) HK2.out (by omega) (by omega))
  clear HT2 HK2 fz c0 c1 c2' c3 c4 c5 c6 c7 c8 c9 c10 c11
  generalize World.setCell _ _ _ = y5 at HT HK ⊢
  obtain ⟨c0, c1, c2', c3, c4, c5, c6, c7, c8, c9, c10, c11⟩ := rec_cells HT.out.kb
  go_wp2_with fail
  refine (r11_tnum (w.heap.size + 1) w.heap.size s5 _ HK.out).mono ?_
  rintro e x6 ⟨rfl, h2, hm2⟩
  have HT2 := Lib.hid (HT.out.num hm2)
  have HK2 := Lib.hid h2
  clear h2 hm2 HT HK c0 c1 c2' c3 c4 c5 c6 c7 c8 c9 c10 c11
  generalize ha : WM.tnum s5 = t6 at HK2 ⊢
  obtain ⟨n6, s6⟩ := t6
  have HA6 := Lib.hid ha
  clear ha
  dsimp only at HK2 ⊢
  obtain ⟨c0, c1, c2', c3, c4, c5, c6, c7, c8, c9, c10, c11⟩ := rec_cells HT2.out.kb
  have fz := HT2.out.kb.frozen 6
  go_upto_region 21 with (fail)
  have HT := Lib.hid (HT2.out.store (i := 6) (x := .int .i64 n6) (q' := { r0 with g := { g0 with id := n2, holder := n3, path := px, mode := n5, term := n6 }, kind := 4 }) (V' := (.slice none 0 0)) (U' := (.slice none 0 0)) rfl HT2.out.rg HT2.out.ru)
  have HK := Lib.hid (tk_store (i := 6) (x := .int .i64 n6) (g := w.heap.size + 2) HK2.out (by omega) (by omega))
  clear HT2 HK2 fz c0 c1 c2' c3 c4 c5 c6 c7 c8 c9 c10 c11
  generalize World.setCell _ _ _ = y6 at HT HK ⊢
  obtain ⟨c0, c1, c2', c3, c4, c5, c6, c7, c8, c9, c10, c11⟩ := rec_cells HT.out.kb
  go_wp2_with fail
  refine (r11_tcounters (w.heap.size + 1) w.heap.size s6 _ HK.out (by have := HT.out.size; omega) (by have := HT.out.size; omega)).mono ?_
  rintro e x7 ⟨vv, rfl, h1, h2, hm2⟩
  obtain ⟨A9, cz9, e9, _, _⟩ := own_shape h1
  subst e9
  have HT2 := Lib.hid (HT.out.num hm2)
  have HK2 := Lib.hid h2
  have HRW := Lib.hid (gw_base h1 (show w.heap.size + 3 ≤ _ from HT.out.size))
  clear h1 h2 hm2 HT HK c0 c1 c2' c3 c4 c5 c6 c7 c8 c9 c10 c11
  generalize ha : WM.tstamp 5 s6 = t7 at HK2 HRW ⊢
  obtain ⟨n7, s7⟩ := t7
  have HA7 := Lib.hid ha
  clear ha
  dsimp only at HK2 HRW ⊢
  obtain ⟨c0, c1, c2', c3, c4, c5, c6, c7, c8, c9, c10, c11⟩ := rec_cells HT2.out.kb
  have fz := HT2.out.kb.frozen 5
  go_upto_region 27 with (fail)
  have HT := Lib.hid (HT2.out.store (i := 5) (x := (.slice A9 n7.length cz9)) (q' := { r0 with g := { g0 with id := n2, holder := n3, path := px, mode := n5, term := n6, stamp := n7 }, kind := 4 }) (V' := (.slice A9 n7.length cz9)) (U' := (.slice none 0 0)) rfl HRW.out HT2.out.ru)
  have HK := Lib.hid (tk_store (i := 5) (x := (.slice A9 n7.length cz9)) (g := w.heap.size + 2) HK2.out (by omega) (by omega))
  clear HT2 HK2 HRW fz c0 c1 c2' c3 c4 c5 c6 c7 c8 c9 c10 c11
  generalize World.setCell _ _ _ = y7 at HT HK ⊢
  obtain ⟨c0, c1, c2', c3, c4, c5, c6, c7, c8, c9, c10, c11⟩ := rec_cells HT.out.kb
  have HMM := Lib.hid (show BM.taken 5 b = { r0 with g := { g0 with id := n2, holder := n3, path := px, mode := n5, term := n6, stamp := n7 }, kind := 4 } by
    have hk := HKK.out
    unfold BM.taken
    rw [HA1.out]
    simp [BM.partT, BM.grantT, HA2.out, HA3.out, HA4.out, HA5.out, HA6.out, HA7.out, BM.r0, BM.g0])
  have HRT := Lib.hid (rw_taken 5 (by omega) b)
  rw [HMM.out] at HRT
  have HF := Lib.hid (fit_own HRT.out HT.out.rg HT.out.ru)
  clear HK HRT
  go_wp2_with fail
  refine (r11_Encode _ _ _ _ HF.out).mono ?_
  rintro e w6 ⟨A6, cz6, rfl, ho6, hb6⟩
  have HT6 := Lib.hid (HT.out.on hb6)
  have HO6 := Lib.hid ho6
  have HKB := Lib.hid HT6.out.kb
  clear ho6 hb6 HT HF c0 c1 c2' c3 c4 c5 c6 c7 c8 c9 c10 c11
  cases hor : BM.okRc ({ r0 with g := { g0 with id := n2, holder := n3, path := px, mode := n5, term := n6, stamp := n7 }, kind := 4 }) with
  | false =>
    have he : BM.encode ({ r0 with g := { g0 with id := n2, holder := n3, path := px, mode := n5, term := n6, stamp := n7 }, kind := 4 }) = ([], 43) := if_neg (by rw [hor]; decide)
    have HNO := Lib.hid (show ¬ (b.length ≤ 188 ∧ BM.okRc (BM.taken 5 b) = true ∧ BM.laid (BM.taken 5 b) = b) from fun h => by have h2 := h.2.1; rw [HMM.out, hor] at h2; cases h2)
    rw [he]
    clear he hor HO6 HKB HMM
    obtain ⟨z0, z1, z2, z3, z4, z5, z6, z7, z8, z9, z10, z11⟩ := rec_cells HT6.out.kr
    obtain ⟨f0, f1, f2, f3, f4, f5, f6, f7, f8, f9, f10, f11⟩ := frozen_rec HT6.out.kr
    unfold BM.r0 BM.g0 at z0 z1 z2 z3 z4 z6 z7 z9 z10 z11
    go_wp2_with fail
    refine bodyPost_ret (v := .tuple #[.agg (twelve r0 (.slice none 0 0) (.slice none 0 0)), .int .i64 43]) (by simp [results, Try.results9, go_sem, z0, z1, z2, z3, z4, z5, z6, z7, z8, z9, z10, z11, twelve, BM.r0, BM.g0]) rfl ?_
    exact dec_no (HNO.out) (HT6.out.below.trans ((((((((((((((Mod.refl [w.heap.size] _).store (p := ⟨w.heap.size, 0, none⟩) (.inl (by simp)) (.int .i64 0)).store (p := ⟨w.heap.size, 1, none⟩) (.inl (by simp)) (.int .i64 0)).store (p := ⟨w.heap.size, 2, none⟩) (.inl (by simp)) (.int .i64 0)).store (p := ⟨w.heap.size, 3, none⟩) (.inl (by simp)) (.string ⟨#[]⟩)).store (p := ⟨w.heap.size, 4, none⟩) (.inl (by simp)) (.int .i64 0)).store (p := ⟨w.heap.size, 5, none⟩) (.inl (by simp)) (.slice none 0 0)).store (p := ⟨w.heap.size, 6, none⟩) (.inl (by simp)) (.int .i64 0)).store (p := ⟨w.heap.size, 7, none⟩) (.inl (by simp)) (.int .i64 0)).store (p := ⟨w.heap.size, 8, none⟩) (.inl (by simp)) (.slice none 0 0)).store (p := ⟨w.heap.size, 9, none⟩) (.inl (by simp)) (.int .i64 0)).store (p := ⟨w.heap.size, 10, none⟩) (.inl (by simp)) (.int .i64 0)).store (p := ⟨w.heap.size, 11, none⟩) (.inl (by simp)) (.int .i64 0)).below HT6.out.below.size (by intro x hx; simp at hx; omega)))
  | true =>
    have he : BM.encode ({ r0 with g := { g0 with id := n2, holder := n3, path := px, mode := n5, term := n6, stamp := n7 }, kind := 4 }) = (BM.laid ({ r0 with g := { g0 with id := n2, holder := n3, path := px, mode := n5, term := n6, stamp := n7 }, kind := 4 }), 0) := if_pos hor
    rw [he] at HO6 ⊢
    clear he
    have HOR := Lib.hid hor
    clear hor
    generalize hLD : BM.laid ({ r0 with g := { g0 with id := n2, holder := n3, path := px, mode := n5, term := n6, stamp := n7 }, kind := 4 }) = ld at HO6 ⊢
    have HLD := Lib.hid hLD
    clear hLD
    have hcv1 := By.str_of (c := cz6) (show By.BytesAt w6 A6 ld from By.BytesAt.own HO6.out)
    have hcv2 := By.str_of (c := c) (show By.BytesAt w6 A b from HBY.out.below HT6.out.below)
    by_cases heq : ld = b
    · subst heq
      obtain ⟨c0, c1, c2', c3, c4, c5, c6, c7, c8, c9, c10, c11⟩ := rec_cells HKB.out
      obtain ⟨z0, z1, z2, z3, z4, z5, z6, z7, z8, z9, z10, z11⟩ := rec_cells HT6.out.kr
      obtain ⟨f0, f1, f2, f3, f4, f5, f6, f7, f8, f9, f10, f11⟩ := frozen_rec HT6.out.kr
      go_wp2_with fail
      refine bodyPost_ret (v := .tuple #[.agg (twelve ({ r0 with g := { g0 with id := n2, holder := n3, path := px, mode := n5, term := n6, stamp := n7 }, kind := 4 }) (.slice A9 n7.length cz9) (.slice none 0 0)), .int .i64 0]) (by simp [results, Try.results9, go_sem, z0, z1, z2, z3, z4, z5, z6, z7, z8, z9, z10, z11, twelve, BM.r0, BM.g0]) rfl ?_
      have hM := (((((((((((((Mod.refl [w.heap.size] w6).store (p := ⟨w.heap.size, 0, none⟩) (.inl (by simp)) (.int .i64 ({ r0 with g := { g0 with id := n2, holder := n3, path := px, mode := n5, term := n6, stamp := n7 }, kind := 4 }).kind)).store (p := ⟨w.heap.size, 1, none⟩) (.inl (by simp)) (.int .i64 ({ r0 with g := { g0 with id := n2, holder := n3, path := px, mode := n5, term := n6, stamp := n7 }, kind := 4 }).g.id)).store (p := ⟨w.heap.size, 2, none⟩) (.inl (by simp)) (.int .i64 ({ r0 with g := { g0 with id := n2, holder := n3, path := px, mode := n5, term := n6, stamp := n7 }, kind := 4 }).g.holder)).store (p := ⟨w.heap.size, 3, none⟩) (.inl (by simp)) (.string ({ r0 with g := { g0 with id := n2, holder := n3, path := px, mode := n5, term := n6, stamp := n7 }, kind := 4 }).g.path)).store (p := ⟨w.heap.size, 4, none⟩) (.inl (by simp)) (.int .i64 ({ r0 with g := { g0 with id := n2, holder := n3, path := px, mode := n5, term := n6, stamp := n7 }, kind := 4 }).g.mode)).store (p := ⟨w.heap.size, 5, none⟩) (.inl (by simp)) (.slice A9 n7.length cz9)).store (p := ⟨w.heap.size, 6, none⟩) (.inl (by simp)) (.int .i64 ({ r0 with g := { g0 with id := n2, holder := n3, path := px, mode := n5, term := n6, stamp := n7 }, kind := 4 }).g.term)).store (p := ⟨w.heap.size, 7, none⟩) (.inl (by simp)) (.int .i64 ({ r0 with g := { g0 with id := n2, holder := n3, path := px, mode := n5, term := n6, stamp := n7 }, kind := 4 }).id)).store (p := ⟨w.heap.size, 8, none⟩) (.inl (by simp)) (.slice none 0 0)).store (p := ⟨w.heap.size, 9, none⟩) (.inl (by simp)) (.int .i64 ({ r0 with g := { g0 with id := n2, holder := n3, path := px, mode := n5, term := n6, stamp := n7 }, kind := 4 }).next)).store (p := ⟨w.heap.size, 10, none⟩) (.inl (by simp)) (.int .i64 ({ r0 with g := { g0 with id := n2, holder := n3, path := px, mode := n5, term := n6, stamp := n7 }, kind := 4 }).boots)).store (p := ⟨w.heap.size, 11, none⟩) (.inl (by simp)) (.int .i64 ({ r0 with g := { g0 with id := n2, holder := n3, path := px, mode := n5, term := n6, stamp := n7 }, kind := 4 }).longest))
      exact dec_yes HMM.out ⟨HL.out, HOR.out, HLD.out⟩ (hM.own HT6.out.rg (fun k hk => by have := (HT6.out.rg.lt k hk).1; simp; omega)) (hM.own HT6.out.ru (fun k hk => by have := (HT6.out.ru.lt k hk).1; simp; omega)) (HT6.out.below.trans (hM.below HT6.out.below.size (by intro x hx; simp at hx; omega)))
    · have HNO := Lib.hid (show ¬ (b.length ≤ 188 ∧ BM.okRc (BM.taken 5 b) = true ∧ BM.laid (BM.taken 5 b) = b) from fun h => by have h2 := h.2.2; rw [HMM.out, HLD.out] at h2; exact heq h2)
      have hne2 : ((⟨ld.toArray⟩ : ByteArray).toList == (⟨b.toArray⟩ : ByteArray).toList) = false := by
        rw [beq_eq_false_iff_ne]
        intro e
        rw [Lib.toList_data, Lib.toList_data] at e
        exact heq (by simpa using e)
      obtain ⟨xa, hxa⟩ : ∃ x, x = (⟨ld.toArray⟩ : ByteArray) := ⟨_, rfl⟩
      obtain ⟨xb, hxb⟩ : ∃ x, x = (⟨b.toArray⟩ : ByteArray) := ⟨_, rfl⟩
      rw [← hxa] at hcv1 hne2
      rw [← hxb] at hcv2 hne2
      have hne3 : (xa.toList != xb.toList) = true := by simp [bne, hne2]
      have hne4 : ¬ xa.toList = xb.toList := by simpa using hne2
      clear hxa hxb heq HO6 HKB HMM HLD
      obtain ⟨z0, z1, z2, z3, z4, z5, z6, z7, z8, z9, z10, z11⟩ := rec_cells HT6.out.kr
      obtain ⟨f0, f1, f2, f3, f4, f5, f6, f7, f8, f9, f10, f11⟩ := frozen_rec HT6.out.kr
      unfold BM.r0 BM.g0 at z0 z1 z2 z3 z4 z6 z7 z9 z10 z11
      go_wp2_with fail
      refine bodyPost_ret (v := .tuple #[.agg (twelve r0 (.slice none 0 0) (.slice none 0 0)), .int .i64 43]) (by simp [results, Try.results9, go_sem, z0, z1, z2, z3, z4, z5, z6, z7, z8, z9, z10, z11, twelve, BM.r0, BM.g0]) rfl ?_
      exact dec_no (HNO.out) (HT6.out.below.trans ((((((((((((((Mod.refl [w.heap.size] _).store (p := ⟨w.heap.size, 0, none⟩) (.inl (by simp)) (.int .i64 0)).store (p := ⟨w.heap.size, 1, none⟩) (.inl (by simp)) (.int .i64 0)).store (p := ⟨w.heap.size, 2, none⟩) (.inl (by simp)) (.int .i64 0)).store (p := ⟨w.heap.size, 3, none⟩) (.inl (by simp)) (.string ⟨#[]⟩)).store (p := ⟨w.heap.size, 4, none⟩) (.inl (by simp)) (.int .i64 0)).store (p := ⟨w.heap.size, 5, none⟩) (.inl (by simp)) (.slice none 0 0)).store (p := ⟨w.heap.size, 6, none⟩) (.inl (by simp)) (.int .i64 0)).store (p := ⟨w.heap.size, 7, none⟩) (.inl (by simp)) (.int .i64 0)).store (p := ⟨w.heap.size, 8, none⟩) (.inl (by simp)) (.slice none 0 0)).store (p := ⟨w.heap.size, 9, none⟩) (.inl (by simp)) (.int .i64 0)).store (p := ⟨w.heap.size, 10, none⟩) (.inl (by simp)) (.int .i64 0)).store (p := ⟨w.heap.size, 11, none⟩) (.inl (by simp)) (.int .i64 0)).below HT6.out.below.size (by intro x hx; simp at hx; omega)))
set_option maxHeartbeats 16000000 in
theorem d11_5 (A : Option Addr) (c : Nat) (b : List UInt8) (w : World) (hA : BytesAt w A b) (hc : b.length ≤ c) (hm : c ≤ 9223372036854775807) (hl : b.length ≤ 188) (hk : (WM.tnum (b, 0)).1 = 5) :
    Calls Try.prog 9 #[.slice A b.length c] w (DecPost w b) := by
  have HL := Lib.hid hl
  have HKK := Lib.hid hk
  clear hk
  have hd : decide ((188 : Int) < (b.length : Int)) = false := by simp; omega
  have HX2 := Lib.hid (((Below.refl _ w).alloc (Nat.le_refl _) (.cells #[.int .i64 0, .int .i64 0, .int .i64 0, .string ⟨#[]⟩, .int .i64 0, .slice none 0 0, .int .i64 0, .int .i64 0, .slice none 0 0, .int .i64 0, .int .i64 0, .int .i64 0] 28)).alloc (by simp) (.cells (tk2 A b.length c 0) 65))
  have HKR := Lib.hid (show Whole ((w.alloc (.cells #[.int .i64 0, .int .i64 0, .int .i64 0, .string ⟨#[]⟩, .int .i64 0, .slice none 0 0, .int .i64 0, .int .i64 0, .slice none 0 0, .int .i64 0, .int .i64 0, .int .i64 0] 28)).alloc (.cells (tk2 A b.length c 0) 65)) w.heap.size 28 (twelve r0 (.slice none 0 0) (.slice none 0 0)) from (Whole.new w 28 (twelve r0 (.slice none 0 0) (.slice none 0 0))).alloc _)
  have HTK := Lib.hid (show TkAt ((w.alloc (.cells #[.int .i64 0, .int .i64 0, .int .i64 0, .string ⟨#[]⟩, .int .i64 0, .slice none 0 0, .int .i64 0, .int .i64 0, .slice none 0 0, .int .i64 0, .int .i64 0, .int .i64 0] 28)).alloc (.cells (tk2 A b.length c 0) 65)) (w.heap.size + 1) w.heap.size (b, 0) from ⟨A, c, by have h := Whole.new (w.alloc (.cells #[.int .i64 0, .int .i64 0, .int .i64 0, .string ⟨#[]⟩, .int .i64 0, .slice none 0 0, .int .i64 0, .int .i64 0, .slice none 0 0, .int .i64 0, .int .i64 0, .int .i64 0] 28)) 65 (tk2 A b.length c 0); have e : (w.alloc (.cells #[.int .i64 0, .int .i64 0, .int .i64 0, .string ⟨#[]⟩, .int .i64 0, .slice none 0 0, .int .i64 0, .int .i64 0, .slice none 0 0, .int .i64 0, .int .i64 0, .int .i64 0] 28)).heap.size = w.heap.size + 1 := (by simp); rw [e] at h; exact h, hA.below HX2.out, hc, hm, fun h0 ad e => by obtain ⟨bb, oo, eA, hlt, _⟩ := hA h0; rw [e] at eA; injection eA with eA; rw [eA]; exact hlt⟩)
  have HSZ := Lib.hid (show ((w.alloc (.cells #[.int .i64 0, .int .i64 0, .int .i64 0, .string ⟨#[]⟩, .int .i64 0, .slice none 0 0, .int .i64 0, .int .i64 0, .slice none 0 0, .int .i64 0, .int .i64 0, .int .i64 0] 28)).alloc (.cells (tk2 A b.length c 0) 65)).heap.size = w.heap.size + 2 by simp)
  have HBY := Lib.hid hA
  clear hA hl
  unfold tk2 at HX2 HKR HTK HSZ
  go_enter Try.func9, Try.ntmps9
  go_upto_region 4 with (fail)
  generalize (w.alloc (.cells #[.int .i64 0, .int .i64 0, .int .i64 0, .string ⟨#[]⟩, .int .i64 0, .slice none 0 0, .int .i64 0, .int .i64 0, .slice none 0 0, .int .i64 0, .int .i64 0, .int .i64 0] 28)).alloc (.cells #[.slice A b.length c, .int .i64 ((0 : Nat) : Int)] 65) = wa at HX2 HKR HTK HSZ ⊢
  have HT := Lib.hid (show D11 w r0 (.slice none 0 0) (.slice none 0 0) (wa.alloc (.cells #[.int .i64 0, .int .i64 0, .int .i64 0, .string ⟨#[]⟩, .int .i64 0, .slice none 0 0, .int .i64 0, .int .i64 0, .slice none 0 0, .int .i64 0, .int .i64 0, .int .i64 0] 28)) from ⟨HKR.out.alloc _, by have h := Whole.new wa 28 (twelve r0 (.slice none 0 0) (.slice none 0 0)); rw [HSZ.out] at h; exact h, World.ownsRow_nil _ _ _ _, World.ownsRow_nil _ _ _ _, (HX2.out).alloc (by have := HSZ.out; omega) _, by have := HSZ.out; simp; omega⟩)
  have HK := Lib.hid (HTK.out.below ((Below.refl _ wa).alloc (Nat.le_refl _) (.cells #[.int .i64 0, .int .i64 0, .int .i64 0, .string ⟨#[]⟩, .int .i64 0, .slice none 0 0, .int .i64 0, .int .i64 0, .slice none 0 0, .int .i64 0, .int .i64 0, .int .i64 0] 28)))
  clear HX2 HKR HTK
  go_upto_region 5 with (fail)
  rw [HSZ.out]
  generalize wa.alloc (.cells #[.int .i64 0, .int .i64 0, .int .i64 0, .string ⟨#[]⟩, .int .i64 0, .slice none 0 0, .int .i64 0, .int .i64 0, .slice none 0 0, .int .i64 0, .int .i64 0, .int .i64 0] 28) = w0 at HT HK ⊢
  clear HSZ
  go_wp2_with fail
  refine (r11_tnum (w.heap.size + 1) w.heap.size (b, 0) _ HK.out).mono ?_
  rintro e x1 ⟨rfl, h2, hm2⟩
  have HT2 := Lib.hid (HT.out.num hm2)
  have HK2 := Lib.hid h2
  clear h2 hm2 HT HK
  generalize ha : WM.tnum (b, 0) = t1 at HK2 ⊢ HKK
  obtain ⟨n1, s1⟩ := t1
  have HA1 := Lib.hid ha
  clear ha
  dsimp only at HK2 ⊢ HKK
  have hk1 := HKK.out
  subst hk1
  obtain ⟨c0, c1, c2', c3, c4, c5, c6, c7, c8, c9, c10, c11⟩ := rec_cells HT2.out.kb
  have fz := HT2.out.kb.frozen 0
  go_upto_region 6 with (fail)
  have HT := Lib.hid (HT2.out.store (i := 0) (x := .int .i64 5) (q' := { r0 with kind := 5 }) (V' := (.slice none 0 0)) (U' := (.slice none 0 0)) rfl HT2.out.rg HT2.out.ru)
  have HK := Lib.hid (tk_store (i := 0) (x := .int .i64 5) (g := w.heap.size + 2) HK2.out (by omega) (by omega))
  clear HT2 HK2 fz c0 c1 c2' c3 c4 c5 c6 c7 c8 c9 c10 c11
  generalize World.setCell _ _ _ = y1 at HT HK ⊢
  obtain ⟨c0, c1, c2', c3, c4, c5, c6, c7, c8, c9, c10, c11⟩ := rec_cells HT.out.kb
  go_wp2_with fail
  refine (r11_tnum (w.heap.size + 1) w.heap.size s1 _ HK.out).mono ?_
  rintro e x2 ⟨rfl, h2, hm2⟩
  have HT2 := Lib.hid (HT.out.num hm2)
  have HK2 := Lib.hid h2
  clear h2 hm2 HT HK c0 c1 c2' c3 c4 c5 c6 c7 c8 c9 c10 c11
  generalize ha : WM.tnum s1 = t2 at HK2 ⊢
  obtain ⟨n2, s2⟩ := t2
  have HA2 := Lib.hid ha
  clear ha
  dsimp only at HK2 ⊢
  obtain ⟨c0, c1, c2', c3, c4, c5, c6, c7, c8, c9, c10, c11⟩ := rec_cells HT2.out.kb
  have fz := HT2.out.kb.frozen 7
  go_upto_region 24 with (fail)
  have HT := Lib.hid (HT2.out.store (i := 7) (x := .int .i64 n2) (q' := { r0 with kind := 5, id := n2 }) (V' := (.slice none 0 0)) (U' := (.slice none 0 0)) rfl HT2.out.rg HT2.out.ru)
  have HK := Lib.hid (tk_store (i := 7) (x := .int .i64 n2) (g := w.heap.size + 2) HK2.out (by omega) (by omega))
  clear HT2 HK2 fz c0 c1 c2' c3 c4 c5 c6 c7 c8 c9 c10 c11
  generalize World.setCell _ _ _ = y2 at HT HK ⊢
  obtain ⟨c0, c1, c2', c3, c4, c5, c6, c7, c8, c9, c10, c11⟩ := rec_cells HT.out.kb
  go_wp2_with fail
  refine (r11_tcounters (w.heap.size + 1) w.heap.size s2 _ HK.out (by have := HT.out.size; omega) (by have := HT.out.size; omega)).mono ?_
  rintro e x3 ⟨vv, rfl, h1, h2, hm2⟩
  obtain ⟨A9, cz9, e9, _, _⟩ := own_shape h1
  subst e9
  have HT2 := Lib.hid (HT.out.num hm2)
  have HK2 := Lib.hid h2
  have HRW := Lib.hid (gw_base h1 (show w.heap.size + 3 ≤ _ from HT.out.size))
  clear h1 h2 hm2 HT HK c0 c1 c2' c3 c4 c5 c6 c7 c8 c9 c10 c11
  generalize ha : WM.tstamp 5 s2 = t3 at HK2 HRW ⊢
  obtain ⟨n3, s3⟩ := t3
  have HA3 := Lib.hid ha
  clear ha
  dsimp only at HK2 HRW ⊢
  obtain ⟨c0, c1, c2', c3, c4, c5, c6, c7, c8, c9, c10, c11⟩ := rec_cells HT2.out.kb
  have fz := HT2.out.kb.frozen 8
  go_upto_region 27 with (fail)
  have HT := Lib.hid (HT2.out.store (i := 8) (x := (.slice A9 n3.length cz9)) (q' := { r0 with kind := 5, id := n2, stamp := n3 }) (V' := (.slice none 0 0)) (U' := (.slice A9 n3.length cz9)) rfl HT2.out.rg HRW.out)
  have HK := Lib.hid (tk_store (i := 8) (x := (.slice A9 n3.length cz9)) (g := w.heap.size + 2) HK2.out (by omega) (by omega))
  clear HT2 HK2 HRW fz c0 c1 c2' c3 c4 c5 c6 c7 c8 c9 c10 c11
  generalize World.setCell _ _ _ = y3 at HT HK ⊢
  obtain ⟨c0, c1, c2', c3, c4, c5, c6, c7, c8, c9, c10, c11⟩ := rec_cells HT.out.kb
  have HMM := Lib.hid (show BM.taken 5 b = { r0 with kind := 5, id := n2, stamp := n3 } by
    have hk := HKK.out
    unfold BM.taken
    rw [HA1.out]
    simp [BM.partT, BM.grantT, HA2.out, HA3.out, BM.r0, BM.g0])
  have HRT := Lib.hid (rw_taken 5 (by omega) b)
  rw [HMM.out] at HRT
  have HF := Lib.hid (fit_own HRT.out HT.out.rg HT.out.ru)
  clear HK HRT
  go_wp2_with fail
  refine (r11_Encode _ _ _ _ HF.out).mono ?_
  rintro e w6 ⟨A6, cz6, rfl, ho6, hb6⟩
  have HT6 := Lib.hid (HT.out.on hb6)
  have HO6 := Lib.hid ho6
  have HKB := Lib.hid HT6.out.kb
  clear ho6 hb6 HT HF c0 c1 c2' c3 c4 c5 c6 c7 c8 c9 c10 c11
  cases hor : BM.okRc ({ r0 with kind := 5, id := n2, stamp := n3 }) with
  | false =>
    have he : BM.encode ({ r0 with kind := 5, id := n2, stamp := n3 }) = ([], 43) := if_neg (by rw [hor]; decide)
    have HNO := Lib.hid (show ¬ (b.length ≤ 188 ∧ BM.okRc (BM.taken 5 b) = true ∧ BM.laid (BM.taken 5 b) = b) from fun h => by have h2 := h.2.1; rw [HMM.out, hor] at h2; cases h2)
    rw [he]
    clear he hor HO6 HKB HMM
    obtain ⟨z0, z1, z2, z3, z4, z5, z6, z7, z8, z9, z10, z11⟩ := rec_cells HT6.out.kr
    obtain ⟨f0, f1, f2, f3, f4, f5, f6, f7, f8, f9, f10, f11⟩ := frozen_rec HT6.out.kr
    unfold BM.r0 BM.g0 at z0 z1 z2 z3 z4 z6 z7 z9 z10 z11
    go_wp2_with fail
    refine bodyPost_ret (v := .tuple #[.agg (twelve r0 (.slice none 0 0) (.slice none 0 0)), .int .i64 43]) (by simp [results, Try.results9, go_sem, z0, z1, z2, z3, z4, z5, z6, z7, z8, z9, z10, z11, twelve, BM.r0, BM.g0]) rfl ?_
    exact dec_no (HNO.out) (HT6.out.below.trans ((((((((((((((Mod.refl [w.heap.size] _).store (p := ⟨w.heap.size, 0, none⟩) (.inl (by simp)) (.int .i64 0)).store (p := ⟨w.heap.size, 1, none⟩) (.inl (by simp)) (.int .i64 0)).store (p := ⟨w.heap.size, 2, none⟩) (.inl (by simp)) (.int .i64 0)).store (p := ⟨w.heap.size, 3, none⟩) (.inl (by simp)) (.string ⟨#[]⟩)).store (p := ⟨w.heap.size, 4, none⟩) (.inl (by simp)) (.int .i64 0)).store (p := ⟨w.heap.size, 5, none⟩) (.inl (by simp)) (.slice none 0 0)).store (p := ⟨w.heap.size, 6, none⟩) (.inl (by simp)) (.int .i64 0)).store (p := ⟨w.heap.size, 7, none⟩) (.inl (by simp)) (.int .i64 0)).store (p := ⟨w.heap.size, 8, none⟩) (.inl (by simp)) (.slice none 0 0)).store (p := ⟨w.heap.size, 9, none⟩) (.inl (by simp)) (.int .i64 0)).store (p := ⟨w.heap.size, 10, none⟩) (.inl (by simp)) (.int .i64 0)).store (p := ⟨w.heap.size, 11, none⟩) (.inl (by simp)) (.int .i64 0)).below HT6.out.below.size (by intro x hx; simp at hx; omega)))
  | true =>
    have he : BM.encode ({ r0 with kind := 5, id := n2, stamp := n3 }) = (BM.laid ({ r0 with kind := 5, id := n2, stamp := n3 }), 0) := if_pos hor
    rw [he] at HO6 ⊢
    clear he
    have HOR := Lib.hid hor
    clear hor
    generalize hLD : BM.laid ({ r0 with kind := 5, id := n2, stamp := n3 }) = ld at HO6 ⊢
    have HLD := Lib.hid hLD
    clear hLD
    have hcv1 := By.str_of (c := cz6) (show By.BytesAt w6 A6 ld from By.BytesAt.own HO6.out)
    have hcv2 := By.str_of (c := c) (show By.BytesAt w6 A b from HBY.out.below HT6.out.below)
    by_cases heq : ld = b
    · subst heq
      obtain ⟨c0, c1, c2', c3, c4, c5, c6, c7, c8, c9, c10, c11⟩ := rec_cells HKB.out
      obtain ⟨z0, z1, z2, z3, z4, z5, z6, z7, z8, z9, z10, z11⟩ := rec_cells HT6.out.kr
      obtain ⟨f0, f1, f2, f3, f4, f5, f6, f7, f8, f9, f10, f11⟩ := frozen_rec HT6.out.kr
      go_wp2_with fail
      refine bodyPost_ret (v := .tuple #[.agg (twelve ({ r0 with kind := 5, id := n2, stamp := n3 }) (.slice none 0 0) (.slice A9 n3.length cz9)), .int .i64 0]) (by simp [results, Try.results9, go_sem, z0, z1, z2, z3, z4, z5, z6, z7, z8, z9, z10, z11, twelve, BM.r0, BM.g0]) rfl ?_
      have hM := (((((((((((((Mod.refl [w.heap.size] w6).store (p := ⟨w.heap.size, 0, none⟩) (.inl (by simp)) (.int .i64 ({ r0 with kind := 5, id := n2, stamp := n3 }).kind)).store (p := ⟨w.heap.size, 1, none⟩) (.inl (by simp)) (.int .i64 ({ r0 with kind := 5, id := n2, stamp := n3 }).g.id)).store (p := ⟨w.heap.size, 2, none⟩) (.inl (by simp)) (.int .i64 ({ r0 with kind := 5, id := n2, stamp := n3 }).g.holder)).store (p := ⟨w.heap.size, 3, none⟩) (.inl (by simp)) (.string ({ r0 with kind := 5, id := n2, stamp := n3 }).g.path)).store (p := ⟨w.heap.size, 4, none⟩) (.inl (by simp)) (.int .i64 ({ r0 with kind := 5, id := n2, stamp := n3 }).g.mode)).store (p := ⟨w.heap.size, 5, none⟩) (.inl (by simp)) (.slice none 0 0)).store (p := ⟨w.heap.size, 6, none⟩) (.inl (by simp)) (.int .i64 ({ r0 with kind := 5, id := n2, stamp := n3 }).g.term)).store (p := ⟨w.heap.size, 7, none⟩) (.inl (by simp)) (.int .i64 ({ r0 with kind := 5, id := n2, stamp := n3 }).id)).store (p := ⟨w.heap.size, 8, none⟩) (.inl (by simp)) (.slice A9 n3.length cz9)).store (p := ⟨w.heap.size, 9, none⟩) (.inl (by simp)) (.int .i64 ({ r0 with kind := 5, id := n2, stamp := n3 }).next)).store (p := ⟨w.heap.size, 10, none⟩) (.inl (by simp)) (.int .i64 ({ r0 with kind := 5, id := n2, stamp := n3 }).boots)).store (p := ⟨w.heap.size, 11, none⟩) (.inl (by simp)) (.int .i64 ({ r0 with kind := 5, id := n2, stamp := n3 }).longest))
      exact dec_yes HMM.out ⟨HL.out, HOR.out, HLD.out⟩ (hM.own HT6.out.rg (fun k hk => by have := (HT6.out.rg.lt k hk).1; simp; omega)) (hM.own HT6.out.ru (fun k hk => by have := (HT6.out.ru.lt k hk).1; simp; omega)) (HT6.out.below.trans (hM.below HT6.out.below.size (by intro x hx; simp at hx; omega)))
    · have HNO := Lib.hid (show ¬ (b.length ≤ 188 ∧ BM.okRc (BM.taken 5 b) = true ∧ BM.laid (BM.taken 5 b) = b) from fun h => by have h2 := h.2.2; rw [HMM.out, HLD.out] at h2; exact heq h2)
      have hne2 : ((⟨ld.toArray⟩ : ByteArray).toList == (⟨b.toArray⟩ : ByteArray).toList) = false := by
        rw [beq_eq_false_iff_ne]
        intro e
        rw [Lib.toList_data, Lib.toList_data] at e
        exact heq (by simpa using e)
      obtain ⟨xa, hxa⟩ : ∃ x, x = (⟨ld.toArray⟩ : ByteArray) := ⟨_, rfl⟩
      obtain ⟨xb, hxb⟩ : ∃ x, x = (⟨b.toArray⟩ : ByteArray) := ⟨_, rfl⟩
      rw [← hxa] at hcv1 hne2
      rw [← hxb] at hcv2 hne2
      have hne3 : (xa.toList != xb.toList) = true := by simp [bne, hne2]
      have hne4 : ¬ xa.toList = xb.toList := by simpa using hne2
      clear hxa hxb heq HO6 HKB HMM HLD
      obtain ⟨z0, z1, z2, z3, z4, z5, z6, z7, z8, z9, z10, z11⟩ := rec_cells HT6.out.kr
      obtain ⟨f0, f1, f2, f3, f4, f5, f6, f7, f8, f9, f10, f11⟩ := frozen_rec HT6.out.kr
      unfold BM.r0 BM.g0 at z0 z1 z2 z3 z4 z6 z7 z9 z10 z11
      go_wp2_with fail
      refine bodyPost_ret (v := .tuple #[.agg (twelve r0 (.slice none 0 0) (.slice none 0 0)), .int .i64 43]) (by simp [results, Try.results9, go_sem, z0, z1, z2, z3, z4, z5, z6, z7, z8, z9, z10, z11, twelve, BM.r0, BM.g0]) rfl ?_
      exact dec_no (HNO.out) (HT6.out.below.trans ((((((((((((((Mod.refl [w.heap.size] _).store (p := ⟨w.heap.size, 0, none⟩) (.inl (by simp)) (.int .i64 0)).store (p := ⟨w.heap.size, 1, none⟩) (.inl (by simp)) (.int .i64 0)).store (p := ⟨w.heap.size, 2, none⟩) (.inl (by simp)) (.int .i64 0)).store (p := ⟨w.heap.size, 3, none⟩) (.inl (by simp)) (.string ⟨#[]⟩)).store (p := ⟨w.heap.size, 4, none⟩) (.inl (by simp)) (.int .i64 0)).store (p := ⟨w.heap.size, 5, none⟩) (.inl (by simp)) (.slice none 0 0)).store (p := ⟨w.heap.size, 6, none⟩) (.inl (by simp)) (.int .i64 0)).store (p := ⟨w.heap.size, 7, none⟩) (.inl (by simp)) (.int .i64 0)).store (p := ⟨w.heap.size, 8, none⟩) (.inl (by simp)) (.slice none 0 0)).store (p := ⟨w.heap.size, 9, none⟩) (.inl (by simp)) (.int .i64 0)).store (p := ⟨w.heap.size, 10, none⟩) (.inl (by simp)) (.int .i64 0)).store (p := ⟨w.heap.size, 11, none⟩) (.inl (by simp)) (.int .i64 0)).below HT6.out.below.size (by intro x hx; simp at hx; omega)))
set_option maxHeartbeats 16000000 in
theorem d11_0 (A : Option Addr) (c : Nat) (b : List UInt8) (w : World) (hA : BytesAt w A b) (hc : b.length ≤ c) (hm : c ≤ 9223372036854775807) (hl : b.length ≤ 188) (hk : (WM.tnum (b, 0)).1 ≠ 1 ∧ (WM.tnum (b, 0)).1 ≠ 2 ∧ (WM.tnum (b, 0)).1 ≠ 3 ∧ (WM.tnum (b, 0)).1 ≠ 4 ∧ (WM.tnum (b, 0)).1 ≠ 5 ∧ (WM.tnum (b, 0)).1 ≠ 6) :
    Calls Try.prog 9 #[.slice A b.length c] w (DecPost w b) := by
  have HL := Lib.hid hl
  have HKK := Lib.hid hk
  clear hk
  have hd : decide ((188 : Int) < (b.length : Int)) = false := by simp; omega
  have HX2 := Lib.hid (((Below.refl _ w).alloc (Nat.le_refl _) (.cells #[.int .i64 0, .int .i64 0, .int .i64 0, .string ⟨#[]⟩, .int .i64 0, .slice none 0 0, .int .i64 0, .int .i64 0, .slice none 0 0, .int .i64 0, .int .i64 0, .int .i64 0] 28)).alloc (by simp) (.cells (tk2 A b.length c 0) 65))
  have HKR := Lib.hid (show Whole ((w.alloc (.cells #[.int .i64 0, .int .i64 0, .int .i64 0, .string ⟨#[]⟩, .int .i64 0, .slice none 0 0, .int .i64 0, .int .i64 0, .slice none 0 0, .int .i64 0, .int .i64 0, .int .i64 0] 28)).alloc (.cells (tk2 A b.length c 0) 65)) w.heap.size 28 (twelve r0 (.slice none 0 0) (.slice none 0 0)) from (Whole.new w 28 (twelve r0 (.slice none 0 0) (.slice none 0 0))).alloc _)
  have HTK := Lib.hid (show TkAt ((w.alloc (.cells #[.int .i64 0, .int .i64 0, .int .i64 0, .string ⟨#[]⟩, .int .i64 0, .slice none 0 0, .int .i64 0, .int .i64 0, .slice none 0 0, .int .i64 0, .int .i64 0, .int .i64 0] 28)).alloc (.cells (tk2 A b.length c 0) 65)) (w.heap.size + 1) w.heap.size (b, 0) from ⟨A, c, by have h := Whole.new (w.alloc (.cells #[.int .i64 0, .int .i64 0, .int .i64 0, .string ⟨#[]⟩, .int .i64 0, .slice none 0 0, .int .i64 0, .int .i64 0, .slice none 0 0, .int .i64 0, .int .i64 0, .int .i64 0] 28)) 65 (tk2 A b.length c 0); have e : (w.alloc (.cells #[.int .i64 0, .int .i64 0, .int .i64 0, .string ⟨#[]⟩, .int .i64 0, .slice none 0 0, .int .i64 0, .int .i64 0, .slice none 0 0, .int .i64 0, .int .i64 0, .int .i64 0] 28)).heap.size = w.heap.size + 1 := (by simp); rw [e] at h; exact h, hA.below HX2.out, hc, hm, fun h0 ad e => by obtain ⟨bb, oo, eA, hlt, _⟩ := hA h0; rw [e] at eA; injection eA with eA; rw [eA]; exact hlt⟩)
  have HSZ := Lib.hid (show ((w.alloc (.cells #[.int .i64 0, .int .i64 0, .int .i64 0, .string ⟨#[]⟩, .int .i64 0, .slice none 0 0, .int .i64 0, .int .i64 0, .slice none 0 0, .int .i64 0, .int .i64 0, .int .i64 0] 28)).alloc (.cells (tk2 A b.length c 0) 65)).heap.size = w.heap.size + 2 by simp)
  have HBY := Lib.hid hA
  clear hA hl
  unfold tk2 at HX2 HKR HTK HSZ
  go_enter Try.func9, Try.ntmps9
  go_upto_region 4 with (fail)
  generalize (w.alloc (.cells #[.int .i64 0, .int .i64 0, .int .i64 0, .string ⟨#[]⟩, .int .i64 0, .slice none 0 0, .int .i64 0, .int .i64 0, .slice none 0 0, .int .i64 0, .int .i64 0, .int .i64 0] 28)).alloc (.cells #[.slice A b.length c, .int .i64 ((0 : Nat) : Int)] 65) = wa at HX2 HKR HTK HSZ ⊢
  have HT := Lib.hid (show D11 w r0 (.slice none 0 0) (.slice none 0 0) (wa.alloc (.cells #[.int .i64 0, .int .i64 0, .int .i64 0, .string ⟨#[]⟩, .int .i64 0, .slice none 0 0, .int .i64 0, .int .i64 0, .slice none 0 0, .int .i64 0, .int .i64 0, .int .i64 0] 28)) from ⟨HKR.out.alloc _, by have h := Whole.new wa 28 (twelve r0 (.slice none 0 0) (.slice none 0 0)); rw [HSZ.out] at h; exact h, World.ownsRow_nil _ _ _ _, World.ownsRow_nil _ _ _ _, (HX2.out).alloc (by have := HSZ.out; omega) _, by have := HSZ.out; simp; omega⟩)
  have HK := Lib.hid (HTK.out.below ((Below.refl _ wa).alloc (Nat.le_refl _) (.cells #[.int .i64 0, .int .i64 0, .int .i64 0, .string ⟨#[]⟩, .int .i64 0, .slice none 0 0, .int .i64 0, .int .i64 0, .slice none 0 0, .int .i64 0, .int .i64 0, .int .i64 0] 28)))
  clear HX2 HKR HTK
  go_upto_region 5 with (fail)
  rw [HSZ.out]
  generalize wa.alloc (.cells #[.int .i64 0, .int .i64 0, .int .i64 0, .string ⟨#[]⟩, .int .i64 0, .slice none 0 0, .int .i64 0, .int .i64 0, .slice none 0 0, .int .i64 0, .int .i64 0, .int .i64 0] 28) = w0 at HT HK ⊢
  clear HSZ
  go_wp2_with fail
  refine (r11_tnum (w.heap.size + 1) w.heap.size (b, 0) _ HK.out).mono ?_
  rintro e x1 ⟨rfl, h2, hm2⟩
  have HT2 := Lib.hid (HT.out.num hm2)
  have HK2 := Lib.hid h2
  clear h2 hm2 HT HK
  generalize ha : WM.tnum (b, 0) = t1 at HK2 ⊢ HKK
  obtain ⟨n1, s1⟩ := t1
  have HA1 := Lib.hid ha
  clear ha
  dsimp only at HK2 ⊢ HKK
  obtain ⟨c0, c1, c2', c3, c4, c5, c6, c7, c8, c9, c10, c11⟩ := rec_cells HT2.out.kb
  have fz := HT2.out.kb.frozen 0
  go_upto_region 6 with (fail)
  have HT := Lib.hid (HT2.out.store (i := 0) (x := .int .i64 n1) (q' := { r0 with kind := n1 }) (V' := (.slice none 0 0)) (U' := (.slice none 0 0)) rfl HT2.out.rg HT2.out.ru)
  have HK := Lib.hid (tk_store (i := 0) (x := .int .i64 n1) (g := w.heap.size + 2) HK2.out (by omega) (by omega))
  clear HT2 HK2 fz c0 c1 c2' c3 c4 c5 c6 c7 c8 c9 c10 c11
  generalize World.setCell _ _ _ = y1 at HT HK ⊢
  obtain ⟨c0, c1, c2', c3, c4, c5, c6, c7, c8, c9, c10, c11⟩ := rec_cells HT.out.kb
  obtain ⟨h1, h2, h3, h4, h5, h6⟩ := HKK.out
  have k1 : (n1 == 1) = false := by simpa using h1
  have k2 : (n1 == 2) = false := by simpa using h2
  have k3 : (n1 == 3) = false := by simpa using h3
  have k4 : (n1 == 4) = false := by simpa using h4
  have k5 : (n1 == 5) = false := by simpa using h5
  have k6 : (n1 == 6) = false := by simpa using h6
  clear h1 h2 h3 h4 h5 h6
  go_upto_region 27 with (fail)
  have HMM := Lib.hid (show BM.taken 5 b = { r0 with kind := n1 } by
    have hk := HKK.out
    unfold BM.taken
    rw [HA1.out]
    obtain ⟨h1, h2, h3, h4, h5, h6⟩ := hk
    simp [BM.partT, h1, h2, h3, h4, h5, h6])
  have HRT := Lib.hid (rw_taken 5 (by omega) b)
  rw [HMM.out] at HRT
  have HF := Lib.hid (fit_own HRT.out HT.out.rg HT.out.ru)
  clear HK HRT
  go_wp2_with fail
  refine (r11_Encode _ _ _ _ HF.out).mono ?_
  rintro e w6 ⟨A6, cz6, rfl, ho6, hb6⟩
  have HT6 := Lib.hid (HT.out.on hb6)
  have HO6 := Lib.hid ho6
  have HKB := Lib.hid HT6.out.kb
  clear ho6 hb6 HT HF c0 c1 c2' c3 c4 c5 c6 c7 c8 c9 c10 c11
  cases hor : BM.okRc ({ r0 with kind := n1 }) with
  | false =>
    have he : BM.encode ({ r0 with kind := n1 }) = ([], 43) := if_neg (by rw [hor]; decide)
    have HNO := Lib.hid (show ¬ (b.length ≤ 188 ∧ BM.okRc (BM.taken 5 b) = true ∧ BM.laid (BM.taken 5 b) = b) from fun h => by have h2 := h.2.1; rw [HMM.out, hor] at h2; cases h2)
    rw [he]
    clear he hor HO6 HKB HMM
    obtain ⟨z0, z1, z2, z3, z4, z5, z6, z7, z8, z9, z10, z11⟩ := rec_cells HT6.out.kr
    obtain ⟨f0, f1, f2, f3, f4, f5, f6, f7, f8, f9, f10, f11⟩ := frozen_rec HT6.out.kr
    unfold BM.r0 BM.g0 at z0 z1 z2 z3 z4 z6 z7 z9 z10 z11
    go_wp2_with fail
    refine bodyPost_ret (v := .tuple #[.agg (twelve r0 (.slice none 0 0) (.slice none 0 0)), .int .i64 43]) (by simp [results, Try.results9, go_sem, z0, z1, z2, z3, z4, z5, z6, z7, z8, z9, z10, z11, twelve, BM.r0, BM.g0]) rfl ?_
    exact dec_no (HNO.out) (HT6.out.below.trans ((((((((((((((Mod.refl [w.heap.size] _).store (p := ⟨w.heap.size, 0, none⟩) (.inl (by simp)) (.int .i64 0)).store (p := ⟨w.heap.size, 1, none⟩) (.inl (by simp)) (.int .i64 0)).store (p := ⟨w.heap.size, 2, none⟩) (.inl (by simp)) (.int .i64 0)).store (p := ⟨w.heap.size, 3, none⟩) (.inl (by simp)) (.string ⟨#[]⟩)).store (p := ⟨w.heap.size, 4, none⟩) (.inl (by simp)) (.int .i64 0)).store (p := ⟨w.heap.size, 5, none⟩) (.inl (by simp)) (.slice none 0 0)).store (p := ⟨w.heap.size, 6, none⟩) (.inl (by simp)) (.int .i64 0)).store (p := ⟨w.heap.size, 7, none⟩) (.inl (by simp)) (.int .i64 0)).store (p := ⟨w.heap.size, 8, none⟩) (.inl (by simp)) (.slice none 0 0)).store (p := ⟨w.heap.size, 9, none⟩) (.inl (by simp)) (.int .i64 0)).store (p := ⟨w.heap.size, 10, none⟩) (.inl (by simp)) (.int .i64 0)).store (p := ⟨w.heap.size, 11, none⟩) (.inl (by simp)) (.int .i64 0)).below HT6.out.below.size (by intro x hx; simp at hx; omega)))
  | true =>
    have he : BM.encode ({ r0 with kind := n1 }) = (BM.laid ({ r0 with kind := n1 }), 0) := if_pos hor
    rw [he] at HO6 ⊢
    clear he
    have HOR := Lib.hid hor
    clear hor
    generalize hLD : BM.laid ({ r0 with kind := n1 }) = ld at HO6 ⊢
    have HLD := Lib.hid hLD
    clear hLD
    have hcv1 := By.str_of (c := cz6) (show By.BytesAt w6 A6 ld from By.BytesAt.own HO6.out)
    have hcv2 := By.str_of (c := c) (show By.BytesAt w6 A b from HBY.out.below HT6.out.below)
    by_cases heq : ld = b
    · subst heq
      obtain ⟨c0, c1, c2', c3, c4, c5, c6, c7, c8, c9, c10, c11⟩ := rec_cells HKB.out
      obtain ⟨z0, z1, z2, z3, z4, z5, z6, z7, z8, z9, z10, z11⟩ := rec_cells HT6.out.kr
      obtain ⟨f0, f1, f2, f3, f4, f5, f6, f7, f8, f9, f10, f11⟩ := frozen_rec HT6.out.kr
      go_wp2_with fail
      refine bodyPost_ret (v := .tuple #[.agg (twelve ({ r0 with kind := n1 }) (.slice none 0 0) (.slice none 0 0)), .int .i64 0]) (by simp [results, Try.results9, go_sem, z0, z1, z2, z3, z4, z5, z6, z7, z8, z9, z10, z11, twelve, BM.r0, BM.g0]) rfl ?_
      have hM := (((((((((((((Mod.refl [w.heap.size] w6).store (p := ⟨w.heap.size, 0, none⟩) (.inl (by simp)) (.int .i64 ({ r0 with kind := n1 }).kind)).store (p := ⟨w.heap.size, 1, none⟩) (.inl (by simp)) (.int .i64 ({ r0 with kind := n1 }).g.id)).store (p := ⟨w.heap.size, 2, none⟩) (.inl (by simp)) (.int .i64 ({ r0 with kind := n1 }).g.holder)).store (p := ⟨w.heap.size, 3, none⟩) (.inl (by simp)) (.string ({ r0 with kind := n1 }).g.path)).store (p := ⟨w.heap.size, 4, none⟩) (.inl (by simp)) (.int .i64 ({ r0 with kind := n1 }).g.mode)).store (p := ⟨w.heap.size, 5, none⟩) (.inl (by simp)) (.slice none 0 0)).store (p := ⟨w.heap.size, 6, none⟩) (.inl (by simp)) (.int .i64 ({ r0 with kind := n1 }).g.term)).store (p := ⟨w.heap.size, 7, none⟩) (.inl (by simp)) (.int .i64 ({ r0 with kind := n1 }).id)).store (p := ⟨w.heap.size, 8, none⟩) (.inl (by simp)) (.slice none 0 0)).store (p := ⟨w.heap.size, 9, none⟩) (.inl (by simp)) (.int .i64 ({ r0 with kind := n1 }).next)).store (p := ⟨w.heap.size, 10, none⟩) (.inl (by simp)) (.int .i64 ({ r0 with kind := n1 }).boots)).store (p := ⟨w.heap.size, 11, none⟩) (.inl (by simp)) (.int .i64 ({ r0 with kind := n1 }).longest))
      exact dec_yes HMM.out ⟨HL.out, HOR.out, HLD.out⟩ (hM.own HT6.out.rg (fun k hk => by have := (HT6.out.rg.lt k hk).1; simp; omega)) (hM.own HT6.out.ru (fun k hk => by have := (HT6.out.ru.lt k hk).1; simp; omega)) (HT6.out.below.trans (hM.below HT6.out.below.size (by intro x hx; simp at hx; omega)))
    · have HNO := Lib.hid (show ¬ (b.length ≤ 188 ∧ BM.okRc (BM.taken 5 b) = true ∧ BM.laid (BM.taken 5 b) = b) from fun h => by have h2 := h.2.2; rw [HMM.out, HLD.out] at h2; exact heq h2)
      have hne2 : ((⟨ld.toArray⟩ : ByteArray).toList == (⟨b.toArray⟩ : ByteArray).toList) = false := by
        rw [beq_eq_false_iff_ne]
        intro e
        rw [Lib.toList_data, Lib.toList_data] at e
        exact heq (by simpa using e)
      obtain ⟨xa, hxa⟩ : ∃ x, x = (⟨ld.toArray⟩ : ByteArray) := ⟨_, rfl⟩
      obtain ⟨xb, hxb⟩ : ∃ x, x = (⟨b.toArray⟩ : ByteArray) := ⟨_, rfl⟩
      rw [← hxa] at hcv1 hne2
      rw [← hxb] at hcv2 hne2
      have hne3 : (xa.toList != xb.toList) = true := by simp [bne, hne2]
      have hne4 : ¬ xa.toList = xb.toList := by simpa using hne2
      clear hxa hxb heq HO6 HKB HMM HLD
      obtain ⟨z0, z1, z2, z3, z4, z5, z6, z7, z8, z9, z10, z11⟩ := rec_cells HT6.out.kr
      obtain ⟨f0, f1, f2, f3, f4, f5, f6, f7, f8, f9, f10, f11⟩ := frozen_rec HT6.out.kr
      unfold BM.r0 BM.g0 at z0 z1 z2 z3 z4 z6 z7 z9 z10 z11
      go_wp2_with fail
      refine bodyPost_ret (v := .tuple #[.agg (twelve r0 (.slice none 0 0) (.slice none 0 0)), .int .i64 43]) (by simp [results, Try.results9, go_sem, z0, z1, z2, z3, z4, z5, z6, z7, z8, z9, z10, z11, twelve, BM.r0, BM.g0]) rfl ?_
      exact dec_no (HNO.out) (HT6.out.below.trans ((((((((((((((Mod.refl [w.heap.size] _).store (p := ⟨w.heap.size, 0, none⟩) (.inl (by simp)) (.int .i64 0)).store (p := ⟨w.heap.size, 1, none⟩) (.inl (by simp)) (.int .i64 0)).store (p := ⟨w.heap.size, 2, none⟩) (.inl (by simp)) (.int .i64 0)).store (p := ⟨w.heap.size, 3, none⟩) (.inl (by simp)) (.string ⟨#[]⟩)).store (p := ⟨w.heap.size, 4, none⟩) (.inl (by simp)) (.int .i64 0)).store (p := ⟨w.heap.size, 5, none⟩) (.inl (by simp)) (.slice none 0 0)).store (p := ⟨w.heap.size, 6, none⟩) (.inl (by simp)) (.int .i64 0)).store (p := ⟨w.heap.size, 7, none⟩) (.inl (by simp)) (.int .i64 0)).store (p := ⟨w.heap.size, 8, none⟩) (.inl (by simp)) (.slice none 0 0)).store (p := ⟨w.heap.size, 9, none⟩) (.inl (by simp)) (.int .i64 0)).store (p := ⟨w.heap.size, 10, none⟩) (.inl (by simp)) (.int .i64 0)).store (p := ⟨w.heap.size, 11, none⟩) (.inl (by simp)) (.int .i64 0)).below HT6.out.below.size (by intro x hx; simp at hx; omega)))
theorem r11_Decode (A : Option Addr) (c : Nat) (b : List UInt8) (w : World) (hA : BytesAt w A b) (hc : b.length ≤ c) (hm : c ≤ 9223372036854775807) : Calls Try.prog 9 #[.slice A b.length c] w (DecPost w b) := by
  by_cases hl : b.length ≤ 188
  · by_cases h1 : (WM.tnum (b, 0)).1 = 1
    · exact d11_1 A c b w hA hc hm hl h1
    by_cases h2 : (WM.tnum (b, 0)).1 = 2
    · exact d11_2 A c b w hA hc hm hl h2
    by_cases h3 : (WM.tnum (b, 0)).1 = 3
    · exact d11_3 A c b w hA hc hm hl h3
    by_cases h4 : (WM.tnum (b, 0)).1 = 4
    · exact d11_4 A c b w hA hc hm hl h4
    by_cases h5 : (WM.tnum (b, 0)).1 = 5
    · exact d11_5 A c b w hA hc hm hl h5
    by_cases h6 : (WM.tnum (b, 0)).1 = 6
    · exact d11_6 A c b w hA hc hm hl h6
    exact d11_0 A c b w hA hc hm hl ⟨h1, h2, h3, h4, h5, h6⟩
  · exact d11_long A c b w (by omega)
end Go.Proofs.Ytboflkadabagfab
