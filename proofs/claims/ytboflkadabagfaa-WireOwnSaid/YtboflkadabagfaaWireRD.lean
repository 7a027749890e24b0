/- Texts that belong together: WireR6, WireR7. -/
import Derived.Test.YtboflkadabagfaaWireF
import Derived.Test.YtboflkadabagfaaOctB
import Derived.Test.YtboflkadabagfaaWireA
import Derived.Test.YtboflkadabagfaaGrow
import Derived.Test.YtboflkadabagfaaWireRA
import Derived.Test.YtboflkadabagfaaWireRC
import Derived.Test.YtboflkadabagfaaWireW11
namespace Go.Proofs.Ytboflkadabagfaa
open Go.RowKit
open Oct (BytesAt u8s)
open WM (Msg)
set_option linter.unusedVariables false
set_option linter.unusedSimpArgs false
set_option maxRecDepth 100000
theorem rnums_snoc : ∀ (l : List Int) (n : Int), WM.nums (l ++ [n]) = WM.nums l ++ OM.enc n.toNat
  | [], n => by simp [WM.nums]
  | x :: l, n => by rw [List.cons_append, WM.nums, WM.nums, rnums_snoc l n, List.append_assoc]
theorem rnums_take {l : List Int} {k : Nat} (h : k < l.length) : WM.nums (l.take (k + 1)) = WM.nums (l.take k) ++ OM.enc (l[k]).toNat := by
  rw [List.take_add_one, List.getElem?_eq_getElem h, ← rnums_snoc]
  rfl
theorem rnums9 : ∀ (l : List Int), (∀ x ∈ l, x ≤ 9223372036854775807) → (WM.nums l).length ≤ 9 * l.length
  | [], _ => Nat.zero_le _
  | n :: l, h => by
    have h1 : (OM.enc n.toNat).length ≤ 9 := OM.enc_nine (by have := h n (by simp); omega)
    have h2 := rnums9 l (fun x hx => h x (by simp [hx]))
    rw [WM.nums, List.length_append, List.length_cons]
    omega
set_option maxHeartbeats 4000000 in
theorem r6_nums (A : Option Addr) (c : Nat) (l : List Int) (w : World) (hA : IntsAt w A l) (hl : l.length ≤ c) (hc : c ≤ 9223372036854775807) (hr : ∀ x ∈ l, In64 x) (h9 : l.length ≤ 1048576) :
    Calls Try.prog 42 #[.slice A l.length c] w (By.Fresh w (WM.nums l)) := by
  have HA := Lib.hid hA
  have HR := Lib.hid hr
  clear hA hr
  go_enter Try.func42, Try.ntmps42
  go_wp2_with fail
  go_loopw [4, 3] (fun i v wx => ∃ k : Nat, i = .int .i64 (k : Int) ∧ k ≤ l.length ∧ Hid (Gw.Grow w (WM.nums (l.take k)) v wx)) (fun i _ _ => l.length - (intOf i).toNat)
  case atStart => exact ⟨0, rfl, Nat.zero_le _, Lib.hid (by rw [List.take_zero]; exact Gw.Grow.nil w)⟩
  case round =>
    obtain ⟨k, rfl, hk, HG⟩ := hrel
    by_cases hlt : k < l.length
    · obtain ⟨b, o, eA, hb, hca⟩ := (HA.out.below (show Below w.heap.size w wr from HG.out.below)) (by omega)
      subst eA
      have ca := hca k l[k] (List.getElem?_eq_getElem hlt)
      have HN := Lib.hid (rnums_take hlt)
      have HI := Lib.hid (HR.out l[k] (List.getElem_mem hlt))
      have HS := Lib.hid (show (WM.nums (l.take k)).length + 9 ≤ 140737488355328 by
        have h := rnums9 (l.take k) (fun x hx => (HR.out x (List.mem_of_mem_take hx)).2)
        have h2 : (l.take k).length ≤ l.length := List.length_take_le' ..
        omega)
      clear hca hb
      generalize l[k] = x at ca HN HI
      go_wp2_with fail
      refine (Oct.RefNum_any x _ HI.out).mono ?_
      rintro e w5 ⟨vn, rfl, hn, hb5⟩
      obtain ⟨A5, c5, hv5, _, _⟩ := By.own_shape hn
      subst hv5
      have HX5 := Lib.hid (show By.BytesAt w5 A5 (OM.enc x.toNat) from By.BytesAt.own hn)
      have HG5 := Lib.hid (HG.out.on hb5)
      have HL := Lib.hid (show (OM.enc x.toNat).length ≤ 9 from OM.enc_nine (by have := HI.out; unfold In64 at this; omega))
      clear hn hb5 ca
      go_wp2_with (at_builtin; refine Gw.app_grow HG5.out HX5.out rfl (by have := HS.out; have := HL.out; omega) rfl (.tmp 11) (.tmp 16) rfl rfl rfl ?_; intro v' w6 HG6 HM6)
      rw [← HN.out] at HG6
      go_roundw
      case rel => exact ⟨k + 1, rfl, by omega, HG6⟩
      case measure => simp only [intOf]; omega
    · have e : l.take k = l := List.take_of_length_le (by omega)
      rw [e] at HG
      clear e
      go_wp2_with fail
      go_ret
      exact ⟨_, rfl, HG.out.row, HG.out.below⟩
theorem gw_base {w : World} {b1 b2 : Nat} {e : TypeId} {z n : Nat} {v : Value} {xs : List Value} (h : w.ownsRow b1 e z v n xs) (hb : b2 ≤ b1) : w.ownsRow b2 e z v n xs := by
  refine ⟨h.1, ?_⟩
  rcases h.2 with h0 | ⟨b, cap, cur, e, hb', hh, hr⟩
  · exact .inl h0
  · exact .inr ⟨b, cap, cur, e, Nat.le_trans hb hb', hh, hr⟩
set_option maxHeartbeats 4000000 in
theorem r6_counters (A : Option Addr) (c : Nat) (l : List Int) (w : World) (hA : IntsAt w A l) (hl : l.length ≤ c) (hc : c ≤ 9223372036854775807) (hr : ∀ x ∈ l, In64 x) (h9 : l.length ≤ 4) :
    Calls Try.prog 44 #[.slice A l.length c] w (By.Fresh w (WM.stampB l)) := by
  have HA := Lib.hid hA
  have HR := Lib.hid hr
  clear hA hr
  go_enter Try.func44, Try.ntmps44
  go_wp2_with fail
  refine (Oct.RefNum_any (l.length : Int) _ (by omega)).mono ?_
  rintro e w1 ⟨v1, rfl, h1, hb1⟩
  have HG := Lib.hid (show Gw.Grow w (OM.enc l.length) v1 w1 from ⟨h1, hb1⟩)
  have HA1 := Lib.hid (HA.out.below hb1)
  clear h1 hb1
  go_wp2_with fail
  refine (r6_nums A c l w1 HA1.out hl hc HR.out (by omega)).mono ?_
  rintro e w2 ⟨v2, rfl, h2, hb2⟩
  obtain ⟨A5, c5, hv5, _, _⟩ := By.own_shape h2
  subst hv5
  have HX5 := Lib.hid (show By.BytesAt w2 A5 (WM.nums l) from By.BytesAt.own h2)
  have HG2 := Lib.hid (HG.out.on hb2)
  have HL := Lib.hid (show (OM.enc l.length).length + (WM.nums l).length ≤ 140737488355328 by
    have := OM.enc_nine (n := l.length) (by omega)
    have := rnums9 l (fun x hx => (HR.out x hx).2)
    omega)
  clear h2 hb2
  go_wp2_with (at_builtin; refine Gw.app_grow HG2.out HX5.out rfl HL.out rfl (.tmp 7) (.tmp 9) rfl rfl rfl ?_; intro v' w6 HG6 HM6)
  go_ret
  exact ⟨_, rfl, HG6.out.row, HG6.out.below⟩
/-- What stands while the document's body is laid down: the message's box, the bytes so far, the path's bytes. -/
structure BdSt (w0 : World) (A : Option Addr) (c : Nat) (m : Msg) (L : List UInt8) (v : Value) (A4 : Option Addr) (X4 : List UInt8) (w : World) : Prop where
  kb : MsgBlk w w0.heap.size m (.slice A m.stamp.length c)
  grow : Gw.Grow w0 L v w
  path : By.BytesAt w A4 X4
  lt : ∀ ad, A4 = some ad → ad.block < w.heap.size ∧ some ad.block ≠ v.ownBlock
section
variable {w0 w w2 : World} {A A4 : Option Addr} {c : Nat} {m : Msg} {L X X4 : List UInt8} {v v' : Value}
theorem BdSt.on (h : BdSt w0 A c m L v A4 X4 w) (hb : Below w.heap.size w w2) : BdSt w0 A c m L v A4 X4 w2 :=
  ⟨(Mod.of_below hb []).whole h.kb (by simp), h.grow.on hb, h.path.below hb, fun ad e => ⟨Nat.lt_of_lt_of_le (h.lt ad e).1 hb.size, (h.lt ad e).2⟩⟩
theorem BdSt.app (h : BdSt w0 A c m L v A4 X4 w) (k1 : w2.ownsRow w0.heap.size 5 1 v' (L ++ X).length (By.u8s (L ++ X))) (k2 : Mod v.ownBlock.toList w w2) (k3 : v'.ownBlock = v.ownBlock ∨ v'.ownBlock = some w.heap.size) : BdSt w0 A c m (L ++ X) v' A4 X4 w2 := by
  refine ⟨k2.whole h.kb (Gw.own_block_ne h.grow h.kb (by decide)), h.grow.then_ k1 k2, h.path.mod k2 (fun ad e hx => ?_), fun ad e => ⟨Nat.lt_of_lt_of_le (h.lt ad e).1 k2.size, fun e2 => ?_⟩⟩
  · have hx : v.ownBlock = some ad.block := by simpa using hx
    exact (h.lt ad e).2 hx.symm
  · rcases k3 with k3 | k3
    · exact (h.lt ad e).2 (e2.trans k3)
    · have h1 := (h.lt ad e).1
      rw [k3] at e2
      injection e2 with e2
      omega
theorem BdSt.no (hk : MsgBlk w w0.heap.size m (.slice A m.stamp.length c)) (hg : Gw.Grow w0 L v w) : BdSt w0 A c m L v none [] w :=
  ⟨hk, hg, By.BytesAt.nil _ _, fun ad e => by cases e⟩
/-- The path's bytes have come up. -/
theorem BdSt.text (h : BdSt w0 A c m L v none [] w) {n c4 : Nat} {b : Nat} (hb : Below w.heap.size w w2) (ho : w2.ownsRow w.heap.size 5 1 (.slice A4 n c4) n (By.u8s X)) : BdSt w0 A c m L v A4 X w2 := by
  refine ⟨(Mod.of_below hb []).whole h.kb (by simp), h.grow.on hb, By.BytesAt.own ho, fun ad e => ?_⟩
  subst e
  obtain ⟨h1, h2⟩ := ho.lt ad.block rfl
  refine ⟨h2, fun e => ?_⟩
  have := (h.grow.row.lt ad.block e.symm).2
  omega
end
set_option maxHeartbeats 8000000 in
theorem bd6_1a (A : Option Addr) (c : Nat) (m : Msg) (w : World) (hf : Fit6 w A c m) (hk : m.kind = 1) (hv : m.verb = 1) :
    Calls Try.prog 22 #[.agg (cellsM m (.slice A m.stamp.length c))] w (By.Fresh w (WM.body m)) := by
  have HF := Lib.hid hf
  have HWD := Lib.hid hf.wide
  have HKK := Lib.hid hk
  have HVV := Lib.hid hv
  clear hf hk hv
  have HX := Lib.hid ((Below.refl _ w).alloc (Nat.le_refl _) (.cells (cellsM m (.slice A m.stamp.length c)) 28))
  have HK := Lib.hid (show MsgBlk (w.alloc (.cells (cellsM m (.slice A m.stamp.length c)) 28)) w.heap.size m (.slice A m.stamp.length c) from Whole.new w 28 (cellsM m (.slice A m.stamp.length c)))
  go_enter Try.func22, Try.ntmps22
  go_upto_region 1 with (fail)
  generalize w.alloc (.cells (cellsM m (.slice A m.stamp.length c)) 28) = w1 at HX HK ⊢
  obtain ⟨c0, c1, c2', c3, c4, c5, c6, c7, c8, c9, c10, c11, c12, c13, c14, c15⟩ := msg_cells HK.out
  rw [HKK.out] at c0
  rw [HVV.out] at c6
  go_wp2_with fail
  refine (r6_nums (some ⟨w1.heap.size, 0, none⟩) 3 [1, m.frm, m.dst] _ (Gw.ints_lit w1 [1, m.frm, m.dst]) (by simp) (by omega) (by intro x hx; simp only [List.mem_cons, List.not_mem_nil, or_false] at hx; rcases hx with rfl | rfl | rfl <;> first | exact HWD.out.kind | exact HWD.out.frm | exact HWD.out.dst | exact HWD.out.boot | exact HWD.out.seq | exact HWD.out.low | exact HWD.out.verb | exact HWD.out.mode | exact HWD.out.term | exact HWD.out.id | exact HWD.out.code | exact HWD.out.origin | exact HWD.out.number | (unfold In64; omega)) (by simp)).mono ?_
  rintro e w2 ⟨v2, rfl, h2, hb2⟩
  have HB2 := Lib.hid (((Below.refl _ w1).alloc (Nat.le_refl _) (.cells (i64s [1, m.frm, m.dst]).toArray 3)).trans (hb2.mono (by simp)))
  have HT := Lib.hid (BdSt.no (w0 := w) (L := WM.nums [1, m.frm, m.dst]) ((Mod.of_below HB2.out []).whole HK.out (by simp)) (⟨gw_base h2 (by have := HX.out.size; simp; omega), below_on HX.out HB2.out⟩))
  have HN := Lib.hid (show (WM.nums [1, m.frm, m.dst]).length ≤ 27 from rnums9 _ (by intro x hx; exact (show In64 x from (show ∀ x ∈ ([1, m.frm, m.dst] : List Int), In64 x from (by intro x hx; simp only [List.mem_cons, List.not_mem_nil, or_false] at hx; rcases hx with rfl | rfl | rfl <;> first | exact HWD.out.kind | exact HWD.out.frm | exact HWD.out.dst | exact HWD.out.boot | exact HWD.out.seq | exact HWD.out.low | exact HWD.out.verb | exact HWD.out.mode | exact HWD.out.term | exact HWD.out.id | exact HWD.out.code | exact HWD.out.origin | exact HWD.out.number | (unfold In64; omega))) x hx).2))
  clear h2 hb2 HB2 HX HK c0 c1 c2' c3 c4 c5 c6 c7 c8 c9 c10 c11 c12 c13 c14 c15
  obtain ⟨c0, c1, c2', c3, c4, c5, c6, c7, c8, c9, c10, c11, c12, c13, c14, c15⟩ := msg_cells HT.out.kb
  rw [HKK.out] at c0
  rw [HVV.out] at c6
  generalize hL : WM.nums [1, m.frm, m.dst] = L0 at HT HN
  have HL0 := Lib.hid hL
  clear hL
  go_wp2_with fail
  refine (Oct.RefText_any m.path _ HWD.out.path).mono ?_
  rintro e w3 ⟨v3, rfl, h3, hb3⟩
  obtain ⟨A4, cq4, hv4, _, _⟩ := By.own_shape h3
  subst hv4
  have HT3 := Lib.hid (HT.out.text (b := 0) hb3 h3)
  have HP4 := Lib.hid (show (OM.encT m.path.data.toList).length ≤ 140737488351232 + 9 from by rw [OM.encT, List.length_append]; have h := OM.enc_nine (n := m.path.data.toList.length) (by have := HWD.out.path; have e : m.path.data.toList.length = m.path.size := rfl; omega); have := HWD.out.path; have e : m.path.data.toList.length = m.path.size := rfl; omega)
  clear h3 hb3 HT c0 c1 c2' c3 c4 c5 c6 c7 c8 c9 c10 c11 c12 c13 c14 c15
  obtain ⟨c0, c1, c2', c3, c4, c5, c6, c7, c8, c9, c10, c11, c12, c13, c14, c15⟩ := msg_cells HT3.out.kb
  rw [HKK.out] at c0
  rw [HVV.out] at c6
  go_wp2_with fail
  have HA0 := Lib.hid (HT3.out.on ((Below.refl _ w3).alloc (Nat.le_refl _) (.cells (i64s [m.boot, m.seq, m.low, 1]).toArray 3)))
  refine (r6_nums (some ⟨w3.heap.size, 0, none⟩) 4 [m.boot, m.seq, m.low, 1] _ (Gw.ints_lit w3 [m.boot, m.seq, m.low, 1]) (by simp) (by omega) (by intro x hx; simp only [List.mem_cons, List.not_mem_nil, or_false] at hx; rcases hx with rfl | rfl | rfl | rfl <;> first | exact HWD.out.kind | exact HWD.out.frm | exact HWD.out.dst | exact HWD.out.boot | exact HWD.out.seq | exact HWD.out.low | exact HWD.out.verb | exact HWD.out.mode | exact HWD.out.term | exact HWD.out.id | exact HWD.out.code | exact HWD.out.origin | exact HWD.out.number | (unfold In64; omega)) (by simp)).mono ?_
  rintro e x0 ⟨q0, rfl, hq, hb⟩
  obtain ⟨B0, d0, hv, _, _⟩ := By.own_shape hq
  subst hv
  have HY0 := Lib.hid (show By.BytesAt x0 B0 (WM.nums [m.boot, m.seq, m.low, 1]) from By.BytesAt.own hq)
  have HQ0 := Lib.hid (HA0.out.on hb)
  have HN0 := Lib.hid (show (WM.nums [m.boot, m.seq, m.low, 1]).length ≤ 36 from rnums9 _ (by intro x hx; exact (show In64 x from (show ∀ x ∈ ([m.boot, m.seq, m.low, 1] : List Int), In64 x from (by intro x hx; simp only [List.mem_cons, List.not_mem_nil, or_false] at hx; rcases hx with rfl | rfl | rfl | rfl <;> first | exact HWD.out.kind | exact HWD.out.frm | exact HWD.out.dst | exact HWD.out.boot | exact HWD.out.seq | exact HWD.out.low | exact HWD.out.verb | exact HWD.out.mode | exact HWD.out.term | exact HWD.out.id | exact HWD.out.code | exact HWD.out.origin | exact HWD.out.number | (unfold In64; omega))) x hx).2))
  clear hq hb HA0 HT3 c0 c1 c2' c3 c4 c5 c6 c7 c8 c9 c10 c11 c12 c13 c14 c15
  go_upto_region 6 with (at_builtin; refine Gw.app_more rfl (.tmp 21) (.tmp 31) rfl w.heap.size v2 (L0) (WM.nums [m.boot, m.seq, m.low, 1]) B0 _ d0 HQ0.out.grow.row HY0.out rfl (by have := HN.out; have := HN0.out; omega) HQ0.out.grow.below.size rfl rfl ?_; intro u0 y0 k1 k2 k3; have HM0 := Lib.hid (HQ0.out.app k1 k2 k3); have HE0 := Lib.hid (show (L0 ++ WM.nums [m.boot, m.seq, m.low, 1]).length ≤ 63 by rw [List.length_append]; have := HN.out; have := HN0.out; omega); clear k1 k2 k3)
  generalize hM : L0 ++ WM.nums [m.boot, m.seq, m.low, 1] = M0 at HM0 HE0
  have HL1 := Lib.hid hM
  clear hM
  obtain ⟨c0, c1, c2', c3, c4, c5, c6, c7, c8, c9, c10, c11, c12, c13, c14, c15⟩ := msg_cells HM0.out.kb
  rw [HKK.out] at c0
  rw [HVV.out] at c6
  have HQ1 := Lib.hid HM0.out
  have HN1 := Lib.hid HP4.out
  go_upto_region 9 with (at_builtin; refine Gw.app_more rfl (.tmp 37) (.tmp 38) rfl w.heap.size u0 (M0) (OM.encT m.path.data.toList) A4 _ cq4 HQ1.out.grow.row HQ1.out.path rfl (by have := HE0.out; have := HN1.out; omega) HQ1.out.grow.below.size rfl rfl ?_; intro u1 y1 k1 k2 k3; have HM1 := Lib.hid (HQ1.out.app k1 k2 k3); have HE1 := Lib.hid (show (M0 ++ OM.encT m.path.data.toList).length ≤ 140737488351304 by rw [List.length_append]; have := HE0.out; have := HN1.out; omega); clear k1 k2 k3 HM0 c0 c1 c2' c3 c4 c5 c6 c7 c8 c9 c10 c11 c12 c13 c14 c15)
  generalize hM : M0 ++ OM.encT m.path.data.toList = M1 at HM1 HE1
  have HL2 := Lib.hid hM
  clear hM
  obtain ⟨c0, c1, c2', c3, c4, c5, c6, c7, c8, c9, c10, c11, c12, c13, c14, c15⟩ := msg_cells HM1.out.kb
  rw [HKK.out] at c0
  rw [HVV.out] at c6
  go_wp2_with fail
  have HA2 := Lib.hid (HM1.out.on ((Below.refl _ y1).alloc (Nat.le_refl _) (.cells (i64s [m.mode, m.term]).toArray 3)))
  refine (r6_nums (some ⟨y1.heap.size, 0, none⟩) 2 [m.mode, m.term] _ (Gw.ints_lit y1 [m.mode, m.term]) (by simp) (by omega) (by intro x hx; simp only [List.mem_cons, List.not_mem_nil, or_false] at hx; rcases hx with rfl | rfl <;> first | exact HWD.out.kind | exact HWD.out.frm | exact HWD.out.dst | exact HWD.out.boot | exact HWD.out.seq | exact HWD.out.low | exact HWD.out.verb | exact HWD.out.mode | exact HWD.out.term | exact HWD.out.id | exact HWD.out.code | exact HWD.out.origin | exact HWD.out.number | (unfold In64; omega)) (by simp)).mono ?_
  rintro e x2 ⟨q2, rfl, hq, hb⟩
  obtain ⟨B2, d2, hv, _, _⟩ := By.own_shape hq
  subst hv
  have HY2 := Lib.hid (show By.BytesAt x2 B2 (WM.nums [m.mode, m.term]) from By.BytesAt.own hq)
  have HQ2 := Lib.hid (HA2.out.on hb)
  have HN2 := Lib.hid (show (WM.nums [m.mode, m.term]).length ≤ 18 from rnums9 _ (by intro x hx; exact (show In64 x from (show ∀ x ∈ ([m.mode, m.term] : List Int), In64 x from (by intro x hx; simp only [List.mem_cons, List.not_mem_nil, or_false] at hx; rcases hx with rfl | rfl <;> first | exact HWD.out.kind | exact HWD.out.frm | exact HWD.out.dst | exact HWD.out.boot | exact HWD.out.seq | exact HWD.out.low | exact HWD.out.verb | exact HWD.out.mode | exact HWD.out.term | exact HWD.out.id | exact HWD.out.code | exact HWD.out.origin | exact HWD.out.number | (unfold In64; omega))) x hx).2))
  clear hq hb HA2 HM1 c0 c1 c2' c3 c4 c5 c6 c7 c8 c9 c10 c11 c12 c13 c14 c15
  go_wp2_with (at_builtin; refine Gw.app_more rfl (.tmp 40) (.tmp 46) rfl w.heap.size u1 (M1) (WM.nums [m.mode, m.term]) B2 _ d2 HQ2.out.grow.row HY2.out rfl (by have := HE1.out; have := HN2.out; omega) HQ2.out.grow.below.size rfl rfl ?_; intro u2 y2 k1 k2 k3; have HM2 := Lib.hid (HQ2.out.app k1 k2 k3); have HE2 := Lib.hid (show (M1 ++ WM.nums [m.mode, m.term]).length ≤ 140737488351322 by rw [List.length_append]; have := HE1.out; have := HN2.out; omega); clear k1 k2 k3)
  generalize hM : M1 ++ WM.nums [m.mode, m.term] = M2 at HM2 HE2
  have HL3 := Lib.hid hM
  clear hM
  have HBD := Lib.hid (show WM.body m = M2 by rw [← HL3.out, ← HL2.out, ← HL1.out, ← HL0.out]; unfold WM.body WM.partB WM.askB WM.replyB WM.recallB WM.doneB WM.opB WM.p WM.flag; simp [HKK.out, HVV.out, WM.nums])
  skip
  go_ret
  rw [HBD.out]
  exact ⟨_, rfl, HM2.out.grow.row, HM2.out.grow.below⟩
set_option maxHeartbeats 8000000 in
theorem bd6_1bt (A : Option Addr) (c : Nat) (m : Msg) (w : World) (hf : Fit6 w A c m) (hk : m.kind = 1) (hv : m.verb = 2) (hfr : m.fresh = true) :
    Calls Try.prog 22 #[.agg (cellsM m (.slice A m.stamp.length c))] w (By.Fresh w (WM.body m)) := by
  have HF := Lib.hid hf
  have HWD := Lib.hid hf.wide
  have HKK := Lib.hid hk
  have HVV := Lib.hid hv
  have HFR := Lib.hid hfr
  clear hf hk hv hfr
  have HX := Lib.hid ((Below.refl _ w).alloc (Nat.le_refl _) (.cells (cellsM m (.slice A m.stamp.length c)) 28))
  have HK := Lib.hid (show MsgBlk (w.alloc (.cells (cellsM m (.slice A m.stamp.length c)) 28)) w.heap.size m (.slice A m.stamp.length c) from Whole.new w 28 (cellsM m (.slice A m.stamp.length c)))
  go_enter Try.func22, Try.ntmps22
  go_upto_region 1 with (fail)
  generalize w.alloc (.cells (cellsM m (.slice A m.stamp.length c)) 28) = w1 at HX HK ⊢
  obtain ⟨c0, c1, c2', c3, c4, c5, c6, c7, c8, c9, c10, c11, c12, c13, c14, c15⟩ := msg_cells HK.out
  rw [HKK.out] at c0
  rw [HVV.out] at c6
  rw [HFR.out] at c11
  go_wp2_with fail
  refine (r6_nums (some ⟨w1.heap.size, 0, none⟩) 3 [1, m.frm, m.dst] _ (Gw.ints_lit w1 [1, m.frm, m.dst]) (by simp) (by omega) (by intro x hx; simp only [List.mem_cons, List.not_mem_nil, or_false] at hx; rcases hx with rfl | rfl | rfl <;> first | exact HWD.out.kind | exact HWD.out.frm | exact HWD.out.dst | exact HWD.out.boot | exact HWD.out.seq | exact HWD.out.low | exact HWD.out.verb | exact HWD.out.mode | exact HWD.out.term | exact HWD.out.id | exact HWD.out.code | exact HWD.out.origin | exact HWD.out.number | (unfold In64; omega)) (by simp)).mono ?_
  rintro e w2 ⟨v2, rfl, h2, hb2⟩
  have HB2 := Lib.hid (((Below.refl _ w1).alloc (Nat.le_refl _) (.cells (i64s [1, m.frm, m.dst]).toArray 3)).trans (hb2.mono (by simp)))
  have HT := Lib.hid (BdSt.no (w0 := w) (L := WM.nums [1, m.frm, m.dst]) ((Mod.of_below HB2.out []).whole HK.out (by simp)) (⟨gw_base h2 (by have := HX.out.size; simp; omega), below_on HX.out HB2.out⟩))
  have HN := Lib.hid (show (WM.nums [1, m.frm, m.dst]).length ≤ 27 from rnums9 _ (by intro x hx; exact (show In64 x from (show ∀ x ∈ ([1, m.frm, m.dst] : List Int), In64 x from (by intro x hx; simp only [List.mem_cons, List.not_mem_nil, or_false] at hx; rcases hx with rfl | rfl | rfl <;> first | exact HWD.out.kind | exact HWD.out.frm | exact HWD.out.dst | exact HWD.out.boot | exact HWD.out.seq | exact HWD.out.low | exact HWD.out.verb | exact HWD.out.mode | exact HWD.out.term | exact HWD.out.id | exact HWD.out.code | exact HWD.out.origin | exact HWD.out.number | (unfold In64; omega))) x hx).2))
  clear h2 hb2 HB2 HX HK c0 c1 c2' c3 c4 c5 c6 c7 c8 c9 c10 c11 c12 c13 c14 c15
  obtain ⟨c0, c1, c2', c3, c4, c5, c6, c7, c8, c9, c10, c11, c12, c13, c14, c15⟩ := msg_cells HT.out.kb
  rw [HKK.out] at c0
  rw [HVV.out] at c6
  rw [HFR.out] at c11
  generalize hL : WM.nums [1, m.frm, m.dst] = L0 at HT HN
  have HL0 := Lib.hid hL
  clear hL
  go_wp2_with fail
  refine (Oct.RefText_any m.path _ HWD.out.path).mono ?_
  rintro e w3 ⟨v3, rfl, h3, hb3⟩
  obtain ⟨A4, cq4, hv4, _, _⟩ := By.own_shape h3
  subst hv4
  have HT3 := Lib.hid (HT.out.text (b := 0) hb3 h3)
  have HP4 := Lib.hid (show (OM.encT m.path.data.toList).length ≤ 140737488351232 + 9 from by rw [OM.encT, List.length_append]; have h := OM.enc_nine (n := m.path.data.toList.length) (by have := HWD.out.path; have e : m.path.data.toList.length = m.path.size := rfl; omega); have := HWD.out.path; have e : m.path.data.toList.length = m.path.size := rfl; omega)
  clear h3 hb3 HT c0 c1 c2' c3 c4 c5 c6 c7 c8 c9 c10 c11 c12 c13 c14 c15
  obtain ⟨c0, c1, c2', c3, c4, c5, c6, c7, c8, c9, c10, c11, c12, c13, c14, c15⟩ := msg_cells HT3.out.kb
  rw [HKK.out] at c0
  rw [HVV.out] at c6
  rw [HFR.out] at c11
  go_wp2_with fail
  have HA0 := Lib.hid (HT3.out.on ((Below.refl _ w3).alloc (Nat.le_refl _) (.cells (i64s [m.boot, m.seq, m.low, 2]).toArray 3)))
  refine (r6_nums (some ⟨w3.heap.size, 0, none⟩) 4 [m.boot, m.seq, m.low, 2] _ (Gw.ints_lit w3 [m.boot, m.seq, m.low, 2]) (by simp) (by omega) (by intro x hx; simp only [List.mem_cons, List.not_mem_nil, or_false] at hx; rcases hx with rfl | rfl | rfl | rfl <;> first | exact HWD.out.kind | exact HWD.out.frm | exact HWD.out.dst | exact HWD.out.boot | exact HWD.out.seq | exact HWD.out.low | exact HWD.out.verb | exact HWD.out.mode | exact HWD.out.term | exact HWD.out.id | exact HWD.out.code | exact HWD.out.origin | exact HWD.out.number | (unfold In64; omega)) (by simp)).mono ?_
  rintro e x0 ⟨q0, rfl, hq, hb⟩
  obtain ⟨B0, d0, hv, _, _⟩ := By.own_shape hq
  subst hv
  have HY0 := Lib.hid (show By.BytesAt x0 B0 (WM.nums [m.boot, m.seq, m.low, 2]) from By.BytesAt.own hq)
  have HQ0 := Lib.hid (HA0.out.on hb)
  have HN0 := Lib.hid (show (WM.nums [m.boot, m.seq, m.low, 2]).length ≤ 36 from rnums9 _ (by intro x hx; exact (show In64 x from (show ∀ x ∈ ([m.boot, m.seq, m.low, 2] : List Int), In64 x from (by intro x hx; simp only [List.mem_cons, List.not_mem_nil, or_false] at hx; rcases hx with rfl | rfl | rfl | rfl <;> first | exact HWD.out.kind | exact HWD.out.frm | exact HWD.out.dst | exact HWD.out.boot | exact HWD.out.seq | exact HWD.out.low | exact HWD.out.verb | exact HWD.out.mode | exact HWD.out.term | exact HWD.out.id | exact HWD.out.code | exact HWD.out.origin | exact HWD.out.number | (unfold In64; omega))) x hx).2))
  clear hq hb HA0 HT3 c0 c1 c2' c3 c4 c5 c6 c7 c8 c9 c10 c11 c12 c13 c14 c15
  go_upto_region 6 with (at_builtin; refine Gw.app_more rfl (.tmp 21) (.tmp 31) rfl w.heap.size v2 (L0) (WM.nums [m.boot, m.seq, m.low, 2]) B0 _ d0 HQ0.out.grow.row HY0.out rfl (by have := HN.out; have := HN0.out; omega) HQ0.out.grow.below.size rfl rfl ?_; intro u0 y0 k1 k2 k3; have HM0 := Lib.hid (HQ0.out.app k1 k2 k3); have HE0 := Lib.hid (show (L0 ++ WM.nums [m.boot, m.seq, m.low, 2]).length ≤ 63 by rw [List.length_append]; have := HN.out; have := HN0.out; omega); clear k1 k2 k3)
  generalize hM : L0 ++ WM.nums [m.boot, m.seq, m.low, 2] = M0 at HM0 HE0
  have HL1 := Lib.hid hM
  clear hM
  obtain ⟨c0, c1, c2', c3, c4, c5, c6, c7, c8, c9, c10, c11, c12, c13, c14, c15⟩ := msg_cells HM0.out.kb
  rw [HKK.out] at c0
  rw [HVV.out] at c6
  rw [HFR.out] at c11
  go_wp2_with fail
  have HA1 := Lib.hid (HM0.out.on ((Below.refl _ y0).alloc (Nat.le_refl _) (.cells (i64s [m.id, m.term, 1]).toArray 3)))
  refine (r6_nums (some ⟨y0.heap.size, 0, none⟩) 3 [m.id, m.term, 1] _ (Gw.ints_lit y0 [m.id, m.term, 1]) (by simp) (by omega) (by intro x hx; simp only [List.mem_cons, List.not_mem_nil, or_false] at hx; rcases hx with rfl | rfl | rfl <;> first | exact HWD.out.kind | exact HWD.out.frm | exact HWD.out.dst | exact HWD.out.boot | exact HWD.out.seq | exact HWD.out.low | exact HWD.out.verb | exact HWD.out.mode | exact HWD.out.term | exact HWD.out.id | exact HWD.out.code | exact HWD.out.origin | exact HWD.out.number | (unfold In64; omega)) (by simp)).mono ?_
  rintro e x1 ⟨q1, rfl, hq, hb⟩
  obtain ⟨B1, d1, hv, _, _⟩ := By.own_shape hq
  subst hv
  have HY1 := Lib.hid (show By.BytesAt x1 B1 (WM.nums [m.id, m.term, 1]) from By.BytesAt.own hq)
  have HQ1 := Lib.hid (HA1.out.on hb)
  have HN1 := Lib.hid (show (WM.nums [m.id, m.term, 1]).length ≤ 27 from rnums9 _ (by intro x hx; exact (show In64 x from (show ∀ x ∈ ([m.id, m.term, 1] : List Int), In64 x from (by intro x hx; simp only [List.mem_cons, List.not_mem_nil, or_false] at hx; rcases hx with rfl | rfl | rfl <;> first | exact HWD.out.kind | exact HWD.out.frm | exact HWD.out.dst | exact HWD.out.boot | exact HWD.out.seq | exact HWD.out.low | exact HWD.out.verb | exact HWD.out.mode | exact HWD.out.term | exact HWD.out.id | exact HWD.out.code | exact HWD.out.origin | exact HWD.out.number | (unfold In64; omega))) x hx).2))
  clear hq hb HA1 HM0 c0 c1 c2' c3 c4 c5 c6 c7 c8 c9 c10 c11 c12 c13 c14 c15
  go_wp2_with (at_builtin; refine Gw.app_more rfl (.tmp 52) (.tmp 59) rfl w.heap.size u0 (M0) (WM.nums [m.id, m.term, 1]) B1 _ d1 HQ1.out.grow.row HY1.out rfl (by have := HE0.out; have := HN1.out; omega) HQ1.out.grow.below.size rfl rfl ?_; intro u1 y1 k1 k2 k3; have HM1 := Lib.hid (HQ1.out.app k1 k2 k3); have HE1 := Lib.hid (show (M0 ++ WM.nums [m.id, m.term, 1]).length ≤ 90 by rw [List.length_append]; have := HE0.out; have := HN1.out; omega); clear k1 k2 k3)
  generalize hM : M0 ++ WM.nums [m.id, m.term, 1] = M1 at HM1 HE1
  have HL2 := Lib.hid hM
  clear hM
  have HBD := Lib.hid (show WM.body m = M1 by rw [← HL2.out, ← HL1.out, ← HL0.out]; unfold WM.body WM.partB WM.askB WM.replyB WM.recallB WM.doneB WM.opB WM.p WM.flag; simp [HKK.out, HVV.out, HFR.out, WM.nums])
  skip
  go_ret
  rw [HBD.out]
  exact ⟨_, rfl, HM1.out.grow.row, HM1.out.grow.below⟩
set_option maxHeartbeats 8000000 in
theorem bd6_1bf (A : Option Addr) (c : Nat) (m : Msg) (w : World) (hf : Fit6 w A c m) (hk : m.kind = 1) (hv : m.verb = 2) (hfr : m.fresh = false) :
    Calls Try.prog 22 #[.agg (cellsM m (.slice A m.stamp.length c))] w (By.Fresh w (WM.body m)) := by
  have HF := Lib.hid hf
  have HWD := Lib.hid hf.wide
  have HKK := Lib.hid hk
  have HVV := Lib.hid hv
  have HFR := Lib.hid hfr
  clear hf hk hv hfr
  have HX := Lib.hid ((Below.refl _ w).alloc (Nat.le_refl _) (.cells (cellsM m (.slice A m.stamp.length c)) 28))
  have HK := Lib.hid (show MsgBlk (w.alloc (.cells (cellsM m (.slice A m.stamp.length c)) 28)) w.heap.size m (.slice A m.stamp.length c) from Whole.new w 28 (cellsM m (.slice A m.stamp.length c)))
  go_enter Try.func22, Try.ntmps22
  go_upto_region 1 with (fail)
  generalize w.alloc (.cells (cellsM m (.slice A m.stamp.length c)) 28) = w1 at HX HK ⊢
  obtain ⟨c0, c1, c2', c3, c4, c5, c6, c7, c8, c9, c10, c11, c12, c13, c14, c15⟩ := msg_cells HK.out
  rw [HKK.out] at c0
  rw [HVV.out] at c6
  rw [HFR.out] at c11
  go_wp2_with fail
  refine (r6_nums (some ⟨w1.heap.size, 0, none⟩) 3 [1, m.frm, m.dst] _ (Gw.ints_lit w1 [1, m.frm, m.dst]) (by simp) (by omega) (by intro x hx; simp only [List.mem_cons, List.not_mem_nil, or_false] at hx; rcases hx with rfl | rfl | rfl <;> first | exact HWD.out.kind | exact HWD.out.frm | exact HWD.out.dst | exact HWD.out.boot | exact HWD.out.seq | exact HWD.out.low | exact HWD.out.verb | exact HWD.out.mode | exact HWD.out.term | exact HWD.out.id | exact HWD.out.code | exact HWD.out.origin | exact HWD.out.number | (unfold In64; omega)) (by simp)).mono ?_
  rintro e w2 ⟨v2, rfl, h2, hb2⟩
  have HB2 := Lib.hid (((Below.refl _ w1).alloc (Nat.le_refl _) (.cells (i64s [1, m.frm, m.dst]).toArray 3)).trans (hb2.mono (by simp)))
  have HT := Lib.hid (BdSt.no (w0 := w) (L := WM.nums [1, m.frm, m.dst]) ((Mod.of_below HB2.out []).whole HK.out (by simp)) (⟨gw_base h2 (by have := HX.out.size; simp; omega), below_on HX.out HB2.out⟩))
  have HN := Lib.hid (show (WM.nums [1, m.frm, m.dst]).length ≤ 27 from rnums9 _ (by intro x hx; exact (show In64 x from (show ∀ x ∈ ([1, m.frm, m.dst] : List Int), In64 x from (by intro x hx; simp only [List.mem_cons, List.not_mem_nil, or_false] at hx; rcases hx with rfl | rfl | rfl <;> first | exact HWD.out.kind | exact HWD.out.frm | exact HWD.out.dst | exact HWD.out.boot | exact HWD.out.seq | exact HWD.out.low | exact HWD.out.verb | exact HWD.out.mode | exact HWD.out.term | exact HWD.out.id | exact HWD.out.code | exact HWD.out.origin | exact HWD.out.number | (unfold In64; omega))) x hx).2))
  clear h2 hb2 HB2 HX HK c0 c1 c2' c3 c4 c5 c6 c7 c8 c9 c10 c11 c12 c13 c14 c15
  obtain ⟨c0, c1, c2', c3, c4, c5, c6, c7, c8, c9, c10, c11, c12, c13, c14, c15⟩ := msg_cells HT.out.kb
  rw [HKK.out] at c0
  rw [HVV.out] at c6
  rw [HFR.out] at c11
  generalize hL : WM.nums [1, m.frm, m.dst] = L0 at HT HN
  have HL0 := Lib.hid hL
  clear hL
  go_wp2_with fail
  refine (Oct.RefText_any m.path _ HWD.out.path).mono ?_
  rintro e w3 ⟨v3, rfl, h3, hb3⟩
  obtain ⟨A4, cq4, hv4, _, _⟩ := By.own_shape h3
  subst hv4
  have HT3 := Lib.hid (HT.out.text (b := 0) hb3 h3)
  have HP4 := Lib.hid (show (OM.encT m.path.data.toList).length ≤ 140737488351232 + 9 from by rw [OM.encT, List.length_append]; have h := OM.enc_nine (n := m.path.data.toList.length) (by have := HWD.out.path; have e : m.path.data.toList.length = m.path.size := rfl; omega); have := HWD.out.path; have e : m.path.data.toList.length = m.path.size := rfl; omega)
  clear h3 hb3 HT c0 c1 c2' c3 c4 c5 c6 c7 c8 c9 c10 c11 c12 c13 c14 c15
  obtain ⟨c0, c1, c2', c3, c4, c5, c6, c7, c8, c9, c10, c11, c12, c13, c14, c15⟩ := msg_cells HT3.out.kb
  rw [HKK.out] at c0
  rw [HVV.out] at c6
  rw [HFR.out] at c11
  go_wp2_with fail
  have HA0 := Lib.hid (HT3.out.on ((Below.refl _ w3).alloc (Nat.le_refl _) (.cells (i64s [m.boot, m.seq, m.low, 2]).toArray 3)))
  refine (r6_nums (some ⟨w3.heap.size, 0, none⟩) 4 [m.boot, m.seq, m.low, 2] _ (Gw.ints_lit w3 [m.boot, m.seq, m.low, 2]) (by simp) (by omega) (by intro x hx; simp only [List.mem_cons, List.not_mem_nil, or_false] at hx; rcases hx with rfl | rfl | rfl | rfl <;> first | exact HWD.out.kind | exact HWD.out.frm | exact HWD.out.dst | exact HWD.out.boot | exact HWD.out.seq | exact HWD.out.low | exact HWD.out.verb | exact HWD.out.mode | exact HWD.out.term | exact HWD.out.id | exact HWD.out.code | exact HWD.out.origin | exact HWD.out.number | (unfold In64; omega)) (by simp)).mono ?_
  rintro e x0 ⟨q0, rfl, hq, hb⟩
  obtain ⟨B0, d0, hv, _, _⟩ := By.own_shape hq
  subst hv
  have HY0 := Lib.hid (show By.BytesAt x0 B0 (WM.nums [m.boot, m.seq, m.low, 2]) from By.BytesAt.own hq)
  have HQ0 := Lib.hid (HA0.out.on hb)
  have HN0 := Lib.hid (show (WM.nums [m.boot, m.seq, m.low, 2]).length ≤ 36 from rnums9 _ (by intro x hx; exact (show In64 x from (show ∀ x ∈ ([m.boot, m.seq, m.low, 2] : List Int), In64 x from (by intro x hx; simp only [List.mem_cons, List.not_mem_nil, or_false] at hx; rcases hx with rfl | rfl | rfl | rfl <;> first | exact HWD.out.kind | exact HWD.out.frm | exact HWD.out.dst | exact HWD.out.boot | exact HWD.out.seq | exact HWD.out.low | exact HWD.out.verb | exact HWD.out.mode | exact HWD.out.term | exact HWD.out.id | exact HWD.out.code | exact HWD.out.origin | exact HWD.out.number | (unfold In64; omega))) x hx).2))
  clear hq hb HA0 HT3 c0 c1 c2' c3 c4 c5 c6 c7 c8 c9 c10 c11 c12 c13 c14 c15
  go_upto_region 6 with (at_builtin; refine Gw.app_more rfl (.tmp 21) (.tmp 31) rfl w.heap.size v2 (L0) (WM.nums [m.boot, m.seq, m.low, 2]) B0 _ d0 HQ0.out.grow.row HY0.out rfl (by have := HN.out; have := HN0.out; omega) HQ0.out.grow.below.size rfl rfl ?_; intro u0 y0 k1 k2 k3; have HM0 := Lib.hid (HQ0.out.app k1 k2 k3); have HE0 := Lib.hid (show (L0 ++ WM.nums [m.boot, m.seq, m.low, 2]).length ≤ 63 by rw [List.length_append]; have := HN.out; have := HN0.out; omega); clear k1 k2 k3)
  generalize hM : L0 ++ WM.nums [m.boot, m.seq, m.low, 2] = M0 at HM0 HE0
  have HL1 := Lib.hid hM
  clear hM
  obtain ⟨c0, c1, c2', c3, c4, c5, c6, c7, c8, c9, c10, c11, c12, c13, c14, c15⟩ := msg_cells HM0.out.kb
  rw [HKK.out] at c0
  rw [HVV.out] at c6
  rw [HFR.out] at c11
  go_wp2_with fail
  have HA1 := Lib.hid (HM0.out.on ((Below.refl _ y0).alloc (Nat.le_refl _) (.cells (i64s [m.id, m.term, 0]).toArray 3)))
  refine (r6_nums (some ⟨y0.heap.size, 0, none⟩) 3 [m.id, m.term, 0] _ (Gw.ints_lit y0 [m.id, m.term, 0]) (by simp) (by omega) (by intro x hx; simp only [List.mem_cons, List.not_mem_nil, or_false] at hx; rcases hx with rfl | rfl | rfl <;> first | exact HWD.out.kind | exact HWD.out.frm | exact HWD.out.dst | exact HWD.out.boot | exact HWD.out.seq | exact HWD.out.low | exact HWD.out.verb | exact HWD.out.mode | exact HWD.out.term | exact HWD.out.id | exact HWD.out.code | exact HWD.out.origin | exact HWD.out.number | (unfold In64; omega)) (by simp)).mono ?_
  rintro e x1 ⟨q1, rfl, hq, hb⟩
  obtain ⟨B1, d1, hv, _, _⟩ := By.own_shape hq
  subst hv
  have HY1 := Lib.hid (show By.BytesAt x1 B1 (WM.nums [m.id, m.term, 0]) from By.BytesAt.own hq)
  have HQ1 := Lib.hid (HA1.out.on hb)
  have HN1 := Lib.hid (show (WM.nums [m.id, m.term, 0]).length ≤ 27 from rnums9 _ (by intro x hx; exact (show In64 x from (show ∀ x ∈ ([m.id, m.term, 0] : List Int), In64 x from (by intro x hx; simp only [List.mem_cons, List.not_mem_nil, or_false] at hx; rcases hx with rfl | rfl | rfl <;> first | exact HWD.out.kind | exact HWD.out.frm | exact HWD.out.dst | exact HWD.out.boot | exact HWD.out.seq | exact HWD.out.low | exact HWD.out.verb | exact HWD.out.mode | exact HWD.out.term | exact HWD.out.id | exact HWD.out.code | exact HWD.out.origin | exact HWD.out.number | (unfold In64; omega))) x hx).2))
  clear hq hb HA1 HM0 c0 c1 c2' c3 c4 c5 c6 c7 c8 c9 c10 c11 c12 c13 c14 c15
  go_wp2_with (at_builtin; refine Gw.app_more rfl (.tmp 52) (.tmp 59) rfl w.heap.size u0 (M0) (WM.nums [m.id, m.term, 0]) B1 _ d1 HQ1.out.grow.row HY1.out rfl (by have := HE0.out; have := HN1.out; omega) HQ1.out.grow.below.size rfl rfl ?_; intro u1 y1 k1 k2 k3; have HM1 := Lib.hid (HQ1.out.app k1 k2 k3); have HE1 := Lib.hid (show (M0 ++ WM.nums [m.id, m.term, 0]).length ≤ 90 by rw [List.length_append]; have := HE0.out; have := HN1.out; omega); clear k1 k2 k3)
  generalize hM : M0 ++ WM.nums [m.id, m.term, 0] = M1 at HM1 HE1
  have HL2 := Lib.hid hM
  clear hM
  have HBD := Lib.hid (show WM.body m = M1 by rw [← HL2.out, ← HL1.out, ← HL0.out]; unfold WM.body WM.partB WM.askB WM.replyB WM.recallB WM.doneB WM.opB WM.p WM.flag; simp [HKK.out, HVV.out, HFR.out, WM.nums])
  skip
  go_ret
  rw [HBD.out]
  exact ⟨_, rfl, HM1.out.grow.row, HM1.out.grow.below⟩
set_option maxHeartbeats 8000000 in
theorem bd6_1c (A : Option Addr) (c : Nat) (m : Msg) (w : World) (hf : Fit6 w A c m) (hk : m.kind = 1) (hv : m.verb = 3) :
    Calls Try.prog 22 #[.agg (cellsM m (.slice A m.stamp.length c))] w (By.Fresh w (WM.body m)) := by
  have HF := Lib.hid hf
  have HWD := Lib.hid hf.wide
  have HKK := Lib.hid hk
  have HVV := Lib.hid hv
  clear hf hk hv
  have HX := Lib.hid ((Below.refl _ w).alloc (Nat.le_refl _) (.cells (cellsM m (.slice A m.stamp.length c)) 28))
  have HK := Lib.hid (show MsgBlk (w.alloc (.cells (cellsM m (.slice A m.stamp.length c)) 28)) w.heap.size m (.slice A m.stamp.length c) from Whole.new w 28 (cellsM m (.slice A m.stamp.length c)))
  go_enter Try.func22, Try.ntmps22
  go_upto_region 1 with (fail)
  generalize w.alloc (.cells (cellsM m (.slice A m.stamp.length c)) 28) = w1 at HX HK ⊢
  obtain ⟨c0, c1, c2', c3, c4, c5, c6, c7, c8, c9, c10, c11, c12, c13, c14, c15⟩ := msg_cells HK.out
  rw [HKK.out] at c0
  rw [HVV.out] at c6
  go_wp2_with fail
  refine (r6_nums (some ⟨w1.heap.size, 0, none⟩) 3 [1, m.frm, m.dst] _ (Gw.ints_lit w1 [1, m.frm, m.dst]) (by simp) (by omega) (by intro x hx; simp only [List.mem_cons, List.not_mem_nil, or_false] at hx; rcases hx with rfl | rfl | rfl <;> first | exact HWD.out.kind | exact HWD.out.frm | exact HWD.out.dst | exact HWD.out.boot | exact HWD.out.seq | exact HWD.out.low | exact HWD.out.verb | exact HWD.out.mode | exact HWD.out.term | exact HWD.out.id | exact HWD.out.code | exact HWD.out.origin | exact HWD.out.number | (unfold In64; omega)) (by simp)).mono ?_
  rintro e w2 ⟨v2, rfl, h2, hb2⟩
  have HB2 := Lib.hid (((Below.refl _ w1).alloc (Nat.le_refl _) (.cells (i64s [1, m.frm, m.dst]).toArray 3)).trans (hb2.mono (by simp)))
  have HT := Lib.hid (BdSt.no (w0 := w) (L := WM.nums [1, m.frm, m.dst]) ((Mod.of_below HB2.out []).whole HK.out (by simp)) (⟨gw_base h2 (by have := HX.out.size; simp; omega), below_on HX.out HB2.out⟩))
  have HN := Lib.hid (show (WM.nums [1, m.frm, m.dst]).length ≤ 27 from rnums9 _ (by intro x hx; exact (show In64 x from (show ∀ x ∈ ([1, m.frm, m.dst] : List Int), In64 x from (by intro x hx; simp only [List.mem_cons, List.not_mem_nil, or_false] at hx; rcases hx with rfl | rfl | rfl <;> first | exact HWD.out.kind | exact HWD.out.frm | exact HWD.out.dst | exact HWD.out.boot | exact HWD.out.seq | exact HWD.out.low | exact HWD.out.verb | exact HWD.out.mode | exact HWD.out.term | exact HWD.out.id | exact HWD.out.code | exact HWD.out.origin | exact HWD.out.number | (unfold In64; omega))) x hx).2))
  clear h2 hb2 HB2 HX HK c0 c1 c2' c3 c4 c5 c6 c7 c8 c9 c10 c11 c12 c13 c14 c15
  obtain ⟨c0, c1, c2', c3, c4, c5, c6, c7, c8, c9, c10, c11, c12, c13, c14, c15⟩ := msg_cells HT.out.kb
  rw [HKK.out] at c0
  rw [HVV.out] at c6
  generalize hL : WM.nums [1, m.frm, m.dst] = L0 at HT HN
  have HL0 := Lib.hid hL
  clear hL
  go_wp2_with fail
  refine (Oct.RefText_any m.path _ HWD.out.path).mono ?_
  rintro e w3 ⟨v3, rfl, h3, hb3⟩
  obtain ⟨A4, cq4, hv4, _, _⟩ := By.own_shape h3
  subst hv4
  have HT3 := Lib.hid (HT.out.text (b := 0) hb3 h3)
  have HP4 := Lib.hid (show (OM.encT m.path.data.toList).length ≤ 140737488351232 + 9 from by rw [OM.encT, List.length_append]; have h := OM.enc_nine (n := m.path.data.toList.length) (by have := HWD.out.path; have e : m.path.data.toList.length = m.path.size := rfl; omega); have := HWD.out.path; have e : m.path.data.toList.length = m.path.size := rfl; omega)
  clear h3 hb3 HT c0 c1 c2' c3 c4 c5 c6 c7 c8 c9 c10 c11 c12 c13 c14 c15
  obtain ⟨c0, c1, c2', c3, c4, c5, c6, c7, c8, c9, c10, c11, c12, c13, c14, c15⟩ := msg_cells HT3.out.kb
  rw [HKK.out] at c0
  rw [HVV.out] at c6
  go_wp2_with fail
  have HA0 := Lib.hid (HT3.out.on ((Below.refl _ w3).alloc (Nat.le_refl _) (.cells (i64s [m.boot, m.seq, m.low, 3]).toArray 3)))
  refine (r6_nums (some ⟨w3.heap.size, 0, none⟩) 4 [m.boot, m.seq, m.low, 3] _ (Gw.ints_lit w3 [m.boot, m.seq, m.low, 3]) (by simp) (by omega) (by intro x hx; simp only [List.mem_cons, List.not_mem_nil, or_false] at hx; rcases hx with rfl | rfl | rfl | rfl <;> first | exact HWD.out.kind | exact HWD.out.frm | exact HWD.out.dst | exact HWD.out.boot | exact HWD.out.seq | exact HWD.out.low | exact HWD.out.verb | exact HWD.out.mode | exact HWD.out.term | exact HWD.out.id | exact HWD.out.code | exact HWD.out.origin | exact HWD.out.number | (unfold In64; omega)) (by simp)).mono ?_
  rintro e x0 ⟨q0, rfl, hq, hb⟩
  obtain ⟨B0, d0, hv, _, _⟩ := By.own_shape hq
  subst hv
  have HY0 := Lib.hid (show By.BytesAt x0 B0 (WM.nums [m.boot, m.seq, m.low, 3]) from By.BytesAt.own hq)
  have HQ0 := Lib.hid (HA0.out.on hb)
  have HN0 := Lib.hid (show (WM.nums [m.boot, m.seq, m.low, 3]).length ≤ 36 from rnums9 _ (by intro x hx; exact (show In64 x from (show ∀ x ∈ ([m.boot, m.seq, m.low, 3] : List Int), In64 x from (by intro x hx; simp only [List.mem_cons, List.not_mem_nil, or_false] at hx; rcases hx with rfl | rfl | rfl | rfl <;> first | exact HWD.out.kind | exact HWD.out.frm | exact HWD.out.dst | exact HWD.out.boot | exact HWD.out.seq | exact HWD.out.low | exact HWD.out.verb | exact HWD.out.mode | exact HWD.out.term | exact HWD.out.id | exact HWD.out.code | exact HWD.out.origin | exact HWD.out.number | (unfold In64; omega))) x hx).2))
  clear hq hb HA0 HT3 c0 c1 c2' c3 c4 c5 c6 c7 c8 c9 c10 c11 c12 c13 c14 c15
  go_upto_region 6 with (at_builtin; refine Gw.app_more rfl (.tmp 21) (.tmp 31) rfl w.heap.size v2 (L0) (WM.nums [m.boot, m.seq, m.low, 3]) B0 _ d0 HQ0.out.grow.row HY0.out rfl (by have := HN.out; have := HN0.out; omega) HQ0.out.grow.below.size rfl rfl ?_; intro u0 y0 k1 k2 k3; have HM0 := Lib.hid (HQ0.out.app k1 k2 k3); have HE0 := Lib.hid (show (L0 ++ WM.nums [m.boot, m.seq, m.low, 3]).length ≤ 63 by rw [List.length_append]; have := HN.out; have := HN0.out; omega); clear k1 k2 k3)
  generalize hM : L0 ++ WM.nums [m.boot, m.seq, m.low, 3] = M0 at HM0 HE0
  have HL1 := Lib.hid hM
  clear hM
  obtain ⟨c0, c1, c2', c3, c4, c5, c6, c7, c8, c9, c10, c11, c12, c13, c14, c15⟩ := msg_cells HM0.out.kb
  rw [HKK.out] at c0
  rw [HVV.out] at c6
  go_wp2_with fail
  have HA1 := Lib.hid (HM0.out.on ((Below.refl _ y0).alloc (Nat.le_refl _) (.cells (i64s [m.id]).toArray 3)))
  refine (r6_nums (some ⟨y0.heap.size, 0, none⟩) 1 [m.id] _ (Gw.ints_lit y0 [m.id]) (by simp) (by omega) (by intro x hx; simp only [List.mem_cons, List.not_mem_nil, or_false] at hx; rcases hx with rfl <;> first | exact HWD.out.kind | exact HWD.out.frm | exact HWD.out.dst | exact HWD.out.boot | exact HWD.out.seq | exact HWD.out.low | exact HWD.out.verb | exact HWD.out.mode | exact HWD.out.term | exact HWD.out.id | exact HWD.out.code | exact HWD.out.origin | exact HWD.out.number | (unfold In64; omega)) (by simp)).mono ?_
  rintro e x1 ⟨q1, rfl, hq, hb⟩
  obtain ⟨B1, d1, hv, _, _⟩ := By.own_shape hq
  subst hv
  have HY1 := Lib.hid (show By.BytesAt x1 B1 (WM.nums [m.id]) from By.BytesAt.own hq)
  have HQ1 := Lib.hid (HA1.out.on hb)
  have HN1 := Lib.hid (show (WM.nums [m.id]).length ≤ 9 from rnums9 _ (by intro x hx; exact (show In64 x from (show ∀ x ∈ ([m.id] : List Int), In64 x from (by intro x hx; simp only [List.mem_cons, List.not_mem_nil, or_false] at hx; rcases hx with rfl <;> first | exact HWD.out.kind | exact HWD.out.frm | exact HWD.out.dst | exact HWD.out.boot | exact HWD.out.seq | exact HWD.out.low | exact HWD.out.verb | exact HWD.out.mode | exact HWD.out.term | exact HWD.out.id | exact HWD.out.code | exact HWD.out.origin | exact HWD.out.number | (unfold In64; omega))) x hx).2))
  clear hq hb HA1 HM0 c0 c1 c2' c3 c4 c5 c6 c7 c8 c9 c10 c11 c12 c13 c14 c15
  go_wp2_with (at_builtin; refine Gw.app_more rfl (.tmp 63) (.tmp 67) rfl w.heap.size u0 (M0) (WM.nums [m.id]) B1 _ d1 HQ1.out.grow.row HY1.out rfl (by have := HE0.out; have := HN1.out; omega) HQ1.out.grow.below.size rfl rfl ?_; intro u1 y1 k1 k2 k3; have HM1 := Lib.hid (HQ1.out.app k1 k2 k3); have HE1 := Lib.hid (show (M0 ++ WM.nums [m.id]).length ≤ 72 by rw [List.length_append]; have := HE0.out; have := HN1.out; omega); clear k1 k2 k3)
  generalize hM : M0 ++ WM.nums [m.id] = M1 at HM1 HE1
  have HL2 := Lib.hid hM
  clear hM
  have HBD := Lib.hid (show WM.body m = M1 by rw [← HL2.out, ← HL1.out, ← HL0.out]; unfold WM.body WM.partB WM.askB WM.replyB WM.recallB WM.doneB WM.opB WM.p WM.flag; simp [HKK.out, HVV.out, WM.nums])
  skip
  go_ret
  rw [HBD.out]
  exact ⟨_, rfl, HM1.out.grow.row, HM1.out.grow.below⟩
set_option maxHeartbeats 8000000 in
theorem bd6_2a (A : Option Addr) (c : Nat) (m : Msg) (w : World) (hf : Fit6 w A c m) (hk : m.kind = 2) (hv : m.code = 0) (hst : m.stamp.length ≤ 4) :
    Calls Try.prog 22 #[.agg (cellsM m (.slice A m.stamp.length c))] w (By.Fresh w (WM.body m)) := by
  have HF := Lib.hid hf
  have HWD := Lib.hid hf.wide
  have HKK := Lib.hid hk
  have HVV := Lib.hid hv
  clear hf hk hv
  have HX := Lib.hid ((Below.refl _ w).alloc (Nat.le_refl _) (.cells (cellsM m (.slice A m.stamp.length c)) 28))
  have HK := Lib.hid (show MsgBlk (w.alloc (.cells (cellsM m (.slice A m.stamp.length c)) 28)) w.heap.size m (.slice A m.stamp.length c) from Whole.new w 28 (cellsM m (.slice A m.stamp.length c)))
  go_enter Try.func22, Try.ntmps22
  go_upto_region 1 with (fail)
  generalize w.alloc (.cells (cellsM m (.slice A m.stamp.length c)) 28) = w1 at HX HK ⊢
  obtain ⟨c0, c1, c2', c3, c4, c5, c6, c7, c8, c9, c10, c11, c12, c13, c14, c15⟩ := msg_cells HK.out
  rw [HKK.out] at c0
  rw [HVV.out] at c12
  go_wp2_with fail
  refine (r6_nums (some ⟨w1.heap.size, 0, none⟩) 3 [2, m.frm, m.dst] _ (Gw.ints_lit w1 [2, m.frm, m.dst]) (by simp) (by omega) (by intro x hx; simp only [List.mem_cons, List.not_mem_nil, or_false] at hx; rcases hx with rfl | rfl | rfl <;> first | exact HWD.out.kind | exact HWD.out.frm | exact HWD.out.dst | exact HWD.out.boot | exact HWD.out.seq | exact HWD.out.low | exact HWD.out.verb | exact HWD.out.mode | exact HWD.out.term | exact HWD.out.id | exact HWD.out.code | exact HWD.out.origin | exact HWD.out.number | (unfold In64; omega)) (by simp)).mono ?_
  rintro e w2 ⟨v2, rfl, h2, hb2⟩
  have HB2 := Lib.hid (((Below.refl _ w1).alloc (Nat.le_refl _) (.cells (i64s [2, m.frm, m.dst]).toArray 3)).trans (hb2.mono (by simp)))
  have HT := Lib.hid (BdSt.no (w0 := w) (L := WM.nums [2, m.frm, m.dst]) ((Mod.of_below HB2.out []).whole HK.out (by simp)) (⟨gw_base h2 (by have := HX.out.size; simp; omega), below_on HX.out HB2.out⟩))
  have HN := Lib.hid (show (WM.nums [2, m.frm, m.dst]).length ≤ 27 from rnums9 _ (by intro x hx; exact (show In64 x from (show ∀ x ∈ ([2, m.frm, m.dst] : List Int), In64 x from (by intro x hx; simp only [List.mem_cons, List.not_mem_nil, or_false] at hx; rcases hx with rfl | rfl | rfl <;> first | exact HWD.out.kind | exact HWD.out.frm | exact HWD.out.dst | exact HWD.out.boot | exact HWD.out.seq | exact HWD.out.low | exact HWD.out.verb | exact HWD.out.mode | exact HWD.out.term | exact HWD.out.id | exact HWD.out.code | exact HWD.out.origin | exact HWD.out.number | (unfold In64; omega))) x hx).2))
  clear h2 hb2 HB2 HX HK c0 c1 c2' c3 c4 c5 c6 c7 c8 c9 c10 c11 c12 c13 c14 c15
  obtain ⟨c0, c1, c2', c3, c4, c5, c6, c7, c8, c9, c10, c11, c12, c13, c14, c15⟩ := msg_cells HT.out.kb
  rw [HKK.out] at c0
  rw [HVV.out] at c12
  generalize hL : WM.nums [2, m.frm, m.dst] = L0 at HT HN
  have HL0 := Lib.hid hL
  clear hL
  go_wp2_with fail
  refine (Oct.RefText_any m.path _ HWD.out.path).mono ?_
  rintro e w3 ⟨v3, rfl, h3, hb3⟩
  obtain ⟨A4, cq4, hv4, _, _⟩ := By.own_shape h3
  subst hv4
  have HT3 := Lib.hid (HT.out.text (b := 0) hb3 h3)
  have HP4 := Lib.hid (show (OM.encT m.path.data.toList).length ≤ 140737488351232 + 9 from by rw [OM.encT, List.length_append]; have h := OM.enc_nine (n := m.path.data.toList.length) (by have := HWD.out.path; have e : m.path.data.toList.length = m.path.size := rfl; omega); have := HWD.out.path; have e : m.path.data.toList.length = m.path.size := rfl; omega)
  clear h3 hb3 HT c0 c1 c2' c3 c4 c5 c6 c7 c8 c9 c10 c11 c12 c13 c14 c15
  obtain ⟨c0, c1, c2', c3, c4, c5, c6, c7, c8, c9, c10, c11, c12, c13, c14, c15⟩ := msg_cells HT3.out.kb
  rw [HKK.out] at c0
  rw [HVV.out] at c12
  go_wp2_with fail
  have HA0 := Lib.hid (HT3.out.on ((Below.refl _ w3).alloc (Nat.le_refl _) (.cells (i64s [m.boot, m.seq, 0]).toArray 3)))
  refine (r6_nums (some ⟨w3.heap.size, 0, none⟩) 3 [m.boot, m.seq, 0] _ (Gw.ints_lit w3 [m.boot, m.seq, 0]) (by simp) (by omega) (by intro x hx; simp only [List.mem_cons, List.not_mem_nil, or_false] at hx; rcases hx with rfl | rfl | rfl <;> first | exact HWD.out.kind | exact HWD.out.frm | exact HWD.out.dst | exact HWD.out.boot | exact HWD.out.seq | exact HWD.out.low | exact HWD.out.verb | exact HWD.out.mode | exact HWD.out.term | exact HWD.out.id | exact HWD.out.code | exact HWD.out.origin | exact HWD.out.number | (unfold In64; omega)) (by simp)).mono ?_
  rintro e x0 ⟨q0, rfl, hq, hb⟩
  obtain ⟨B0, d0, hv, _, _⟩ := By.own_shape hq
  subst hv
  have HY0 := Lib.hid (show By.BytesAt x0 B0 (WM.nums [m.boot, m.seq, 0]) from By.BytesAt.own hq)
  have HQ0 := Lib.hid (HA0.out.on hb)
  have HN0 := Lib.hid (show (WM.nums [m.boot, m.seq, 0]).length ≤ 27 from rnums9 _ (by intro x hx; exact (show In64 x from (show ∀ x ∈ ([m.boot, m.seq, 0] : List Int), In64 x from (by intro x hx; simp only [List.mem_cons, List.not_mem_nil, or_false] at hx; rcases hx with rfl | rfl | rfl <;> first | exact HWD.out.kind | exact HWD.out.frm | exact HWD.out.dst | exact HWD.out.boot | exact HWD.out.seq | exact HWD.out.low | exact HWD.out.verb | exact HWD.out.mode | exact HWD.out.term | exact HWD.out.id | exact HWD.out.code | exact HWD.out.origin | exact HWD.out.number | (unfold In64; omega))) x hx).2))
  clear hq hb HA0 HT3 c0 c1 c2' c3 c4 c5 c6 c7 c8 c9 c10 c11 c12 c13 c14 c15
  go_upto_region 19 with (at_builtin; refine Gw.app_more rfl (.tmp 71) (.tmp 79) rfl w.heap.size v2 (L0) (WM.nums [m.boot, m.seq, 0]) B0 _ d0 HQ0.out.grow.row HY0.out rfl (by have := HN.out; have := HN0.out; omega) HQ0.out.grow.below.size rfl rfl ?_; intro u0 y0 k1 k2 k3; have HM0 := Lib.hid (HQ0.out.app k1 k2 k3); have HE0 := Lib.hid (show (L0 ++ WM.nums [m.boot, m.seq, 0]).length ≤ 54 by rw [List.length_append]; have := HN.out; have := HN0.out; omega); clear k1 k2 k3)
  generalize hM : L0 ++ WM.nums [m.boot, m.seq, 0] = M0 at HM0 HE0
  have HL1 := Lib.hid hM
  clear hM
  obtain ⟨c0, c1, c2', c3, c4, c5, c6, c7, c8, c9, c10, c11, c12, c13, c14, c15⟩ := msg_cells HM0.out.kb
  rw [HKK.out] at c0
  rw [HVV.out] at c12
  go_wp2_with fail
  have HA1 := Lib.hid (HM0.out.on ((Below.refl _ y0).alloc (Nat.le_refl _) (.cells (i64s [m.id, m.term]).toArray 3)))
  refine (r6_nums (some ⟨y0.heap.size, 0, none⟩) 2 [m.id, m.term] _ (Gw.ints_lit y0 [m.id, m.term]) (by simp) (by omega) (by intro x hx; simp only [List.mem_cons, List.not_mem_nil, or_false] at hx; rcases hx with rfl | rfl <;> first | exact HWD.out.kind | exact HWD.out.frm | exact HWD.out.dst | exact HWD.out.boot | exact HWD.out.seq | exact HWD.out.low | exact HWD.out.verb | exact HWD.out.mode | exact HWD.out.term | exact HWD.out.id | exact HWD.out.code | exact HWD.out.origin | exact HWD.out.number | (unfold In64; omega)) (by simp)).mono ?_
  rintro e x1 ⟨q1, rfl, hq, hb⟩
  obtain ⟨B1, d1, hv, _, _⟩ := By.own_shape hq
  subst hv
  have HY1 := Lib.hid (show By.BytesAt x1 B1 (WM.nums [m.id, m.term]) from By.BytesAt.own hq)
  have HQ1 := Lib.hid (HA1.out.on hb)
  have HN1 := Lib.hid (show (WM.nums [m.id, m.term]).length ≤ 18 from rnums9 _ (by intro x hx; exact (show In64 x from (show ∀ x ∈ ([m.id, m.term] : List Int), In64 x from (by intro x hx; simp only [List.mem_cons, List.not_mem_nil, or_false] at hx; rcases hx with rfl | rfl <;> first | exact HWD.out.kind | exact HWD.out.frm | exact HWD.out.dst | exact HWD.out.boot | exact HWD.out.seq | exact HWD.out.low | exact HWD.out.verb | exact HWD.out.mode | exact HWD.out.term | exact HWD.out.id | exact HWD.out.code | exact HWD.out.origin | exact HWD.out.number | (unfold In64; omega))) x hx).2))
  clear hq hb HA1 HM0 c0 c1 c2' c3 c4 c5 c6 c7 c8 c9 c10 c11 c12 c13 c14 c15
  go_upto_region 21 with (at_builtin; refine Gw.app_more rfl (.tmp 84) (.tmp 90) rfl w.heap.size u0 (M0) (WM.nums [m.id, m.term]) B1 _ d1 HQ1.out.grow.row HY1.out rfl (by have := HE0.out; have := HN1.out; omega) HQ1.out.grow.below.size rfl rfl ?_; intro u1 y1 k1 k2 k3; have HM1 := Lib.hid (HQ1.out.app k1 k2 k3); have HE1 := Lib.hid (show (M0 ++ WM.nums [m.id, m.term]).length ≤ 72 by rw [List.length_append]; have := HE0.out; have := HN1.out; omega); clear k1 k2 k3)
  generalize hM : M0 ++ WM.nums [m.id, m.term] = M1 at HM1 HE1
  have HL2 := Lib.hid hM
  clear hM
  obtain ⟨c0, c1, c2', c3, c4, c5, c6, c7, c8, c9, c10, c11, c12, c13, c14, c15⟩ := msg_cells HM1.out.kb
  rw [HKK.out] at c0
  rw [HVV.out] at c12
  go_wp2_with fail
  refine (r6_counters A c m.stamp _ ((HF.out.ints).below (HM1.out.grow.below)) HF.out.le HF.out.cap HWD.out.stamp hst).mono ?_
  rintro e x2 ⟨q2, rfl, hq, hb⟩
  obtain ⟨B2, d2, hv, _, _⟩ := By.own_shape hq
  subst hv
  have HY2 := Lib.hid (show By.BytesAt x2 B2 (WM.stampB m.stamp) from By.BytesAt.own hq)
  have HQ2 := Lib.hid (HM1.out.on hb)
  have HN2 := Lib.hid (show (WM.stampB m.stamp).length ≤ 45 by unfold WM.stampB; rw [List.length_append]; have := OM.enc_nine (n := m.stamp.length) (by omega); have := rnums9 m.stamp (fun x hx => (HWD.out.stamp x hx).2); omega)
  clear hq hb HM1 c0 c1 c2' c3 c4 c5 c6 c7 c8 c9 c10 c11 c12 c13 c14 c15
  go_wp2_with (at_builtin; refine Gw.app_more rfl (.tmp 92) (.tmp 95) rfl w.heap.size u1 (M1) (WM.stampB m.stamp) B2 _ d2 HQ2.out.grow.row HY2.out rfl (by have := HE1.out; have := HN2.out; omega) HQ2.out.grow.below.size rfl rfl ?_; intro u2 y2 k1 k2 k3; have HM2 := Lib.hid (HQ2.out.app k1 k2 k3); have HE2 := Lib.hid (show (M1 ++ WM.stampB m.stamp).length ≤ 117 by rw [List.length_append]; have := HE1.out; have := HN2.out; omega); clear k1 k2 k3)
  generalize hM : M1 ++ WM.stampB m.stamp = M2 at HM2 HE2
  have HL3 := Lib.hid hM
  clear hM
  have HBD := Lib.hid (show WM.body m = M2 by rw [← HL3.out, ← HL2.out, ← HL1.out, ← HL0.out]; unfold WM.body WM.partB WM.askB WM.replyB WM.recallB WM.doneB WM.opB WM.p WM.flag; simp [HKK.out, HVV.out, WM.nums])
  skip
  go_ret
  rw [HBD.out]
  exact ⟨_, rfl, HM2.out.grow.row, HM2.out.grow.below⟩
set_option maxHeartbeats 8000000 in
theorem bd6_2b (A : Option Addr) (c : Nat) (m : Msg) (w : World) (hf : Fit6 w A c m) (hk : m.kind = 2) (hv : m.code ≠ 0) :
    Calls Try.prog 22 #[.agg (cellsM m (.slice A m.stamp.length c))] w (By.Fresh w (WM.body m)) := by
  have HF := Lib.hid hf
  have HWD := Lib.hid hf.wide
  have HKK := Lib.hid hk
  have HVV := Lib.hid hv
  clear hf hk hv
  have HX := Lib.hid ((Below.refl _ w).alloc (Nat.le_refl _) (.cells (cellsM m (.slice A m.stamp.length c)) 28))
  have HK := Lib.hid (show MsgBlk (w.alloc (.cells (cellsM m (.slice A m.stamp.length c)) 28)) w.heap.size m (.slice A m.stamp.length c) from Whole.new w 28 (cellsM m (.slice A m.stamp.length c)))
  go_enter Try.func22, Try.ntmps22
  go_upto_region 1 with (fail)
  generalize w.alloc (.cells (cellsM m (.slice A m.stamp.length c)) 28) = w1 at HX HK ⊢
  obtain ⟨c0, c1, c2', c3, c4, c5, c6, c7, c8, c9, c10, c11, c12, c13, c14, c15⟩ := msg_cells HK.out
  rw [HKK.out] at c0
  have v1 : (m.code == 0) = false := by simpa using HVV.out
  go_wp2_with fail
  refine (r6_nums (some ⟨w1.heap.size, 0, none⟩) 3 [2, m.frm, m.dst] _ (Gw.ints_lit w1 [2, m.frm, m.dst]) (by simp) (by omega) (by intro x hx; simp only [List.mem_cons, List.not_mem_nil, or_false] at hx; rcases hx with rfl | rfl | rfl <;> first | exact HWD.out.kind | exact HWD.out.frm | exact HWD.out.dst | exact HWD.out.boot | exact HWD.out.seq | exact HWD.out.low | exact HWD.out.verb | exact HWD.out.mode | exact HWD.out.term | exact HWD.out.id | exact HWD.out.code | exact HWD.out.origin | exact HWD.out.number | (unfold In64; omega)) (by simp)).mono ?_
  rintro e w2 ⟨v2, rfl, h2, hb2⟩
  have HB2 := Lib.hid (((Below.refl _ w1).alloc (Nat.le_refl _) (.cells (i64s [2, m.frm, m.dst]).toArray 3)).trans (hb2.mono (by simp)))
  have HT := Lib.hid (BdSt.no (w0 := w) (L := WM.nums [2, m.frm, m.dst]) ((Mod.of_below HB2.out []).whole HK.out (by simp)) (⟨gw_base h2 (by have := HX.out.size; simp; omega), below_on HX.out HB2.out⟩))
  have HN := Lib.hid (show (WM.nums [2, m.frm, m.dst]).length ≤ 27 from rnums9 _ (by intro x hx; exact (show In64 x from (show ∀ x ∈ ([2, m.frm, m.dst] : List Int), In64 x from (by intro x hx; simp only [List.mem_cons, List.not_mem_nil, or_false] at hx; rcases hx with rfl | rfl | rfl <;> first | exact HWD.out.kind | exact HWD.out.frm | exact HWD.out.dst | exact HWD.out.boot | exact HWD.out.seq | exact HWD.out.low | exact HWD.out.verb | exact HWD.out.mode | exact HWD.out.term | exact HWD.out.id | exact HWD.out.code | exact HWD.out.origin | exact HWD.out.number | (unfold In64; omega))) x hx).2))
  clear h2 hb2 HB2 HX HK c0 c1 c2' c3 c4 c5 c6 c7 c8 c9 c10 c11 c12 c13 c14 c15
  obtain ⟨c0, c1, c2', c3, c4, c5, c6, c7, c8, c9, c10, c11, c12, c13, c14, c15⟩ := msg_cells HT.out.kb
  rw [HKK.out] at c0
  have v1 : (m.code == 0) = false := by simpa using HVV.out
  generalize hL : WM.nums [2, m.frm, m.dst] = L0 at HT HN
  have HL0 := Lib.hid hL
  clear hL
  go_wp2_with fail
  refine (Oct.RefText_any m.path _ HWD.out.path).mono ?_
  rintro e w3 ⟨v3, rfl, h3, hb3⟩
  obtain ⟨A4, cq4, hv4, _, _⟩ := By.own_shape h3
  subst hv4
  have HT3 := Lib.hid (HT.out.text (b := 0) hb3 h3)
  have HP4 := Lib.hid (show (OM.encT m.path.data.toList).length ≤ 140737488351232 + 9 from by rw [OM.encT, List.length_append]; have h := OM.enc_nine (n := m.path.data.toList.length) (by have := HWD.out.path; have e : m.path.data.toList.length = m.path.size := rfl; omega); have := HWD.out.path; have e : m.path.data.toList.length = m.path.size := rfl; omega)
  clear h3 hb3 HT c0 c1 c2' c3 c4 c5 c6 c7 c8 c9 c10 c11 c12 c13 c14 c15
  obtain ⟨c0, c1, c2', c3, c4, c5, c6, c7, c8, c9, c10, c11, c12, c13, c14, c15⟩ := msg_cells HT3.out.kb
  rw [HKK.out] at c0
  have v1 : (m.code == 0) = false := by simpa using HVV.out
  go_wp2_with fail
  have HA0 := Lib.hid (HT3.out.on ((Below.refl _ w3).alloc (Nat.le_refl _) (.cells (i64s [m.boot, m.seq, m.code]).toArray 3)))
  refine (r6_nums (some ⟨w3.heap.size, 0, none⟩) 3 [m.boot, m.seq, m.code] _ (Gw.ints_lit w3 [m.boot, m.seq, m.code]) (by simp) (by omega) (by intro x hx; simp only [List.mem_cons, List.not_mem_nil, or_false] at hx; rcases hx with rfl | rfl | rfl <;> first | exact HWD.out.kind | exact HWD.out.frm | exact HWD.out.dst | exact HWD.out.boot | exact HWD.out.seq | exact HWD.out.low | exact HWD.out.verb | exact HWD.out.mode | exact HWD.out.term | exact HWD.out.id | exact HWD.out.code | exact HWD.out.origin | exact HWD.out.number | (unfold In64; omega)) (by simp)).mono ?_
  rintro e x0 ⟨q0, rfl, hq, hb⟩
  obtain ⟨B0, d0, hv, _, _⟩ := By.own_shape hq
  subst hv
  have HY0 := Lib.hid (show By.BytesAt x0 B0 (WM.nums [m.boot, m.seq, m.code]) from By.BytesAt.own hq)
  have HQ0 := Lib.hid (HA0.out.on hb)
  have HN0 := Lib.hid (show (WM.nums [m.boot, m.seq, m.code]).length ≤ 27 from rnums9 _ (by intro x hx; exact (show In64 x from (show ∀ x ∈ ([m.boot, m.seq, m.code] : List Int), In64 x from (by intro x hx; simp only [List.mem_cons, List.not_mem_nil, or_false] at hx; rcases hx with rfl | rfl | rfl <;> first | exact HWD.out.kind | exact HWD.out.frm | exact HWD.out.dst | exact HWD.out.boot | exact HWD.out.seq | exact HWD.out.low | exact HWD.out.verb | exact HWD.out.mode | exact HWD.out.term | exact HWD.out.id | exact HWD.out.code | exact HWD.out.origin | exact HWD.out.number | (unfold In64; omega))) x hx).2))
  clear hq hb HA0 HT3 c0 c1 c2' c3 c4 c5 c6 c7 c8 c9 c10 c11 c12 c13 c14 c15
  go_upto_region 19 with (at_builtin; refine Gw.app_more rfl (.tmp 71) (.tmp 79) rfl w.heap.size v2 (L0) (WM.nums [m.boot, m.seq, m.code]) B0 _ d0 HQ0.out.grow.row HY0.out rfl (by have := HN.out; have := HN0.out; omega) HQ0.out.grow.below.size rfl rfl ?_; intro u0 y0 k1 k2 k3; have HM0 := Lib.hid (HQ0.out.app k1 k2 k3); have HE0 := Lib.hid (show (L0 ++ WM.nums [m.boot, m.seq, m.code]).length ≤ 54 by rw [List.length_append]; have := HN.out; have := HN0.out; omega); clear k1 k2 k3)
  generalize hM : L0 ++ WM.nums [m.boot, m.seq, m.code] = M0 at HM0 HE0
  have HL1 := Lib.hid hM
  clear hM
  obtain ⟨c0, c1, c2', c3, c4, c5, c6, c7, c8, c9, c10, c11, c12, c13, c14, c15⟩ := msg_cells HM0.out.kb
  rw [HKK.out] at c0
  have v1 : (m.code == 0) = false := by simpa using HVV.out
  have HBD := Lib.hid (show WM.body m = M0 by rw [← HL1.out, ← HL0.out]; unfold WM.body WM.partB WM.askB WM.replyB WM.recallB WM.doneB WM.opB WM.p WM.flag; simp [HKK.out, HVV.out, WM.nums])
  skip
  go_wp2_with fail
  go_ret
  rw [HBD.out]
  exact ⟨_, rfl, HM0.out.grow.row, HM0.out.grow.below⟩
set_option maxHeartbeats 8000000 in
theorem bd6_3 (A : Option Addr) (c : Nat) (m : Msg) (w : World) (hf : Fit6 w A c m) (hk : m.kind = 3) :
    Calls Try.prog 22 #[.agg (cellsM m (.slice A m.stamp.length c))] w (By.Fresh w (WM.body m)) := by
  have HF := Lib.hid hf
  have HWD := Lib.hid hf.wide
  have HKK := Lib.hid hk
  clear hf hk
  have HX := Lib.hid ((Below.refl _ w).alloc (Nat.le_refl _) (.cells (cellsM m (.slice A m.stamp.length c)) 28))
  have HK := Lib.hid (show MsgBlk (w.alloc (.cells (cellsM m (.slice A m.stamp.length c)) 28)) w.heap.size m (.slice A m.stamp.length c) from Whole.new w 28 (cellsM m (.slice A m.stamp.length c)))
  go_enter Try.func22, Try.ntmps22
  go_upto_region 1 with (fail)
  generalize w.alloc (.cells (cellsM m (.slice A m.stamp.length c)) 28) = w1 at HX HK ⊢
  obtain ⟨c0, c1, c2', c3, c4, c5, c6, c7, c8, c9, c10, c11, c12, c13, c14, c15⟩ := msg_cells HK.out
  rw [HKK.out] at c0
  go_wp2_with fail
  refine (r6_nums (some ⟨w1.heap.size, 0, none⟩) 3 [3, m.frm, m.dst] _ (Gw.ints_lit w1 [3, m.frm, m.dst]) (by simp) (by omega) (by intro x hx; simp only [List.mem_cons, List.not_mem_nil, or_false] at hx; rcases hx with rfl | rfl | rfl <;> first | exact HWD.out.kind | exact HWD.out.frm | exact HWD.out.dst | exact HWD.out.boot | exact HWD.out.seq | exact HWD.out.low | exact HWD.out.verb | exact HWD.out.mode | exact HWD.out.term | exact HWD.out.id | exact HWD.out.code | exact HWD.out.origin | exact HWD.out.number | (unfold In64; omega)) (by simp)).mono ?_
  rintro e w2 ⟨v2, rfl, h2, hb2⟩
  have HB2 := Lib.hid (((Below.refl _ w1).alloc (Nat.le_refl _) (.cells (i64s [3, m.frm, m.dst]).toArray 3)).trans (hb2.mono (by simp)))
  have HT := Lib.hid (BdSt.no (w0 := w) (L := WM.nums [3, m.frm, m.dst]) ((Mod.of_below HB2.out []).whole HK.out (by simp)) (⟨gw_base h2 (by have := HX.out.size; simp; omega), below_on HX.out HB2.out⟩))
  have HN := Lib.hid (show (WM.nums [3, m.frm, m.dst]).length ≤ 27 from rnums9 _ (by intro x hx; exact (show In64 x from (show ∀ x ∈ ([3, m.frm, m.dst] : List Int), In64 x from (by intro x hx; simp only [List.mem_cons, List.not_mem_nil, or_false] at hx; rcases hx with rfl | rfl | rfl <;> first | exact HWD.out.kind | exact HWD.out.frm | exact HWD.out.dst | exact HWD.out.boot | exact HWD.out.seq | exact HWD.out.low | exact HWD.out.verb | exact HWD.out.mode | exact HWD.out.term | exact HWD.out.id | exact HWD.out.code | exact HWD.out.origin | exact HWD.out.number | (unfold In64; omega))) x hx).2))
  clear h2 hb2 HB2 HX HK c0 c1 c2' c3 c4 c5 c6 c7 c8 c9 c10 c11 c12 c13 c14 c15
  obtain ⟨c0, c1, c2', c3, c4, c5, c6, c7, c8, c9, c10, c11, c12, c13, c14, c15⟩ := msg_cells HT.out.kb
  rw [HKK.out] at c0
  generalize hL : WM.nums [3, m.frm, m.dst] = L0 at HT HN
  have HL0 := Lib.hid hL
  clear hL
  go_wp2_with fail
  refine (Oct.RefText_any m.path _ HWD.out.path).mono ?_
  rintro e w3 ⟨v3, rfl, h3, hb3⟩
  obtain ⟨A4, cq4, hv4, _, _⟩ := By.own_shape h3
  subst hv4
  have HT3 := Lib.hid (HT.out.text (b := 0) hb3 h3)
  have HP4 := Lib.hid (show (OM.encT m.path.data.toList).length ≤ 140737488351232 + 9 from by rw [OM.encT, List.length_append]; have h := OM.enc_nine (n := m.path.data.toList.length) (by have := HWD.out.path; have e : m.path.data.toList.length = m.path.size := rfl; omega); have := HWD.out.path; have e : m.path.data.toList.length = m.path.size := rfl; omega)
  clear h3 hb3 HT c0 c1 c2' c3 c4 c5 c6 c7 c8 c9 c10 c11 c12 c13 c14 c15
  obtain ⟨c0, c1, c2', c3, c4, c5, c6, c7, c8, c9, c10, c11, c12, c13, c14, c15⟩ := msg_cells HT3.out.kb
  rw [HKK.out] at c0
  go_wp2_with fail
  have HA0 := Lib.hid (HT3.out.on ((Below.refl _ w3).alloc (Nat.le_refl _) (.cells (i64s [m.id]).toArray 3)))
  refine (r6_nums (some ⟨w3.heap.size, 0, none⟩) 1 [m.id] _ (Gw.ints_lit w3 [m.id]) (by simp) (by omega) (by intro x hx; simp only [List.mem_cons, List.not_mem_nil, or_false] at hx; rcases hx with rfl <;> first | exact HWD.out.kind | exact HWD.out.frm | exact HWD.out.dst | exact HWD.out.boot | exact HWD.out.seq | exact HWD.out.low | exact HWD.out.verb | exact HWD.out.mode | exact HWD.out.term | exact HWD.out.id | exact HWD.out.code | exact HWD.out.origin | exact HWD.out.number | (unfold In64; omega)) (by simp)).mono ?_
  rintro e x0 ⟨q0, rfl, hq, hb⟩
  obtain ⟨B0, d0, hv, _, _⟩ := By.own_shape hq
  subst hv
  have HY0 := Lib.hid (show By.BytesAt x0 B0 (WM.nums [m.id]) from By.BytesAt.own hq)
  have HQ0 := Lib.hid (HA0.out.on hb)
  have HN0 := Lib.hid (show (WM.nums [m.id]).length ≤ 9 from rnums9 _ (by intro x hx; exact (show In64 x from (show ∀ x ∈ ([m.id] : List Int), In64 x from (by intro x hx; simp only [List.mem_cons, List.not_mem_nil, or_false] at hx; rcases hx with rfl <;> first | exact HWD.out.kind | exact HWD.out.frm | exact HWD.out.dst | exact HWD.out.boot | exact HWD.out.seq | exact HWD.out.low | exact HWD.out.verb | exact HWD.out.mode | exact HWD.out.term | exact HWD.out.id | exact HWD.out.code | exact HWD.out.origin | exact HWD.out.number | (unfold In64; omega))) x hx).2))
  clear hq hb HA0 HT3 c0 c1 c2' c3 c4 c5 c6 c7 c8 c9 c10 c11 c12 c13 c14 c15
  go_upto_region 24 with (at_builtin; refine Gw.app_more rfl (.tmp 99) (.tmp 103) rfl w.heap.size v2 (L0) (WM.nums [m.id]) B0 _ d0 HQ0.out.grow.row HY0.out rfl (by have := HN.out; have := HN0.out; omega) HQ0.out.grow.below.size rfl rfl ?_; intro u0 y0 k1 k2 k3; have HM0 := Lib.hid (HQ0.out.app k1 k2 k3); have HE0 := Lib.hid (show (L0 ++ WM.nums [m.id]).length ≤ 36 by rw [List.length_append]; have := HN.out; have := HN0.out; omega); clear k1 k2 k3)
  generalize hM : L0 ++ WM.nums [m.id] = M0 at HM0 HE0
  have HL1 := Lib.hid hM
  clear hM
  obtain ⟨c0, c1, c2', c3, c4, c5, c6, c7, c8, c9, c10, c11, c12, c13, c14, c15⟩ := msg_cells HM0.out.kb
  rw [HKK.out] at c0
  have HQ1 := Lib.hid HM0.out
  have HN1 := Lib.hid HP4.out
  go_upto_region 25 with (at_builtin; refine Gw.app_more rfl (.tmp 105) (.tmp 106) rfl w.heap.size u0 (M0) (OM.encT m.path.data.toList) A4 _ cq4 HQ1.out.grow.row HQ1.out.path rfl (by have := HE0.out; have := HN1.out; omega) HQ1.out.grow.below.size rfl rfl ?_; intro u1 y1 k1 k2 k3; have HM1 := Lib.hid (HQ1.out.app k1 k2 k3); have HE1 := Lib.hid (show (M0 ++ OM.encT m.path.data.toList).length ≤ 140737488351277 by rw [List.length_append]; have := HE0.out; have := HN1.out; omega); clear k1 k2 k3 HM0 c0 c1 c2' c3 c4 c5 c6 c7 c8 c9 c10 c11 c12 c13 c14 c15)
  generalize hM : M0 ++ OM.encT m.path.data.toList = M1 at HM1 HE1
  have HL2 := Lib.hid hM
  clear hM
  obtain ⟨c0, c1, c2', c3, c4, c5, c6, c7, c8, c9, c10, c11, c12, c13, c14, c15⟩ := msg_cells HM1.out.kb
  rw [HKK.out] at c0
  go_wp2_with fail
  have HA2 := Lib.hid (HM1.out.on ((Below.refl _ y1).alloc (Nat.le_refl _) (.cells (i64s [m.origin, m.number]).toArray 3)))
  refine (r6_nums (some ⟨y1.heap.size, 0, none⟩) 2 [m.origin, m.number] _ (Gw.ints_lit y1 [m.origin, m.number]) (by simp) (by omega) (by intro x hx; simp only [List.mem_cons, List.not_mem_nil, or_false] at hx; rcases hx with rfl | rfl <;> first | exact HWD.out.kind | exact HWD.out.frm | exact HWD.out.dst | exact HWD.out.boot | exact HWD.out.seq | exact HWD.out.low | exact HWD.out.verb | exact HWD.out.mode | exact HWD.out.term | exact HWD.out.id | exact HWD.out.code | exact HWD.out.origin | exact HWD.out.number | (unfold In64; omega)) (by simp)).mono ?_
  rintro e x2 ⟨q2, rfl, hq, hb⟩
  obtain ⟨B2, d2, hv, _, _⟩ := By.own_shape hq
  subst hv
  have HY2 := Lib.hid (show By.BytesAt x2 B2 (WM.nums [m.origin, m.number]) from By.BytesAt.own hq)
  have HQ2 := Lib.hid (HA2.out.on hb)
  have HN2 := Lib.hid (show (WM.nums [m.origin, m.number]).length ≤ 18 from rnums9 _ (by intro x hx; exact (show In64 x from (show ∀ x ∈ ([m.origin, m.number] : List Int), In64 x from (by intro x hx; simp only [List.mem_cons, List.not_mem_nil, or_false] at hx; rcases hx with rfl | rfl <;> first | exact HWD.out.kind | exact HWD.out.frm | exact HWD.out.dst | exact HWD.out.boot | exact HWD.out.seq | exact HWD.out.low | exact HWD.out.verb | exact HWD.out.mode | exact HWD.out.term | exact HWD.out.id | exact HWD.out.code | exact HWD.out.origin | exact HWD.out.number | (unfold In64; omega))) x hx).2))
  clear hq hb HA2 HM1 c0 c1 c2' c3 c4 c5 c6 c7 c8 c9 c10 c11 c12 c13 c14 c15
  go_wp2_with (at_builtin; refine Gw.app_more rfl (.tmp 108) (.tmp 114) rfl w.heap.size u1 (M1) (WM.nums [m.origin, m.number]) B2 _ d2 HQ2.out.grow.row HY2.out rfl (by have := HE1.out; have := HN2.out; omega) HQ2.out.grow.below.size rfl rfl ?_; intro u2 y2 k1 k2 k3; have HM2 := Lib.hid (HQ2.out.app k1 k2 k3); have HE2 := Lib.hid (show (M1 ++ WM.nums [m.origin, m.number]).length ≤ 140737488351295 by rw [List.length_append]; have := HE1.out; have := HN2.out; omega); clear k1 k2 k3)
  generalize hM : M1 ++ WM.nums [m.origin, m.number] = M2 at HM2 HE2
  have HL3 := Lib.hid hM
  clear hM
  have HBD := Lib.hid (show WM.body m = M2 by rw [← HL3.out, ← HL2.out, ← HL1.out, ← HL0.out]; unfold WM.body WM.partB WM.askB WM.replyB WM.recallB WM.doneB WM.opB WM.p WM.flag; simp [HKK.out, WM.nums])
  skip
  go_ret
  rw [HBD.out]
  exact ⟨_, rfl, HM2.out.grow.row, HM2.out.grow.below⟩
set_option maxHeartbeats 8000000 in
theorem bd6_4 (A : Option Addr) (c : Nat) (m : Msg) (w : World) (hf : Fit6 w A c m) (hk : m.kind = 4) :
    Calls Try.prog 22 #[.agg (cellsM m (.slice A m.stamp.length c))] w (By.Fresh w (WM.body m)) := by
  have HF := Lib.hid hf
  have HWD := Lib.hid hf.wide
  have HKK := Lib.hid hk
  clear hf hk
  have HX := Lib.hid ((Below.refl _ w).alloc (Nat.le_refl _) (.cells (cellsM m (.slice A m.stamp.length c)) 28))
  have HK := Lib.hid (show MsgBlk (w.alloc (.cells (cellsM m (.slice A m.stamp.length c)) 28)) w.heap.size m (.slice A m.stamp.length c) from Whole.new w 28 (cellsM m (.slice A m.stamp.length c)))
  go_enter Try.func22, Try.ntmps22
  go_upto_region 1 with (fail)
  generalize w.alloc (.cells (cellsM m (.slice A m.stamp.length c)) 28) = w1 at HX HK ⊢
  obtain ⟨c0, c1, c2', c3, c4, c5, c6, c7, c8, c9, c10, c11, c12, c13, c14, c15⟩ := msg_cells HK.out
  rw [HKK.out] at c0
  go_wp2_with fail
  refine (r6_nums (some ⟨w1.heap.size, 0, none⟩) 3 [4, m.frm, m.dst] _ (Gw.ints_lit w1 [4, m.frm, m.dst]) (by simp) (by omega) (by intro x hx; simp only [List.mem_cons, List.not_mem_nil, or_false] at hx; rcases hx with rfl | rfl | rfl <;> first | exact HWD.out.kind | exact HWD.out.frm | exact HWD.out.dst | exact HWD.out.boot | exact HWD.out.seq | exact HWD.out.low | exact HWD.out.verb | exact HWD.out.mode | exact HWD.out.term | exact HWD.out.id | exact HWD.out.code | exact HWD.out.origin | exact HWD.out.number | (unfold In64; omega)) (by simp)).mono ?_
  rintro e w2 ⟨v2, rfl, h2, hb2⟩
  have HB2 := Lib.hid (((Below.refl _ w1).alloc (Nat.le_refl _) (.cells (i64s [4, m.frm, m.dst]).toArray 3)).trans (hb2.mono (by simp)))
  have HT := Lib.hid (BdSt.no (w0 := w) (L := WM.nums [4, m.frm, m.dst]) ((Mod.of_below HB2.out []).whole HK.out (by simp)) (⟨gw_base h2 (by have := HX.out.size; simp; omega), below_on HX.out HB2.out⟩))
  have HN := Lib.hid (show (WM.nums [4, m.frm, m.dst]).length ≤ 27 from rnums9 _ (by intro x hx; exact (show In64 x from (show ∀ x ∈ ([4, m.frm, m.dst] : List Int), In64 x from (by intro x hx; simp only [List.mem_cons, List.not_mem_nil, or_false] at hx; rcases hx with rfl | rfl | rfl <;> first | exact HWD.out.kind | exact HWD.out.frm | exact HWD.out.dst | exact HWD.out.boot | exact HWD.out.seq | exact HWD.out.low | exact HWD.out.verb | exact HWD.out.mode | exact HWD.out.term | exact HWD.out.id | exact HWD.out.code | exact HWD.out.origin | exact HWD.out.number | (unfold In64; omega))) x hx).2))
  clear h2 hb2 HB2 HX HK c0 c1 c2' c3 c4 c5 c6 c7 c8 c9 c10 c11 c12 c13 c14 c15
  obtain ⟨c0, c1, c2', c3, c4, c5, c6, c7, c8, c9, c10, c11, c12, c13, c14, c15⟩ := msg_cells HT.out.kb
  rw [HKK.out] at c0
  generalize hL : WM.nums [4, m.frm, m.dst] = L0 at HT HN
  have HL0 := Lib.hid hL
  clear hL
  go_wp2_with fail
  refine (Oct.RefText_any m.path _ HWD.out.path).mono ?_
  rintro e w3 ⟨v3, rfl, h3, hb3⟩
  obtain ⟨A4, cq4, hv4, _, _⟩ := By.own_shape h3
  subst hv4
  have HT3 := Lib.hid (HT.out.text (b := 0) hb3 h3)
  have HP4 := Lib.hid (show (OM.encT m.path.data.toList).length ≤ 140737488351232 + 9 from by rw [OM.encT, List.length_append]; have h := OM.enc_nine (n := m.path.data.toList.length) (by have := HWD.out.path; have e : m.path.data.toList.length = m.path.size := rfl; omega); have := HWD.out.path; have e : m.path.data.toList.length = m.path.size := rfl; omega)
  clear h3 hb3 HT c0 c1 c2' c3 c4 c5 c6 c7 c8 c9 c10 c11 c12 c13 c14 c15
  obtain ⟨c0, c1, c2', c3, c4, c5, c6, c7, c8, c9, c10, c11, c12, c13, c14, c15⟩ := msg_cells HT3.out.kb
  rw [HKK.out] at c0
  go_wp2_with fail
  have HA0 := Lib.hid (HT3.out.on ((Below.refl _ w3).alloc (Nat.le_refl _) (.cells (i64s [m.id, m.origin, m.number]).toArray 3)))
  refine (r6_nums (some ⟨w3.heap.size, 0, none⟩) 3 [m.id, m.origin, m.number] _ (Gw.ints_lit w3 [m.id, m.origin, m.number]) (by simp) (by omega) (by intro x hx; simp only [List.mem_cons, List.not_mem_nil, or_false] at hx; rcases hx with rfl | rfl | rfl <;> first | exact HWD.out.kind | exact HWD.out.frm | exact HWD.out.dst | exact HWD.out.boot | exact HWD.out.seq | exact HWD.out.low | exact HWD.out.verb | exact HWD.out.mode | exact HWD.out.term | exact HWD.out.id | exact HWD.out.code | exact HWD.out.origin | exact HWD.out.number | (unfold In64; omega)) (by simp)).mono ?_
  rintro e x0 ⟨q0, rfl, hq, hb⟩
  obtain ⟨B0, d0, hv, _, _⟩ := By.own_shape hq
  subst hv
  have HY0 := Lib.hid (show By.BytesAt x0 B0 (WM.nums [m.id, m.origin, m.number]) from By.BytesAt.own hq)
  have HQ0 := Lib.hid (HA0.out.on hb)
  have HN0 := Lib.hid (show (WM.nums [m.id, m.origin, m.number]).length ≤ 27 from rnums9 _ (by intro x hx; exact (show In64 x from (show ∀ x ∈ ([m.id, m.origin, m.number] : List Int), In64 x from (by intro x hx; simp only [List.mem_cons, List.not_mem_nil, or_false] at hx; rcases hx with rfl | rfl | rfl <;> first | exact HWD.out.kind | exact HWD.out.frm | exact HWD.out.dst | exact HWD.out.boot | exact HWD.out.seq | exact HWD.out.low | exact HWD.out.verb | exact HWD.out.mode | exact HWD.out.term | exact HWD.out.id | exact HWD.out.code | exact HWD.out.origin | exact HWD.out.number | (unfold In64; omega))) x hx).2))
  clear hq hb HA0 HT3 c0 c1 c2' c3 c4 c5 c6 c7 c8 c9 c10 c11 c12 c13 c14 c15
  go_wp2_with (at_builtin; refine Gw.app_more rfl (.tmp 118) (.tmp 126) rfl w.heap.size v2 (L0) (WM.nums [m.id, m.origin, m.number]) B0 _ d0 HQ0.out.grow.row HY0.out rfl (by have := HN.out; have := HN0.out; omega) HQ0.out.grow.below.size rfl rfl ?_; intro u0 y0 k1 k2 k3; have HM0 := Lib.hid (HQ0.out.app k1 k2 k3); have HE0 := Lib.hid (show (L0 ++ WM.nums [m.id, m.origin, m.number]).length ≤ 54 by rw [List.length_append]; have := HN.out; have := HN0.out; omega); clear k1 k2 k3)
  generalize hM : L0 ++ WM.nums [m.id, m.origin, m.number] = M0 at HM0 HE0
  have HL1 := Lib.hid hM
  clear hM
  have HBD := Lib.hid (show WM.body m = M0 by rw [← HL1.out, ← HL0.out]; unfold WM.body WM.partB WM.askB WM.replyB WM.recallB WM.doneB WM.opB WM.p WM.flag; simp [HKK.out, WM.nums])
  skip
  go_ret
  rw [HBD.out]
  exact ⟨_, rfl, HM0.out.grow.row, HM0.out.grow.below⟩
set_option maxHeartbeats 8000000 in
theorem bd6_5 (A : Option Addr) (c : Nat) (m : Msg) (w : World) (hf : Fit6 w A c m) (hk : m.kind = 5) (hst : m.stamp.length ≤ 4) :
    Calls Try.prog 22 #[.agg (cellsM m (.slice A m.stamp.length c))] w (By.Fresh w (WM.body m)) := by
  have HF := Lib.hid hf
  have HWD := Lib.hid hf.wide
  have HKK := Lib.hid hk
  clear hf hk
  have HX := Lib.hid ((Below.refl _ w).alloc (Nat.le_refl _) (.cells (cellsM m (.slice A m.stamp.length c)) 28))
  have HK := Lib.hid (show MsgBlk (w.alloc (.cells (cellsM m (.slice A m.stamp.length c)) 28)) w.heap.size m (.slice A m.stamp.length c) from Whole.new w 28 (cellsM m (.slice A m.stamp.length c)))
  go_enter Try.func22, Try.ntmps22
  go_upto_region 1 with (fail)
  generalize w.alloc (.cells (cellsM m (.slice A m.stamp.length c)) 28) = w1 at HX HK ⊢
  obtain ⟨c0, c1, c2', c3, c4, c5, c6, c7, c8, c9, c10, c11, c12, c13, c14, c15⟩ := msg_cells HK.out
  rw [HKK.out] at c0
  go_wp2_with fail
  refine (r6_nums (some ⟨w1.heap.size, 0, none⟩) 3 [5, m.frm, m.dst] _ (Gw.ints_lit w1 [5, m.frm, m.dst]) (by simp) (by omega) (by intro x hx; simp only [List.mem_cons, List.not_mem_nil, or_false] at hx; rcases hx with rfl | rfl | rfl <;> first | exact HWD.out.kind | exact HWD.out.frm | exact HWD.out.dst | exact HWD.out.boot | exact HWD.out.seq | exact HWD.out.low | exact HWD.out.verb | exact HWD.out.mode | exact HWD.out.term | exact HWD.out.id | exact HWD.out.code | exact HWD.out.origin | exact HWD.out.number | (unfold In64; omega)) (by simp)).mono ?_
  rintro e w2 ⟨v2, rfl, h2, hb2⟩
  have HB2 := Lib.hid (((Below.refl _ w1).alloc (Nat.le_refl _) (.cells (i64s [5, m.frm, m.dst]).toArray 3)).trans (hb2.mono (by simp)))
  have HT := Lib.hid (BdSt.no (w0 := w) (L := WM.nums [5, m.frm, m.dst]) ((Mod.of_below HB2.out []).whole HK.out (by simp)) (⟨gw_base h2 (by have := HX.out.size; simp; omega), below_on HX.out HB2.out⟩))
  have HN := Lib.hid (show (WM.nums [5, m.frm, m.dst]).length ≤ 27 from rnums9 _ (by intro x hx; exact (show In64 x from (show ∀ x ∈ ([5, m.frm, m.dst] : List Int), In64 x from (by intro x hx; simp only [List.mem_cons, List.not_mem_nil, or_false] at hx; rcases hx with rfl | rfl | rfl <;> first | exact HWD.out.kind | exact HWD.out.frm | exact HWD.out.dst | exact HWD.out.boot | exact HWD.out.seq | exact HWD.out.low | exact HWD.out.verb | exact HWD.out.mode | exact HWD.out.term | exact HWD.out.id | exact HWD.out.code | exact HWD.out.origin | exact HWD.out.number | (unfold In64; omega))) x hx).2))
  clear h2 hb2 HB2 HX HK c0 c1 c2' c3 c4 c5 c6 c7 c8 c9 c10 c11 c12 c13 c14 c15
  obtain ⟨c0, c1, c2', c3, c4, c5, c6, c7, c8, c9, c10, c11, c12, c13, c14, c15⟩ := msg_cells HT.out.kb
  rw [HKK.out] at c0
  generalize hL : WM.nums [5, m.frm, m.dst] = L0 at HT HN
  have HL0 := Lib.hid hL
  clear hL
  go_wp2_with fail
  refine (Oct.RefText_any m.path _ HWD.out.path).mono ?_
  rintro e w3 ⟨v3, rfl, h3, hb3⟩
  obtain ⟨A4, cq4, hv4, _, _⟩ := By.own_shape h3
  subst hv4
  have HT3 := Lib.hid (HT.out.text (b := 0) hb3 h3)
  have HP4 := Lib.hid (show (OM.encT m.path.data.toList).length ≤ 140737488351232 + 9 from by rw [OM.encT, List.length_append]; have h := OM.enc_nine (n := m.path.data.toList.length) (by have := HWD.out.path; have e : m.path.data.toList.length = m.path.size := rfl; omega); have := HWD.out.path; have e : m.path.data.toList.length = m.path.size := rfl; omega)
  clear h3 hb3 HT c0 c1 c2' c3 c4 c5 c6 c7 c8 c9 c10 c11 c12 c13 c14 c15
  obtain ⟨c0, c1, c2', c3, c4, c5, c6, c7, c8, c9, c10, c11, c12, c13, c14, c15⟩ := msg_cells HT3.out.kb
  rw [HKK.out] at c0
  have HQ0 := Lib.hid HT3.out
  have HN0 := Lib.hid HP4.out
  go_upto_region 30 with (at_builtin; refine Gw.app_more rfl (.tmp 130) (.tmp 131) rfl w.heap.size v2 (L0) (OM.encT m.path.data.toList) A4 _ cq4 HQ0.out.grow.row HQ0.out.path rfl (by have := HN.out; have := HN0.out; omega) HQ0.out.grow.below.size rfl rfl ?_; intro u0 y0 k1 k2 k3; have HM0 := Lib.hid (HQ0.out.app k1 k2 k3); have HE0 := Lib.hid (show (L0 ++ OM.encT m.path.data.toList).length ≤ 140737488351268 by rw [List.length_append]; have := HN.out; have := HN0.out; omega); clear k1 k2 k3 HT3 c0 c1 c2' c3 c4 c5 c6 c7 c8 c9 c10 c11 c12 c13 c14 c15)
  generalize hM : L0 ++ OM.encT m.path.data.toList = M0 at HM0 HE0
  have HL1 := Lib.hid hM
  clear hM
  obtain ⟨c0, c1, c2', c3, c4, c5, c6, c7, c8, c9, c10, c11, c12, c13, c14, c15⟩ := msg_cells HM0.out.kb
  rw [HKK.out] at c0
  go_wp2_with fail
  have HA1 := Lib.hid (HM0.out.on ((Below.refl _ y0).alloc (Nat.le_refl _) (.cells (i64s [m.mode]).toArray 3)))
  refine (r6_nums (some ⟨y0.heap.size, 0, none⟩) 1 [m.mode] _ (Gw.ints_lit y0 [m.mode]) (by simp) (by omega) (by intro x hx; simp only [List.mem_cons, List.not_mem_nil, or_false] at hx; rcases hx with rfl <;> first | exact HWD.out.kind | exact HWD.out.frm | exact HWD.out.dst | exact HWD.out.boot | exact HWD.out.seq | exact HWD.out.low | exact HWD.out.verb | exact HWD.out.mode | exact HWD.out.term | exact HWD.out.id | exact HWD.out.code | exact HWD.out.origin | exact HWD.out.number | (unfold In64; omega)) (by simp)).mono ?_
  rintro e x1 ⟨q1, rfl, hq, hb⟩
  obtain ⟨B1, d1, hv, _, _⟩ := By.own_shape hq
  subst hv
  have HY1 := Lib.hid (show By.BytesAt x1 B1 (WM.nums [m.mode]) from By.BytesAt.own hq)
  have HQ1 := Lib.hid (HA1.out.on hb)
  have HN1 := Lib.hid (show (WM.nums [m.mode]).length ≤ 9 from rnums9 _ (by intro x hx; exact (show In64 x from (show ∀ x ∈ ([m.mode] : List Int), In64 x from (by intro x hx; simp only [List.mem_cons, List.not_mem_nil, or_false] at hx; rcases hx with rfl <;> first | exact HWD.out.kind | exact HWD.out.frm | exact HWD.out.dst | exact HWD.out.boot | exact HWD.out.seq | exact HWD.out.low | exact HWD.out.verb | exact HWD.out.mode | exact HWD.out.term | exact HWD.out.id | exact HWD.out.code | exact HWD.out.origin | exact HWD.out.number | (unfold In64; omega))) x hx).2))
  clear hq hb HA1 HM0 c0 c1 c2' c3 c4 c5 c6 c7 c8 c9 c10 c11 c12 c13 c14 c15
  go_upto_region 31 with (at_builtin; refine Gw.app_more rfl (.tmp 133) (.tmp 137) rfl w.heap.size u0 (M0) (WM.nums [m.mode]) B1 _ d1 HQ1.out.grow.row HY1.out rfl (by have := HE0.out; have := HN1.out; omega) HQ1.out.grow.below.size rfl rfl ?_; intro u1 y1 k1 k2 k3; have HM1 := Lib.hid (HQ1.out.app k1 k2 k3); have HE1 := Lib.hid (show (M0 ++ WM.nums [m.mode]).length ≤ 140737488351277 by rw [List.length_append]; have := HE0.out; have := HN1.out; omega); clear k1 k2 k3)
  generalize hM : M0 ++ WM.nums [m.mode] = M1 at HM1 HE1
  have HL2 := Lib.hid hM
  clear hM
  obtain ⟨c0, c1, c2', c3, c4, c5, c6, c7, c8, c9, c10, c11, c12, c13, c14, c15⟩ := msg_cells HM1.out.kb
  rw [HKK.out] at c0
  go_wp2_with fail
  refine (r6_counters A c m.stamp _ ((HF.out.ints).below (HM1.out.grow.below)) HF.out.le HF.out.cap HWD.out.stamp hst).mono ?_
  rintro e x2 ⟨q2, rfl, hq, hb⟩
  obtain ⟨B2, d2, hv, _, _⟩ := By.own_shape hq
  subst hv
  have HY2 := Lib.hid (show By.BytesAt x2 B2 (WM.stampB m.stamp) from By.BytesAt.own hq)
  have HQ2 := Lib.hid (HM1.out.on hb)
  have HN2 := Lib.hid (show (WM.stampB m.stamp).length ≤ 45 by unfold WM.stampB; rw [List.length_append]; have := OM.enc_nine (n := m.stamp.length) (by omega); have := rnums9 m.stamp (fun x hx => (HWD.out.stamp x hx).2); omega)
  clear hq hb HM1 c0 c1 c2' c3 c4 c5 c6 c7 c8 c9 c10 c11 c12 c13 c14 c15
  go_wp2_with (at_builtin; refine Gw.app_more rfl (.tmp 139) (.tmp 142) rfl w.heap.size u1 (M1) (WM.stampB m.stamp) B2 _ d2 HQ2.out.grow.row HY2.out rfl (by have := HE1.out; have := HN2.out; omega) HQ2.out.grow.below.size rfl rfl ?_; intro u2 y2 k1 k2 k3; have HM2 := Lib.hid (HQ2.out.app k1 k2 k3); have HE2 := Lib.hid (show (M1 ++ WM.stampB m.stamp).length ≤ 140737488351322 by rw [List.length_append]; have := HE1.out; have := HN2.out; omega); clear k1 k2 k3)
  generalize hM : M1 ++ WM.stampB m.stamp = M2 at HM2 HE2
  have HL3 := Lib.hid hM
  clear hM
  have HBD := Lib.hid (show WM.body m = M2 by rw [← HL3.out, ← HL2.out, ← HL1.out, ← HL0.out]; unfold WM.body WM.partB WM.askB WM.replyB WM.recallB WM.doneB WM.opB WM.p WM.flag; simp [HKK.out, WM.nums])
  skip
  go_ret
  rw [HBD.out]
  exact ⟨_, rfl, HM2.out.grow.row, HM2.out.grow.below⟩
/-- How a message that may be is one of the ways of body. -/
theorem r6_body (A : Option Addr) (c : Nat) (m : Msg) (w : World) (hf : Fit6 w A c m) (hv : WM.valid m = true) :
    Calls Try.prog 22 #[.agg (cellsM m (.slice A m.stamp.length c))] w (By.Fresh w (WM.body m)) := by
  have hm : WM.may m = true := by
    unfold WM.valid at hv
    simp only [Bool.and_eq_true] at hv
    exact hv.1
  have hp : WM.mayPart m = true := by
    unfold WM.may at hm
    simp only [Bool.and_eq_true] at hm
    exact hm.2
  unfold WM.mayPart at hp
  rcases WM.may_kind hm with hk | hk | hk | hk | hk
  · simp only [hk, if_true] at hp
    unfold WM.mayAsk at hp
    simp only [Bool.and_eq_true] at hp
    have hw := hp.2.2.2.2
    unfold WM.want at hw
    by_cases h1 : m.verb = 1
    · exact bd6_1a A c m w hf hk h1
    · by_cases h2 : m.verb = 2
      · cases hfr : m.fresh with
        | true => exact bd6_1bt A c m w hf hk h2 hfr
        | false => exact bd6_1bf A c m w hf hk h2 hfr
      · by_cases h3 : m.verb = 3
        · exact bd6_1c A c m w hf hk h3
        · rw [if_neg h1, if_neg h2, if_neg h3] at hw
          cases hw
  · by_cases h1 : m.code = 0
    · refine bd6_2a A c m w hf hk h1 ?_
      simp [hk] at hp
      unfold WM.mayReply at hp
      simp only [Bool.and_eq_true, Bool.or_eq_true, decide_eq_true_eq] at hp
      rcases hp.2.2.2.2 with h | h
      · exact absurd h1 h
      · have hg := h.2
        unfold WM.give at hg
        by_cases hs : m.stamp = []
        · rw [hs]; simp
        · rw [if_neg hs] at hg
          simp only [Bool.and_eq_true] at hg
          exact (WM.valid_rng hg.2).1
    · exact bd6_2b A c m w hf hk h1
  · exact bd6_3 A c m w hf hk
  · exact bd6_4 A c m w hf hk
  · refine bd6_5 A c m w hf hk ?_
    simp [hk] at hp
    unfold WM.mayOp at hp
    simp only [Bool.and_eq_true] at hp
    exact (WM.valid_rng hp.2.2).1
end Go.Proofs.Ytboflkadabagfaa
namespace Go.Proofs.Ytboflkadabagfaa
open Go.RowKit
open Oct (BytesAt u8s)
open WM (Msg)
set_option linter.unusedVariables false
set_option linter.unusedSimpArgs false
set_option maxRecDepth 100000
set_option maxHeartbeats 4000000 in
theorem r6_Encode_yes (A : Option Addr) (c : Nat) (m : Msg) (w : World) (hf : Fit6 w A c m) (hv : WM.valid m = true) :
    Calls Try.prog 10 #[.agg (cellsM m (.slice A m.stamp.length c))] w fun e w' => ∃ v, e = .returned (.tuple #[v, .int .i64 0]) ∧ Hid (Oct.Grew w (enc m) v w') := by
  have HX := Lib.hid ((Below.refl _ w).alloc (Nat.le_refl _) (.cells (cellsM m (.slice A m.stamp.length c)) 28))
  have HF := Lib.hid (hf.below HX.out)
  have HK := Lib.hid (show MsgBlk (w.alloc (.cells (cellsM m (.slice A m.stamp.length c)) 28)) w.heap.size m (.slice A m.stamp.length c) from Whole.new w 28 (cellsM m (.slice A m.stamp.length c)))
  have HV := Lib.hid hv
  clear hf hv
  go_enter Try.func10, Try.ntmps10
  go_upto_region 1 with (fail)
  generalize w.alloc (.cells (cellsM m (.slice A m.stamp.length c)) 28) = w1 at HX HK HF ⊢
  have HLD := Lib.hid (msg_range HK.out)
  go_wp2_with (refine wpList_load_mid rfl 28 (.tmp 1) rfl w.heap.size 0 rfl (cellsM m (.slice A m.stamp.length c)).toList _ HLD.out Try.underlying28 rfl (by kernel_rfl) ?_)
  refine (r6_Valid A c m _ HF.out).mono ?_
  rw [HV.out]
  rintro e w2 ⟨rfl, hb⟩
  have HX2 := Lib.hid (below_on HX.out hb)
  have HK2 := Lib.hid (show MsgBlk w2 w.heap.size m (.slice A m.stamp.length c) from (Mod.of_below hb []).whole HK.out (by simp))
  have HF2 := Lib.hid (HF.out.below hb)
  clear hb HX HK HF HLD
  have HLD := Lib.hid (msg_range HK2.out)
  go_wp2_with (refine wpList_load_mid rfl 28 (.tmp 1) rfl w.heap.size 0 rfl (cellsM m (.slice A m.stamp.length c)).toList _ HLD.out Try.underlying28 rfl (by kernel_rfl) ?_)
  refine (r6_body A c m _ HF2.out HV.out).mono ?_
  rintro e w3 ⟨v3, rfl, h3, hb3⟩
  have HG := Lib.hid (show Gw.Grow w (WM.body m) v3 w3 from ⟨gw_base h3 HX2.out.size, below_on HX2.out hb3⟩)
  obtain ⟨A3, c3, hv3, _, _⟩ := By.own_shape h3
  subst hv3
  have HY := Lib.hid (show Oct.BytesAt w3 A3 (WM.body m) from By.BytesAt.own h3)
  have HL := Lib.hid (show (enc m).length ≤ 154 from enc_len HV.out)
  have HLB := Lib.hid (show (WM.body m).length ≤ 154 by have h := HL.out; unfold enc at h; rw [List.length_append] at h; omega)
  have HSL := Lib.hid (OM.sum_lt (WM.body m))
  have HEN := Lib.hid (show enc m = WM.body m ++ Oct.four (OM.sum (WM.body m)) from rfl)
  clear h3 hb3 HX2 HK2 HF2 HLD
  generalize WM.body m = bd at HG HY HLB HSL HEN ⊢
  go_wp2_with fail
  refine (Oct.RefSum_any A3 c3 bd _ HY.out (by have := HLB.out; omega)).mono ?_
  rintro e w4 ⟨rfl, rfl⟩
  generalize OM.sum bd = sm at HSL HEN ⊢
  go_wp2_with fail
  refine (Oct.RefFour_any sm _ HSL.out).mono ?_
  rintro e w5 ⟨v5, rfl, h5, hb5⟩
  obtain ⟨A5, c5, hv5, _, _⟩ := By.own_shape h5
  subst hv5
  have HY5 := Lib.hid (show By.BytesAt w5 A5 (Oct.four sm) from By.BytesAt.own h5)
  have HG5 := Lib.hid (HG.out.on hb5)
  clear h5 hb5
  go_wp2_with (at_builtin; refine Gw.app_grow HG5.out HY5.out rfl (by have := HLB.out; have := four_len sm; omega) rfl (.tmp 13) (.tmp 15) rfl rfl rfl ?_; intro v' w6 HG6 HM6)
  go_ret2
  refine ⟨_, rfl, Lib.hid ?_⟩
  rw [HEN.out]
  exact ⟨HG6.out.row, HG6.out.below⟩
set_option maxHeartbeats 4000000 in
theorem r6_Encode_no (A : Option Addr) (c : Nat) (m : Msg) (w : World) (hf : Fit6 w A c m) (hv : WM.valid m = false) :
    Calls Try.prog 10 #[.agg (cellsM m (.slice A m.stamp.length c))] w fun e w' => e = .returned (.tuple #[.slice none 0 0, .int .i64 22]) ∧ Below w.heap.size w w' := by
  have HX := Lib.hid ((Below.refl _ w).alloc (Nat.le_refl _) (.cells (cellsM m (.slice A m.stamp.length c)) 28))
  have HF := Lib.hid (hf.below HX.out)
  have HK := Lib.hid (show MsgBlk (w.alloc (.cells (cellsM m (.slice A m.stamp.length c)) 28)) w.heap.size m (.slice A m.stamp.length c) from Whole.new w 28 (cellsM m (.slice A m.stamp.length c)))
  have HV := Lib.hid hv
  clear hf hv
  go_enter Try.func10, Try.ntmps10
  go_upto_region 1 with (fail)
  generalize w.alloc (.cells (cellsM m (.slice A m.stamp.length c)) 28) = w1 at HX HK HF ⊢
  have HLD := Lib.hid (msg_range HK.out)
  go_wp2_with (refine wpList_load_mid rfl 28 (.tmp 1) rfl w.heap.size 0 rfl (cellsM m (.slice A m.stamp.length c)).toList _ HLD.out Try.underlying28 rfl (by kernel_rfl) ?_)
  refine (r6_Valid A c m _ HF.out).mono ?_
  rw [HV.out]
  rintro e w2 ⟨rfl, hb⟩
  have HX2 := Lib.hid (below_on HX.out hb)
  clear hb HX HK HF HLD
  go_wp2_with fail
  go_ret2
  exact ⟨rfl, HX2.out⟩
end Go.Proofs.Ytboflkadabagfaa
