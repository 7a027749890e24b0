/- A record's bytes: the document's call. -/
import Derived.Test.YtboflkadabagfabBkRB
import Derived.Test.YtboflkadabagfabBkW11
import Derived.Test.YtboflkadabagfabBkRA
import Derived.Test.YtboflkadabagfabOctetsW5
import Derived.Test.YtboflkadabagfabMathA
namespace Go.Proofs.Ytboflkadabagfab
open Go.RowKit
open Oct (BytesAt u8s)
open BM (Gr Rc Bk g0 r0 b0)
set_option linter.unusedVariables false
set_option linter.unusedSimpArgs false
set_option maxRecDepth 100000
theorem rnums_snoc : ∀ (l : List Int) (n : Int), WM.nums (l ++ [n]) = WM.nums l ++ OM.enc n.toNat
  | [], n => by simp [WM.nums]
  | x :: l, n => by rw [List.cons_append, WM.nums, WM.nums, rnums_snoc l n, List.append_assoc]
theorem rnums_take {l : List Int} {k : Nat} (h : k < l.length) : WM.nums (l.take (k + 1)) = WM.nums (l.take k) ++ OM.enc (l[k]).toNat := by
  rw [List.take_add_one, List.getElem?_eq_getElem h, ← rnums_snoc]
  rfl
theorem rnums9 : ∀ (l : List Int), (∀ x ∈ l, x ≤ 9223372036854775807) → (WM.nums l).length ≤ 9 * l.length
  | [], _ => Nat.zero_le _
  | n :: l, h => by
    have h1 : (OM.enc n.toNat).length ≤ 9 := OM.enc_nine (by have := h n (by simp); omega)
    have h2 := rnums9 l (fun x hx => h x (by simp [hx]))
    rw [WM.nums, List.length_append, List.length_cons]
    omega
set_option maxHeartbeats 4000000 in
theorem r11_nums (A : Option Addr) (c : Nat) (l : List Int) (w : World) (hA : IntsAt w A l) (hl : l.length ≤ c) (hc : c ≤ 9223372036854775807) (hr : ∀ x ∈ l, In64 x) (h9 : l.length ≤ 1048576) :
    Calls Try.prog 21 #[.slice A l.length c] w (By.Fresh w (WM.nums l)) := by
  have HA := Lib.hid hA
  have HR := Lib.hid hr
  clear hA hr
  go_enter Try.func21, Try.ntmps21
  go_wp2_with fail
  go_loopw [4, 3] (fun i v wx => ∃ k : Nat, i = .int .i64 (k : Int) ∧ k ≤ l.length ∧ Hid (Gw.Grow w (WM.nums (l.take k)) v wx)) (fun i _ _ => l.length - (intOf i).toNat)
  case atStart => exact ⟨0, rfl, Nat.zero_le _, Lib.hid (by rw [List.take_zero]; exact Gw.Grow.nil w)⟩
  case round =>
    obtain ⟨k, rfl, hk, HG⟩ := hrel
    by_cases hlt : k < l.length
    · obtain ⟨b, o, eA, hb, hca⟩ := (HA.out.below (show Below w.heap.size w wr from HG.out.below)) (by omega)
      subst eA
      have ca := hca k l[k] (List.getElem?_eq_getElem hlt)
      have HN := Lib.hid (rnums_take hlt)
      have HI := Lib.hid (HR.out l[k] (List.getElem_mem hlt))
      have HS := Lib.hid (show (WM.nums (l.take k)).length + 9 ≤ 140737488355328 by
        have h := rnums9 (l.take k) (fun x hx => (HR.out x (List.mem_of_mem_take hx)).2)
        have h2 : (l.take k).length ≤ l.length := List.length_take_le' ..
        omega)
      clear hca hb
      generalize l[k] = x at ca HN HI
      go_wp2_with fail
      refine (Oct.RefNum_any x _ HI.out).mono ?_
      rintro e w5 ⟨vn, rfl, hn, hb5⟩
      obtain ⟨A5, c5, hv5, _, _⟩ := By.own_shape hn
      subst hv5
      have HX5 := Lib.hid (show By.BytesAt w5 A5 (OM.enc x.toNat) from By.BytesAt.own hn)
      have HG5 := Lib.hid (HG.out.on hb5)
      have HL := Lib.hid (show (OM.enc x.toNat).length ≤ 9 from OM.enc_nine (by have := HI.out; unfold In64 at this; omega))
      clear hn hb5 ca
      go_wp2_with (at_builtin; refine Gw.app_grow HG5.out HX5.out rfl (by have := HS.out; have := HL.out; omega) rfl (.tmp 11) (.tmp 16) rfl rfl rfl ?_; intro v' w6 HG6 HM6)
      rw [← HN.out] at HG6
      go_roundw
      case rel => exact ⟨k + 1, rfl, by omega, HG6⟩
      case measure => simp only [intOf]; omega
    · have e : l.take k = l := List.take_of_length_le (by omega)
      rw [e] at HG
      clear e
      go_wp2_with fail
      go_ret
      exact ⟨_, rfl, HG.out.row, HG.out.below⟩
structure E11 (w0 : World) (r : Rc) (V U : Value) (g5 : Nat) (L : List UInt8) (v : Value) (w : World) : Prop where
  kb : Whole w w0.heap.size 28 (twelve r V U)
  gb : Whole w g5 26 (six r.g V)
  grow : Gw.Grow w0 L v w
section
variable {w0 w w2 : World} {r : Rc} {V U v v' : Value} {g5 : Nat} {L X : List UInt8}
theorem E11.on (h : E11 w0 r V U g5 L v w) (hb : Below w.heap.size w w2) : E11 w0 r V U g5 L v w2 :=
  ⟨(Mod.of_below hb []).whole h.kb (by simp), (Mod.of_below hb []).whole h.gb (by simp), h.grow.on hb⟩
theorem E11.app (h : E11 w0 r V U g5 L v w) (k1 : w2.ownsRow w0.heap.size 5 1 v' (L ++ X).length (By.u8s (L ++ X))) (k2 : Mod v.ownBlock.toList w w2) : E11 w0 r V U g5 (L ++ X) v' w2 :=
  ⟨k2.whole h.kb (Gw.own_block_ne h.grow h.kb (by decide)), k2.whole h.gb (Gw.own_block_ne h.grow h.gb (by decide)), h.grow.then_ k1 k2⟩
end
theorem gw_base {w : World} {b1 b2 : Nat} {e : TypeId} {z n : Nat} {v : Value} {xs : List Value} (h : w.ownsRow b1 e z v n xs) (hb : b2 ≤ b1) : w.ownsRow b2 e z v n xs := by
  refine ⟨h.1, ?_⟩
  rcases h.2 with h0 | ⟨b, cap, cur, e, hb', hh, hr⟩
  · exact .inl h0
  · exact .inr ⟨b, cap, cur, e, Nat.le_trans hb hb', hh, hr⟩
theorem six_cells2 {w : World} {g : Nat} {x : Gr} {V : Value} (h : Whole w g 26 (six x V)) : w.cell? ⟨g, 0, none⟩ = some (.int .i64 x.id) ∧ w.cell? ⟨g, 1, none⟩ = some (.int .i64 x.holder) ∧ w.cell? ⟨g, 2, none⟩ = some (.string x.path) ∧ w.cell? ⟨g, 3, none⟩ = some (.int .i64 x.mode) ∧ w.cell? ⟨g, 4, none⟩ = some V ∧ w.cell? ⟨g, 5, none⟩ = some (.int .i64 x.term) :=
  ⟨h.cell 0, h.cell 1, h.cell 2, h.cell 3, h.cell 4, h.cell 5⟩
theorem st_len {r : Rc} (h : BM.okRc r = true) : (r.kind = 3 ∨ r.kind = 4 → r.g.stamp.length ≤ 4) ∧ (r.kind = 5 → r.stamp.length ≤ 4) := by
  obtain ⟨hm, _⟩ := BM.ok_may h
  unfold BM.mayUse at hm
  refine ⟨fun hk => ?_, fun hk => ?_⟩
  · rcases hk with hk | hk
    · have hg : BM.okGr r.g = true := by simpa [hk] using hm
      exact (BM.stamp_parts (BM.okGr_parts hg).2.2.2.2.1).2.1
    · have hg : BM.okGr r.g = true := by
        simp [hk] at hm
        exact hm.1
      exact (BM.stamp_parts (BM.okGr_parts hg).2.2.2.2.1).2.1
  · have hg : SM.count r.id = true ∧ BM.isStamp r.stamp = true := by simpa [hk] using hm
    exact (BM.stamp_parts hg.2).2.1
theorem enc_post {w w' : World} {r : Rc} {L : List UInt8} {v : Value} (h : BM.okRc r = true) (hl : BM.laid r = L) (hg : Gw.Grow w L v w') : EncPost w r (.returned (.tuple #[v, .int .i64 0])) w' := by
  subst hl
  have e : BM.encode r = (BM.laid r, 0) := if_pos h
  obtain ⟨A, c, rfl, _, _⟩ := By.own_shape hg.row
  unfold EncPost
  rw [e]
  exact ⟨A, c, rfl, hg.row, hg.below⟩
set_option maxHeartbeats 8000000 in
theorem e11_1 (V U : Value) (r : Rc) (w : World) (h : FitR w V U r) (hor : BM.okRc r = true) (hk : r.kind = 1) :
    Calls Try.prog 7 #[.agg (twelve r V U)] w (EncPost w r) := by
  obtain ⟨A, c, hs, hsA⟩ := h.g.hd
  obtain ⟨B, d, hu, hsB⟩ := h.st
  subst hs hu
  have HSA := Lib.hid hsA
  have HSB := Lib.hid hsB
  have HR := Lib.hid h
  have HOR := Lib.hid hor
  have HKK := Lib.hid hk
  have HLS := Lib.hid (st_len hor)
  clear h hor hk hsA hsB
  have HX := Lib.hid ((Below.refl _ w).alloc (Nat.le_refl _) (.cells (twelve r (.slice A r.g.stamp.length c) (.slice B r.stamp.length d)) 28))
  have HK := Lib.hid (Whole.new w 28 (twelve r (.slice A r.g.stamp.length c) (.slice B r.stamp.length d)))
  have HRB := Lib.hid (HR.out.below HX.out)
  go_enter Try.func7, Try.ntmps7
  go_upto_region 1 with (fail)
  generalize w.alloc (.cells (twelve r (.slice A r.g.stamp.length c) (.slice B r.stamp.length d)) 28) = w1 at HX HK HRB ⊢
  obtain ⟨c0, c1, c2', c3, c4, c5, c6, c7, c8, c9, c10, c11⟩ := rec_cells HK.out
  go_wp2_with fail
  refine (r_Rec (.slice A r.g.stamp.length c) (.slice B r.stamp.length d) r w1 HRB.out).mono ?_
  rw [HOR.out]
  rintro e w2 ⟨rfl, hb2⟩
  have HX2 := Lib.hid (below_on HX.out hb2)
  have HK2 := Lib.hid ((Mod.of_below hb2 []).whole HK.out (by simp))
  clear hb2 HX HK HRB c0 c1 c2' c3 c4 c5 c6 c7 c8 c9 c10 c11
  obtain ⟨c0, c1, c2', c3, c4, c5, c6, c7, c8, c9, c10, c11⟩ := rec_cells HK2.out
  rw [HKK.out] at c0
  go_wp2_with fail
  refine (r11_nums (some ⟨w2.heap.size, 0, none⟩) 1 [1] _ (Gw.ints_lit w2 [1]) (by simp) (by omega) (by intro x hx; simp only [List.mem_cons, List.not_mem_nil, or_false] at hx; subst hx; unfold In64; omega) (by simp)).mono ?_
  rintro e w3 ⟨v3, rfl, h3, hb3⟩
  have HB3 := Lib.hid (((Below.refl _ w2).alloc (Nat.le_refl _) (.cells (i64s [1]).toArray 3)).trans (hb3.mono (by simp)))
  have HG3 := Lib.hid (show Gw.Grow w (WM.nums [1]) v3 w3 from ⟨gw_base h3 (by have := HX2.out.size; simp; omega), below_on HX2.out HB3.out⟩)
  have HK3 := Lib.hid ((Mod.of_below HB3.out []).whole HK2.out (by simp))
  obtain ⟨A3, cz3, e3, _, _⟩ := By.own_shape h3
  subst e3
  clear h3 hb3 HB3 HK2 HX2 c0 c1 c2' c3 c4 c5 c6 c7 c8 c9 c10 c11
  have HN := Lib.hid (show (WM.nums [1]).length ≤ 9 from rnums9 _ (by intro x hx; simp only [List.mem_cons, List.not_mem_nil, or_false] at hx; subst hx; omega))
  generalize hL : WM.nums [1] = L0 at HG3 HN ⊢
  have HL0 := Lib.hid hL
  clear hL
  obtain ⟨c0, c1, c2', c3, c4, c5, c6, c7, c8, c9, c10, c11⟩ := rec_cells HK3.out
  rw [HKK.out] at c0
  go_upto_region 5 with (fail)
  have HT := Lib.hid (show E11 w r (.slice A r.g.stamp.length c) (.slice B r.stamp.length d) w3.heap.size L0 (.slice A3 L0.length cz3) (w3.alloc (.cells (six r.g (.slice A r.g.stamp.length c)) 26)) from ⟨HK3.out.alloc _, Whole.new w3 _ _, HG3.out.on ((Below.refl _ w3).alloc (Nat.le_refl _) _)⟩)
  unfold six at HT
  clear HG3 HK3 c0 c1 c2' c3 c4 c5 c6 c7 c8 c9 c10 c11
  generalize w3.alloc (.cells #[.int .i64 r.g.id, .int .i64 r.g.holder, .string r.g.path, .int .i64 r.g.mode, (.slice A r.g.stamp.length c), .int .i64 r.g.term] 26) = y0 at HT ⊢
  obtain ⟨c0, c1, c2', c3, c4, c5, c6, c7, c8, c9, c10, c11⟩ := rec_cells HT.out.kb
  rw [HKK.out] at c0
  obtain ⟨q0, q1, q2, q3, q4, q5⟩ := six_cells2 HT.out.gb
  go_wp2_with fail
  have HA0 := Lib.hid (HT.out.on ((Below.refl _ y0).alloc (Nat.le_refl _) (.cells (i64s [r.next, r.boots]).toArray 3)))
  refine (r11_nums (some ⟨y0.heap.size, 0, none⟩) 2 [r.next, r.boots] _ (Gw.ints_lit y0 [r.next, r.boots]) (by simp) (by omega) (by intro x hx; simp only [List.mem_cons, List.not_mem_nil, or_false] at hx; rcases hx with rfl | rfl <;> first | exact HR.out.g.wide.id | exact HR.out.g.wide.holder | exact HR.out.g.wide.mode | exact HR.out.g.wide.term | exact HR.out.id | exact HR.out.next | exact HR.out.boots | exact HR.out.longest | (unfold In64; have := HLS.out; omega)) (by simp)).mono ?_
  rintro e x0 ⟨p0, rfl, hq, hb⟩
  obtain ⟨B0, d0, hv, _, _⟩ := By.own_shape hq
  subst hv
  have HY0 := Lib.hid (show By.BytesAt x0 B0 (WM.nums [r.next, r.boots]) from By.BytesAt.own hq)
  have HQ0 := Lib.hid (HA0.out.on hb)
  have HN0 := Lib.hid (show (WM.nums [r.next, r.boots]).length ≤ 18 from rnums9 _ (by intro x hx; exact (show In64 x from (show ∀ x ∈ ([r.next, r.boots] : List Int), In64 x from (by intro x hx; simp only [List.mem_cons, List.not_mem_nil, or_false] at hx; rcases hx with rfl | rfl <;> first | exact HR.out.g.wide.id | exact HR.out.g.wide.holder | exact HR.out.g.wide.mode | exact HR.out.g.wide.term | exact HR.out.id | exact HR.out.next | exact HR.out.boots | exact HR.out.longest | (unfold In64; have := HLS.out; omega))) x hx).2))
  clear hq hb HA0 HT c0 c1 c2' c3 c4 c5 c6 c7 c8 c9 c10 c11 q0 q1 q2 q3 q4 q5
  go_wp2_with (at_builtin; refine Gw.app_more rfl (.tmp 19) (.tmp 25) rfl w.heap.size (.slice A3 L0.length cz3) (L0) (WM.nums [r.next, r.boots]) B0 _ d0 HQ0.out.grow.row HY0.out rfl (by have := HN.out; have := HN0.out; omega) HQ0.out.grow.below.size rfl rfl ?_; intro u0 y1 k1 k2 k3; have HM0 := Lib.hid (HQ0.out.app k1 k2); have HE0 := Lib.hid (show (L0 ++ WM.nums [r.next, r.boots]).length ≤ 27 by rw [List.length_append]; have := HN.out; have := HN0.out; omega); clear k1 k2 k3)
  generalize hM : L0 ++ WM.nums [r.next, r.boots] = M0 at HM0 HE0
  have HL1 := Lib.hid hM
  clear hM
  have HBD := Lib.hid (show BM.laid r = M0 by rw [← HL1.out, ← HL0.out]; unfold BM.laid BM.partB; simp [HKK.out, BM.grantB, WM.nums, WM.stampB])
  go_ret2
  refine (enc_post HOR.out (by rw [HBD.out]) HM0.out.grow)
set_option maxHeartbeats 8000000 in
theorem e11_2 (V U : Value) (r : Rc) (w : World) (h : FitR w V U r) (hor : BM.okRc r = true) (hk : r.kind = 2) :
    Calls Try.prog 7 #[.agg (twelve r V U)] w (EncPost w r) := by
  obtain ⟨A, c, hs, hsA⟩ := h.g.hd
  obtain ⟨B, d, hu, hsB⟩ := h.st
  subst hs hu
  have HSA := Lib.hid hsA
  have HSB := Lib.hid hsB
  have HR := Lib.hid h
  have HOR := Lib.hid hor
  have HKK := Lib.hid hk
  have HLS := Lib.hid (st_len hor)
  clear h hor hk hsA hsB
  have HX := Lib.hid ((Below.refl _ w).alloc (Nat.le_refl _) (.cells (twelve r (.slice A r.g.stamp.length c) (.slice B r.stamp.length d)) 28))
  have HK := Lib.hid (Whole.new w 28 (twelve r (.slice A r.g.stamp.length c) (.slice B r.stamp.length d)))
  have HRB := Lib.hid (HR.out.below HX.out)
  go_enter Try.func7, Try.ntmps7
  go_upto_region 1 with (fail)
  generalize w.alloc (.cells (twelve r (.slice A r.g.stamp.length c) (.slice B r.stamp.length d)) 28) = w1 at HX HK HRB ⊢
  obtain ⟨c0, c1, c2', c3, c4, c5, c6, c7, c8, c9, c10, c11⟩ := rec_cells HK.out
  go_wp2_with fail
  refine (r_Rec (.slice A r.g.stamp.length c) (.slice B r.stamp.length d) r w1 HRB.out).mono ?_
  rw [HOR.out]
  rintro e w2 ⟨rfl, hb2⟩
  have HX2 := Lib.hid (below_on HX.out hb2)
  have HK2 := Lib.hid ((Mod.of_below hb2 []).whole HK.out (by simp))
  clear hb2 HX HK HRB c0 c1 c2' c3 c4 c5 c6 c7 c8 c9 c10 c11
  obtain ⟨c0, c1, c2', c3, c4, c5, c6, c7, c8, c9, c10, c11⟩ := rec_cells HK2.out
  rw [HKK.out] at c0
  go_wp2_with fail
  refine (r11_nums (some ⟨w2.heap.size, 0, none⟩) 1 [2] _ (Gw.ints_lit w2 [2]) (by simp) (by omega) (by intro x hx; simp only [List.mem_cons, List.not_mem_nil, or_false] at hx; subst hx; unfold In64; omega) (by simp)).mono ?_
  rintro e w3 ⟨v3, rfl, h3, hb3⟩
  have HB3 := Lib.hid (((Below.refl _ w2).alloc (Nat.le_refl _) (.cells (i64s [2]).toArray 3)).trans (hb3.mono (by simp)))
  have HG3 := Lib.hid (show Gw.Grow w (WM.nums [2]) v3 w3 from ⟨gw_base h3 (by have := HX2.out.size; simp; omega), below_on HX2.out HB3.out⟩)
  have HK3 := Lib.hid ((Mod.of_below HB3.out []).whole HK2.out (by simp))
  obtain ⟨A3, cz3, e3, _, _⟩ := By.own_shape h3
  subst e3
  clear h3 hb3 HB3 HK2 HX2 c0 c1 c2' c3 c4 c5 c6 c7 c8 c9 c10 c11
  have HN := Lib.hid (show (WM.nums [2]).length ≤ 9 from rnums9 _ (by intro x hx; simp only [List.mem_cons, List.not_mem_nil, or_false] at hx; subst hx; omega))
  generalize hL : WM.nums [2] = L0 at HG3 HN ⊢
  have HL0 := Lib.hid hL
  clear hL
  obtain ⟨c0, c1, c2', c3, c4, c5, c6, c7, c8, c9, c10, c11⟩ := rec_cells HK3.out
  rw [HKK.out] at c0
  go_upto_region 5 with (fail)
  have HT := Lib.hid (show E11 w r (.slice A r.g.stamp.length c) (.slice B r.stamp.length d) w3.heap.size L0 (.slice A3 L0.length cz3) (w3.alloc (.cells (six r.g (.slice A r.g.stamp.length c)) 26)) from ⟨HK3.out.alloc _, Whole.new w3 _ _, HG3.out.on ((Below.refl _ w3).alloc (Nat.le_refl _) _)⟩)
  unfold six at HT
  clear HG3 HK3 c0 c1 c2' c3 c4 c5 c6 c7 c8 c9 c10 c11
  generalize w3.alloc (.cells #[.int .i64 r.g.id, .int .i64 r.g.holder, .string r.g.path, .int .i64 r.g.mode, (.slice A r.g.stamp.length c), .int .i64 r.g.term] 26) = y0 at HT ⊢
  obtain ⟨c0, c1, c2', c3, c4, c5, c6, c7, c8, c9, c10, c11⟩ := rec_cells HT.out.kb
  rw [HKK.out] at c0
  obtain ⟨q0, q1, q2, q3, q4, q5⟩ := six_cells2 HT.out.gb
  go_wp2_with fail
  have HA0 := Lib.hid (HT.out.on ((Below.refl _ y0).alloc (Nat.le_refl _) (.cells (i64s [r.longest]).toArray 3)))
  refine (r11_nums (some ⟨y0.heap.size, 0, none⟩) 1 [r.longest] _ (Gw.ints_lit y0 [r.longest]) (by simp) (by omega) (by intro x hx; simp only [List.mem_cons, List.not_mem_nil, or_false] at hx; rcases hx with rfl <;> first | exact HR.out.g.wide.id | exact HR.out.g.wide.holder | exact HR.out.g.wide.mode | exact HR.out.g.wide.term | exact HR.out.id | exact HR.out.next | exact HR.out.boots | exact HR.out.longest | (unfold In64; have := HLS.out; omega)) (by simp)).mono ?_
  rintro e x0 ⟨p0, rfl, hq, hb⟩
  obtain ⟨B0, d0, hv, _, _⟩ := By.own_shape hq
  subst hv
  have HY0 := Lib.hid (show By.BytesAt x0 B0 (WM.nums [r.longest]) from By.BytesAt.own hq)
  have HQ0 := Lib.hid (HA0.out.on hb)
  have HN0 := Lib.hid (show (WM.nums [r.longest]).length ≤ 9 from rnums9 _ (by intro x hx; exact (show In64 x from (show ∀ x ∈ ([r.longest] : List Int), In64 x from (by intro x hx; simp only [List.mem_cons, List.not_mem_nil, or_false] at hx; rcases hx with rfl <;> first | exact HR.out.g.wide.id | exact HR.out.g.wide.holder | exact HR.out.g.wide.mode | exact HR.out.g.wide.term | exact HR.out.id | exact HR.out.next | exact HR.out.boots | exact HR.out.longest | (unfold In64; have := HLS.out; omega))) x hx).2))
  clear hq hb HA0 HT c0 c1 c2' c3 c4 c5 c6 c7 c8 c9 c10 c11 q0 q1 q2 q3 q4 q5
  go_wp2_with (at_builtin; refine Gw.app_more rfl (.tmp 29) (.tmp 33) rfl w.heap.size (.slice A3 L0.length cz3) (L0) (WM.nums [r.longest]) B0 _ d0 HQ0.out.grow.row HY0.out rfl (by have := HN.out; have := HN0.out; omega) HQ0.out.grow.below.size rfl rfl ?_; intro u0 y1 k1 k2 k3; have HM0 := Lib.hid (HQ0.out.app k1 k2); have HE0 := Lib.hid (show (L0 ++ WM.nums [r.longest]).length ≤ 18 by rw [List.length_append]; have := HN.out; have := HN0.out; omega); clear k1 k2 k3)
  generalize hM : L0 ++ WM.nums [r.longest] = M0 at HM0 HE0
  have HL1 := Lib.hid hM
  clear hM
  have HBD := Lib.hid (show BM.laid r = M0 by rw [← HL1.out, ← HL0.out]; unfold BM.laid BM.partB; simp [HKK.out, BM.grantB, WM.nums, WM.stampB])
  go_ret2
  refine (enc_post HOR.out (by rw [HBD.out]) HM0.out.grow)
set_option maxHeartbeats 8000000 in
theorem e11_3 (V U : Value) (r : Rc) (w : World) (h : FitR w V U r) (hor : BM.okRc r = true) (hk : r.kind = 3) :
    Calls Try.prog 7 #[.agg (twelve r V U)] w (EncPost w r) := by
  obtain ⟨A, c, hs, hsA⟩ := h.g.hd
  obtain ⟨B, d, hu, hsB⟩ := h.st
  subst hs hu
  have HSA := Lib.hid hsA
  have HSB := Lib.hid hsB
  have HR := Lib.hid h
  have HOR := Lib.hid hor
  have HKK := Lib.hid hk
  have HLS := Lib.hid ((st_len hor).1 (.inl hk))
  clear h hor hk hsA hsB
  have HX := Lib.hid ((Below.refl _ w).alloc (Nat.le_refl _) (.cells (twelve r (.slice A r.g.stamp.length c) (.slice B r.stamp.length d)) 28))
  have HK := Lib.hid (Whole.new w 28 (twelve r (.slice A r.g.stamp.length c) (.slice B r.stamp.length d)))
  have HRB := Lib.hid (HR.out.below HX.out)
  go_enter Try.func7, Try.ntmps7
  go_upto_region 1 with (fail)
  generalize w.alloc (.cells (twelve r (.slice A r.g.stamp.length c) (.slice B r.stamp.length d)) 28) = w1 at HX HK HRB ⊢
  obtain ⟨c0, c1, c2', c3, c4, c5, c6, c7, c8, c9, c10, c11⟩ := rec_cells HK.out
  go_wp2_with fail
  refine (r_Rec (.slice A r.g.stamp.length c) (.slice B r.stamp.length d) r w1 HRB.out).mono ?_
  rw [HOR.out]
  rintro e w2 ⟨rfl, hb2⟩
  have HX2 := Lib.hid (below_on HX.out hb2)
  have HK2 := Lib.hid ((Mod.of_below hb2 []).whole HK.out (by simp))
  clear hb2 HX HK HRB c0 c1 c2' c3 c4 c5 c6 c7 c8 c9 c10 c11
  obtain ⟨c0, c1, c2', c3, c4, c5, c6, c7, c8, c9, c10, c11⟩ := rec_cells HK2.out
  rw [HKK.out] at c0
  go_wp2_with fail
  refine (r11_nums (some ⟨w2.heap.size, 0, none⟩) 1 [3] _ (Gw.ints_lit w2 [3]) (by simp) (by omega) (by intro x hx; simp only [List.mem_cons, List.not_mem_nil, or_false] at hx; subst hx; unfold In64; omega) (by simp)).mono ?_
  rintro e w3 ⟨v3, rfl, h3, hb3⟩
  have HB3 := Lib.hid (((Below.refl _ w2).alloc (Nat.le_refl _) (.cells (i64s [3]).toArray 3)).trans (hb3.mono (by simp)))
  have HG3 := Lib.hid (show Gw.Grow w (WM.nums [3]) v3 w3 from ⟨gw_base h3 (by have := HX2.out.size; simp; omega), below_on HX2.out HB3.out⟩)
  have HK3 := Lib.hid ((Mod.of_below HB3.out []).whole HK2.out (by simp))
  obtain ⟨A3, cz3, e3, _, _⟩ := By.own_shape h3
  subst e3
  clear h3 hb3 HB3 HK2 HX2 c0 c1 c2' c3 c4 c5 c6 c7 c8 c9 c10 c11
  have HN := Lib.hid (show (WM.nums [3]).length ≤ 9 from rnums9 _ (by intro x hx; simp only [List.mem_cons, List.not_mem_nil, or_false] at hx; subst hx; omega))
  generalize hL : WM.nums [3] = L0 at HG3 HN ⊢
  have HL0 := Lib.hid hL
  clear hL
  obtain ⟨c0, c1, c2', c3, c4, c5, c6, c7, c8, c9, c10, c11⟩ := rec_cells HK3.out
  rw [HKK.out] at c0
  go_upto_region 5 with (fail)
  have HT := Lib.hid (show E11 w r (.slice A r.g.stamp.length c) (.slice B r.stamp.length d) w3.heap.size L0 (.slice A3 L0.length cz3) (w3.alloc (.cells (six r.g (.slice A r.g.stamp.length c)) 26)) from ⟨HK3.out.alloc _, Whole.new w3 _ _, HG3.out.on ((Below.refl _ w3).alloc (Nat.le_refl _) _)⟩)
  unfold six at HT
  clear HG3 HK3 c0 c1 c2' c3 c4 c5 c6 c7 c8 c9 c10 c11
  generalize w3.alloc (.cells #[.int .i64 r.g.id, .int .i64 r.g.holder, .string r.g.path, .int .i64 r.g.mode, (.slice A r.g.stamp.length c), .int .i64 r.g.term] 26) = y0 at HT ⊢
  obtain ⟨c0, c1, c2', c3, c4, c5, c6, c7, c8, c9, c10, c11⟩ := rec_cells HT.out.kb
  rw [HKK.out] at c0
  obtain ⟨q0, q1, q2, q3, q4, q5⟩ := six_cells2 HT.out.gb
  go_wp2_with fail
  have HA0 := Lib.hid (HT.out.on ((Below.refl _ y0).alloc (Nat.le_refl _) (.cells (i64s [r.g.id, r.g.holder]).toArray 3)))
  refine (r11_nums (some ⟨y0.heap.size, 0, none⟩) 2 [r.g.id, r.g.holder] _ (Gw.ints_lit y0 [r.g.id, r.g.holder]) (by simp) (by omega) (by intro x hx; simp only [List.mem_cons, List.not_mem_nil, or_false] at hx; rcases hx with rfl | rfl <;> first | exact HR.out.g.wide.id | exact HR.out.g.wide.holder | exact HR.out.g.wide.mode | exact HR.out.g.wide.term | exact HR.out.id | exact HR.out.next | exact HR.out.boots | exact HR.out.longest | (unfold In64; have := HLS.out; omega)) (by simp)).mono ?_
  rintro e x0 ⟨p0, rfl, hq, hb⟩
  obtain ⟨B0, d0, hv, _, _⟩ := By.own_shape hq
  subst hv
  have HY0 := Lib.hid (show By.BytesAt x0 B0 (WM.nums [r.g.id, r.g.holder]) from By.BytesAt.own hq)
  have HQ0 := Lib.hid (HA0.out.on hb)
  have HN0 := Lib.hid (show (WM.nums [r.g.id, r.g.holder]).length ≤ 18 from rnums9 _ (by intro x hx; exact (show In64 x from (show ∀ x ∈ ([r.g.id, r.g.holder] : List Int), In64 x from (by intro x hx; simp only [List.mem_cons, List.not_mem_nil, or_false] at hx; rcases hx with rfl | rfl <;> first | exact HR.out.g.wide.id | exact HR.out.g.wide.holder | exact HR.out.g.wide.mode | exact HR.out.g.wide.term | exact HR.out.id | exact HR.out.next | exact HR.out.boots | exact HR.out.longest | (unfold In64; have := HLS.out; omega))) x hx).2))
  clear hq hb HA0 HT c0 c1 c2' c3 c4 c5 c6 c7 c8 c9 c10 c11 q0 q1 q2 q3 q4 q5
  go_upto_region 13 with (at_builtin; refine Gw.app_more rfl (.tmp 38) (.tmp 44) rfl w.heap.size (.slice A3 L0.length cz3) (L0) (WM.nums [r.g.id, r.g.holder]) B0 _ d0 HQ0.out.grow.row HY0.out rfl (by have := HN.out; have := HN0.out; omega) HQ0.out.grow.below.size rfl rfl ?_; intro u0 y1 k1 k2 k3; have HM0 := Lib.hid (HQ0.out.app k1 k2); have HE0 := Lib.hid (show (L0 ++ WM.nums [r.g.id, r.g.holder]).length ≤ 27 by rw [List.length_append]; have := HN.out; have := HN0.out; omega); clear k1 k2 k3)
  generalize hM : L0 ++ WM.nums [r.g.id, r.g.holder] = M0 at HM0 HE0
  have HL1 := Lib.hid hM
  clear hM
  obtain ⟨c0, c1, c2', c3, c4, c5, c6, c7, c8, c9, c10, c11⟩ := rec_cells HM0.out.kb
  rw [HKK.out] at c0
  obtain ⟨q0, q1, q2, q3, q4, q5⟩ := six_cells2 HM0.out.gb
  go_wp2_with fail
  refine (Oct.RefText_any r.g.path _ HR.out.g.wide.path).mono ?_
  rintro e x1 ⟨p1, rfl, hq, hb⟩
  obtain ⟨B1, d1, hv, _, _⟩ := By.own_shape hq
  subst hv
  have HY1 := Lib.hid (show By.BytesAt x1 B1 (OM.encT r.g.path.data.toList) from By.BytesAt.own hq)
  have HQ1 := Lib.hid (HM0.out.on hb)
  have HN1 := Lib.hid (show (OM.encT r.g.path.data.toList).length ≤ 140737488351241 from by rw [OM.encT, List.length_append]; have h := OM.enc_nine (n := r.g.path.data.toList.length) (by have := HR.out.g.wide.path; have e : r.g.path.data.toList.length = r.g.path.size := rfl; omega); have := HR.out.g.wide.path; have e : r.g.path.data.toList.length = r.g.path.size := rfl; omega)
  clear hq hb HM0 c0 c1 c2' c3 c4 c5 c6 c7 c8 c9 c10 c11 q0 q1 q2 q3 q4 q5
  go_upto_region 14 with (at_builtin; refine Gw.app_more rfl (.tmp 46) (.tmp 49) rfl w.heap.size u0 (M0) (OM.encT r.g.path.data.toList) B1 _ d1 HQ1.out.grow.row HY1.out rfl (by have := HE0.out; have := HN1.out; omega) HQ1.out.grow.below.size rfl rfl ?_; intro u1 y2 k1 k2 k3; have HM1 := Lib.hid (HQ1.out.app k1 k2); have HE1 := Lib.hid (show (M0 ++ OM.encT r.g.path.data.toList).length ≤ 140737488351268 by rw [List.length_append]; have := HE0.out; have := HN1.out; omega); clear k1 k2 k3)
  generalize hM : M0 ++ OM.encT r.g.path.data.toList = M1 at HM1 HE1
  have HL2 := Lib.hid hM
  clear hM
  obtain ⟨c0, c1, c2', c3, c4, c5, c6, c7, c8, c9, c10, c11⟩ := rec_cells HM1.out.kb
  rw [HKK.out] at c0
  obtain ⟨q0, q1, q2, q3, q4, q5⟩ := six_cells2 HM1.out.gb
  go_wp2_with fail
  have HA2 := Lib.hid (HM1.out.on ((Below.refl _ y2).alloc (Nat.le_refl _) (.cells (i64s [r.g.mode, r.g.term, (r.g.stamp.length : Int)]).toArray 3)))
  refine (r11_nums (some ⟨y2.heap.size, 0, none⟩) 3 [r.g.mode, r.g.term, (r.g.stamp.length : Int)] _ (Gw.ints_lit y2 [r.g.mode, r.g.term, (r.g.stamp.length : Int)]) (by simp) (by omega) (by intro x hx; simp only [List.mem_cons, List.not_mem_nil, or_false] at hx; rcases hx with rfl | rfl | rfl <;> first | exact HR.out.g.wide.id | exact HR.out.g.wide.holder | exact HR.out.g.wide.mode | exact HR.out.g.wide.term | exact HR.out.id | exact HR.out.next | exact HR.out.boots | exact HR.out.longest | (unfold In64; have := HLS.out; omega)) (by simp)).mono ?_
  rintro e x2 ⟨p2, rfl, hq, hb⟩
  obtain ⟨B2, d2, hv, _, _⟩ := By.own_shape hq
  subst hv
  have HY2 := Lib.hid (show By.BytesAt x2 B2 (WM.nums [r.g.mode, r.g.term, (r.g.stamp.length : Int)]) from By.BytesAt.own hq)
  have HQ2 := Lib.hid (HA2.out.on hb)
  have HN2 := Lib.hid (show (WM.nums [r.g.mode, r.g.term, (r.g.stamp.length : Int)]).length ≤ 27 from rnums9 _ (by intro x hx; exact (show In64 x from (show ∀ x ∈ ([r.g.mode, r.g.term, (r.g.stamp.length : Int)] : List Int), In64 x from (by intro x hx; simp only [List.mem_cons, List.not_mem_nil, or_false] at hx; rcases hx with rfl | rfl | rfl <;> first | exact HR.out.g.wide.id | exact HR.out.g.wide.holder | exact HR.out.g.wide.mode | exact HR.out.g.wide.term | exact HR.out.id | exact HR.out.next | exact HR.out.boots | exact HR.out.longest | (unfold In64; have := HLS.out; omega))) x hx).2))
  clear hq hb HA2 HM1 c0 c1 c2' c3 c4 c5 c6 c7 c8 c9 c10 c11 q0 q1 q2 q3 q4 q5
  go_upto_region 15 with (at_builtin; refine Gw.app_more rfl (.tmp 51) (.tmp 60) rfl w.heap.size u1 (M1) (WM.nums [r.g.mode, r.g.term, (r.g.stamp.length : Int)]) B2 _ d2 HQ2.out.grow.row HY2.out rfl (by have := HE1.out; have := HN2.out; omega) HQ2.out.grow.below.size rfl rfl ?_; intro u2 y3 k1 k2 k3; have HM2 := Lib.hid (HQ2.out.app k1 k2); have HE2 := Lib.hid (show (M1 ++ WM.nums [r.g.mode, r.g.term, (r.g.stamp.length : Int)]).length ≤ 140737488351295 by rw [List.length_append]; have := HE1.out; have := HN2.out; omega); clear k1 k2 k3)
  generalize hM : M1 ++ WM.nums [r.g.mode, r.g.term, (r.g.stamp.length : Int)] = M2 at HM2 HE2
  have HL3 := Lib.hid hM
  clear hM
  obtain ⟨c0, c1, c2', c3, c4, c5, c6, c7, c8, c9, c10, c11⟩ := rec_cells HM2.out.kb
  rw [HKK.out] at c0
  obtain ⟨q0, q1, q2, q3, q4, q5⟩ := six_cells2 HM2.out.gb
  go_wp2_with fail
  refine (r11_nums A c r.g.stamp _ (HSA.out.ints.below HM2.out.grow.below) HSA.out.le HSA.out.cap HSA.out.rng (by have := HLS.out; omega)).mono ?_
  rintro e x3 ⟨p3, rfl, hq, hb⟩
  obtain ⟨B3, d3, hv, _, _⟩ := By.own_shape hq
  subst hv
  have HY3 := Lib.hid (show By.BytesAt x3 B3 (WM.nums r.g.stamp) from By.BytesAt.own hq)
  have HQ3 := Lib.hid (HM2.out.on hb)
  have HN3 := Lib.hid (show (WM.nums r.g.stamp).length ≤ 36 by have := rnums9 r.g.stamp (fun x hx => (HSA.out.rng x hx).2); have := HLS.out; omega)
  clear hq hb HM2 c0 c1 c2' c3 c4 c5 c6 c7 c8 c9 c10 c11 q0 q1 q2 q3 q4 q5
  go_wp2_with (at_builtin; refine Gw.app_more rfl (.tmp 62) (.tmp 65) rfl w.heap.size u2 (M2) (WM.nums r.g.stamp) B3 _ d3 HQ3.out.grow.row HY3.out rfl (by have := HE2.out; have := HN3.out; omega) HQ3.out.grow.below.size rfl rfl ?_; intro u3 y4 k1 k2 k3; have HM3 := Lib.hid (HQ3.out.app k1 k2); have HE3 := Lib.hid (show (M2 ++ WM.nums r.g.stamp).length ≤ 140737488351331 by rw [List.length_append]; have := HE2.out; have := HN3.out; omega); clear k1 k2 k3)
  generalize hM : M2 ++ WM.nums r.g.stamp = M3 at HM3 HE3
  have HL4 := Lib.hid hM
  clear hM
  have HBD := Lib.hid (show BM.laid r = M3 by rw [← HL4.out, ← HL3.out, ← HL2.out, ← HL1.out, ← HL0.out]; unfold BM.laid BM.partB; simp [HKK.out, BM.grantB, WM.nums, WM.stampB])
  go_ret2
  refine (enc_post HOR.out (by rw [HBD.out]) HM3.out.grow)
set_option maxHeartbeats 8000000 in
theorem e11_4 (V U : Value) (r : Rc) (w : World) (h : FitR w V U r) (hor : BM.okRc r = true) (hk : r.kind = 4) :
    Calls Try.prog 7 #[.agg (twelve r V U)] w (EncPost w r) := by
  obtain ⟨A, c, hs, hsA⟩ := h.g.hd
  obtain ⟨B, d, hu, hsB⟩ := h.st
  subst hs hu
  have HSA := Lib.hid hsA
  have HSB := Lib.hid hsB
  have HR := Lib.hid h
  have HOR := Lib.hid hor
  have HKK := Lib.hid hk
  have HLS := Lib.hid ((st_len hor).1 (.inr hk))
  clear h hor hk hsA hsB
  have HX := Lib.hid ((Below.refl _ w).alloc (Nat.le_refl _) (.cells (twelve r (.slice A r.g.stamp.length c) (.slice B r.stamp.length d)) 28))
  have HK := Lib.hid (Whole.new w 28 (twelve r (.slice A r.g.stamp.length c) (.slice B r.stamp.length d)))
  have HRB := Lib.hid (HR.out.below HX.out)
  go_enter Try.func7, Try.ntmps7
  go_upto_region 1 with (fail)
  generalize w.alloc (.cells (twelve r (.slice A r.g.stamp.length c) (.slice B r.stamp.length d)) 28) = w1 at HX HK HRB ⊢
  obtain ⟨c0, c1, c2', c3, c4, c5, c6, c7, c8, c9, c10, c11⟩ := rec_cells HK.out
  go_wp2_with fail
  refine (r_Rec (.slice A r.g.stamp.length c) (.slice B r.stamp.length d) r w1 HRB.out).mono ?_
  rw [HOR.out]
  rintro e w2 ⟨rfl, hb2⟩
  have HX2 := Lib.hid (below_on HX.out hb2)
  have HK2 := Lib.hid ((Mod.of_below hb2 []).whole HK.out (by simp))
  clear hb2 HX HK HRB c0 c1 c2' c3 c4 c5 c6 c7 c8 c9 c10 c11
  obtain ⟨c0, c1, c2', c3, c4, c5, c6, c7, c8, c9, c10, c11⟩ := rec_cells HK2.out
  rw [HKK.out] at c0
  go_wp2_with fail
  refine (r11_nums (some ⟨w2.heap.size, 0, none⟩) 1 [4] _ (Gw.ints_lit w2 [4]) (by simp) (by omega) (by intro x hx; simp only [List.mem_cons, List.not_mem_nil, or_false] at hx; subst hx; unfold In64; omega) (by simp)).mono ?_
  rintro e w3 ⟨v3, rfl, h3, hb3⟩
  have HB3 := Lib.hid (((Below.refl _ w2).alloc (Nat.le_refl _) (.cells (i64s [4]).toArray 3)).trans (hb3.mono (by simp)))
  have HG3 := Lib.hid (show Gw.Grow w (WM.nums [4]) v3 w3 from ⟨gw_base h3 (by have := HX2.out.size; simp; omega), below_on HX2.out HB3.out⟩)
  have HK3 := Lib.hid ((Mod.of_below HB3.out []).whole HK2.out (by simp))
  obtain ⟨A3, cz3, e3, _, _⟩ := By.own_shape h3
  subst e3
  clear h3 hb3 HB3 HK2 HX2 c0 c1 c2' c3 c4 c5 c6 c7 c8 c9 c10 c11
  have HN := Lib.hid (show (WM.nums [4]).length ≤ 9 from rnums9 _ (by intro x hx; simp only [List.mem_cons, List.not_mem_nil, or_false] at hx; subst hx; omega))
  generalize hL : WM.nums [4] = L0 at HG3 HN ⊢
  have HL0 := Lib.hid hL
  clear hL
  obtain ⟨c0, c1, c2', c3, c4, c5, c6, c7, c8, c9, c10, c11⟩ := rec_cells HK3.out
  rw [HKK.out] at c0
  go_upto_region 5 with (fail)
  have HT := Lib.hid (show E11 w r (.slice A r.g.stamp.length c) (.slice B r.stamp.length d) w3.heap.size L0 (.slice A3 L0.length cz3) (w3.alloc (.cells (six r.g (.slice A r.g.stamp.length c)) 26)) from ⟨HK3.out.alloc _, Whole.new w3 _ _, HG3.out.on ((Below.refl _ w3).alloc (Nat.le_refl _) _)⟩)
  unfold six at HT
  clear HG3 HK3 c0 c1 c2' c3 c4 c5 c6 c7 c8 c9 c10 c11
  generalize w3.alloc (.cells #[.int .i64 r.g.id, .int .i64 r.g.holder, .string r.g.path, .int .i64 r.g.mode, (.slice A r.g.stamp.length c), .int .i64 r.g.term] 26) = y0 at HT ⊢
  obtain ⟨c0, c1, c2', c3, c4, c5, c6, c7, c8, c9, c10, c11⟩ := rec_cells HT.out.kb
  rw [HKK.out] at c0
  obtain ⟨q0, q1, q2, q3, q4, q5⟩ := six_cells2 HT.out.gb
  go_wp2_with fail
  have HA0 := Lib.hid (HT.out.on ((Below.refl _ y0).alloc (Nat.le_refl _) (.cells (i64s [r.g.id, r.g.holder]).toArray 3)))
  refine (r11_nums (some ⟨y0.heap.size, 0, none⟩) 2 [r.g.id, r.g.holder] _ (Gw.ints_lit y0 [r.g.id, r.g.holder]) (by simp) (by omega) (by intro x hx; simp only [List.mem_cons, List.not_mem_nil, or_false] at hx; rcases hx with rfl | rfl <;> first | exact HR.out.g.wide.id | exact HR.out.g.wide.holder | exact HR.out.g.wide.mode | exact HR.out.g.wide.term | exact HR.out.id | exact HR.out.next | exact HR.out.boots | exact HR.out.longest | (unfold In64; have := HLS.out; omega)) (by simp)).mono ?_
  rintro e x0 ⟨p0, rfl, hq, hb⟩
  obtain ⟨B0, d0, hv, _, _⟩ := By.own_shape hq
  subst hv
  have HY0 := Lib.hid (show By.BytesAt x0 B0 (WM.nums [r.g.id, r.g.holder]) from By.BytesAt.own hq)
  have HQ0 := Lib.hid (HA0.out.on hb)
  have HN0 := Lib.hid (show (WM.nums [r.g.id, r.g.holder]).length ≤ 18 from rnums9 _ (by intro x hx; exact (show In64 x from (show ∀ x ∈ ([r.g.id, r.g.holder] : List Int), In64 x from (by intro x hx; simp only [List.mem_cons, List.not_mem_nil, or_false] at hx; rcases hx with rfl | rfl <;> first | exact HR.out.g.wide.id | exact HR.out.g.wide.holder | exact HR.out.g.wide.mode | exact HR.out.g.wide.term | exact HR.out.id | exact HR.out.next | exact HR.out.boots | exact HR.out.longest | (unfold In64; have := HLS.out; omega))) x hx).2))
  clear hq hb HA0 HT c0 c1 c2' c3 c4 c5 c6 c7 c8 c9 c10 c11 q0 q1 q2 q3 q4 q5
  go_upto_region 13 with (at_builtin; refine Gw.app_more rfl (.tmp 38) (.tmp 44) rfl w.heap.size (.slice A3 L0.length cz3) (L0) (WM.nums [r.g.id, r.g.holder]) B0 _ d0 HQ0.out.grow.row HY0.out rfl (by have := HN.out; have := HN0.out; omega) HQ0.out.grow.below.size rfl rfl ?_; intro u0 y1 k1 k2 k3; have HM0 := Lib.hid (HQ0.out.app k1 k2); have HE0 := Lib.hid (show (L0 ++ WM.nums [r.g.id, r.g.holder]).length ≤ 27 by rw [List.length_append]; have := HN.out; have := HN0.out; omega); clear k1 k2 k3)
  generalize hM : L0 ++ WM.nums [r.g.id, r.g.holder] = M0 at HM0 HE0
  have HL1 := Lib.hid hM
  clear hM
  obtain ⟨c0, c1, c2', c3, c4, c5, c6, c7, c8, c9, c10, c11⟩ := rec_cells HM0.out.kb
  rw [HKK.out] at c0
  obtain ⟨q0, q1, q2, q3, q4, q5⟩ := six_cells2 HM0.out.gb
  go_wp2_with fail
  refine (Oct.RefText_any r.g.path _ HR.out.g.wide.path).mono ?_
  rintro e x1 ⟨p1, rfl, hq, hb⟩
  obtain ⟨B1, d1, hv, _, _⟩ := By.own_shape hq
  subst hv
  have HY1 := Lib.hid (show By.BytesAt x1 B1 (OM.encT r.g.path.data.toList) from By.BytesAt.own hq)
  have HQ1 := Lib.hid (HM0.out.on hb)
  have HN1 := Lib.hid (show (OM.encT r.g.path.data.toList).length ≤ 140737488351241 from by rw [OM.encT, List.length_append]; have h := OM.enc_nine (n := r.g.path.data.toList.length) (by have := HR.out.g.wide.path; have e : r.g.path.data.toList.length = r.g.path.size := rfl; omega); have := HR.out.g.wide.path; have e : r.g.path.data.toList.length = r.g.path.size := rfl; omega)
  clear hq hb HM0 c0 c1 c2' c3 c4 c5 c6 c7 c8 c9 c10 c11 q0 q1 q2 q3 q4 q5
  go_upto_region 14 with (at_builtin; refine Gw.app_more rfl (.tmp 46) (.tmp 49) rfl w.heap.size u0 (M0) (OM.encT r.g.path.data.toList) B1 _ d1 HQ1.out.grow.row HY1.out rfl (by have := HE0.out; have := HN1.out; omega) HQ1.out.grow.below.size rfl rfl ?_; intro u1 y2 k1 k2 k3; have HM1 := Lib.hid (HQ1.out.app k1 k2); have HE1 := Lib.hid (show (M0 ++ OM.encT r.g.path.data.toList).length ≤ 140737488351268 by rw [List.length_append]; have := HE0.out; have := HN1.out; omega); clear k1 k2 k3)
  generalize hM : M0 ++ OM.encT r.g.path.data.toList = M1 at HM1 HE1
  have HL2 := Lib.hid hM
  clear hM
  obtain ⟨c0, c1, c2', c3, c4, c5, c6, c7, c8, c9, c10, c11⟩ := rec_cells HM1.out.kb
  rw [HKK.out] at c0
  obtain ⟨q0, q1, q2, q3, q4, q5⟩ := six_cells2 HM1.out.gb
  go_wp2_with fail
  have HA2 := Lib.hid (HM1.out.on ((Below.refl _ y2).alloc (Nat.le_refl _) (.cells (i64s [r.g.mode, r.g.term, (r.g.stamp.length : Int)]).toArray 3)))
  refine (r11_nums (some ⟨y2.heap.size, 0, none⟩) 3 [r.g.mode, r.g.term, (r.g.stamp.length : Int)] _ (Gw.ints_lit y2 [r.g.mode, r.g.term, (r.g.stamp.length : Int)]) (by simp) (by omega) (by intro x hx; simp only [List.mem_cons, List.not_mem_nil, or_false] at hx; rcases hx with rfl | rfl | rfl <;> first | exact HR.out.g.wide.id | exact HR.out.g.wide.holder | exact HR.out.g.wide.mode | exact HR.out.g.wide.term | exact HR.out.id | exact HR.out.next | exact HR.out.boots | exact HR.out.longest | (unfold In64; have := HLS.out; omega)) (by simp)).mono ?_
  rintro e x2 ⟨p2, rfl, hq, hb⟩
  obtain ⟨B2, d2, hv, _, _⟩ := By.own_shape hq
  subst hv
  have HY2 := Lib.hid (show By.BytesAt x2 B2 (WM.nums [r.g.mode, r.g.term, (r.g.stamp.length : Int)]) from By.BytesAt.own hq)
  have HQ2 := Lib.hid (HA2.out.on hb)
  have HN2 := Lib.hid (show (WM.nums [r.g.mode, r.g.term, (r.g.stamp.length : Int)]).length ≤ 27 from rnums9 _ (by intro x hx; exact (show In64 x from (show ∀ x ∈ ([r.g.mode, r.g.term, (r.g.stamp.length : Int)] : List Int), In64 x from (by intro x hx; simp only [List.mem_cons, List.not_mem_nil, or_false] at hx; rcases hx with rfl | rfl | rfl <;> first | exact HR.out.g.wide.id | exact HR.out.g.wide.holder | exact HR.out.g.wide.mode | exact HR.out.g.wide.term | exact HR.out.id | exact HR.out.next | exact HR.out.boots | exact HR.out.longest | (unfold In64; have := HLS.out; omega))) x hx).2))
  clear hq hb HA2 HM1 c0 c1 c2' c3 c4 c5 c6 c7 c8 c9 c10 c11 q0 q1 q2 q3 q4 q5
  go_upto_region 15 with (at_builtin; refine Gw.app_more rfl (.tmp 51) (.tmp 60) rfl w.heap.size u1 (M1) (WM.nums [r.g.mode, r.g.term, (r.g.stamp.length : Int)]) B2 _ d2 HQ2.out.grow.row HY2.out rfl (by have := HE1.out; have := HN2.out; omega) HQ2.out.grow.below.size rfl rfl ?_; intro u2 y3 k1 k2 k3; have HM2 := Lib.hid (HQ2.out.app k1 k2); have HE2 := Lib.hid (show (M1 ++ WM.nums [r.g.mode, r.g.term, (r.g.stamp.length : Int)]).length ≤ 140737488351295 by rw [List.length_append]; have := HE1.out; have := HN2.out; omega); clear k1 k2 k3)
  generalize hM : M1 ++ WM.nums [r.g.mode, r.g.term, (r.g.stamp.length : Int)] = M2 at HM2 HE2
  have HL3 := Lib.hid hM
  clear hM
  obtain ⟨c0, c1, c2', c3, c4, c5, c6, c7, c8, c9, c10, c11⟩ := rec_cells HM2.out.kb
  rw [HKK.out] at c0
  obtain ⟨q0, q1, q2, q3, q4, q5⟩ := six_cells2 HM2.out.gb
  go_wp2_with fail
  refine (r11_nums A c r.g.stamp _ (HSA.out.ints.below HM2.out.grow.below) HSA.out.le HSA.out.cap HSA.out.rng (by have := HLS.out; omega)).mono ?_
  rintro e x3 ⟨p3, rfl, hq, hb⟩
  obtain ⟨B3, d3, hv, _, _⟩ := By.own_shape hq
  subst hv
  have HY3 := Lib.hid (show By.BytesAt x3 B3 (WM.nums r.g.stamp) from By.BytesAt.own hq)
  have HQ3 := Lib.hid (HM2.out.on hb)
  have HN3 := Lib.hid (show (WM.nums r.g.stamp).length ≤ 36 by have := rnums9 r.g.stamp (fun x hx => (HSA.out.rng x hx).2); have := HLS.out; omega)
  clear hq hb HM2 c0 c1 c2' c3 c4 c5 c6 c7 c8 c9 c10 c11 q0 q1 q2 q3 q4 q5
  go_wp2_with (at_builtin; refine Gw.app_more rfl (.tmp 62) (.tmp 65) rfl w.heap.size u2 (M2) (WM.nums r.g.stamp) B3 _ d3 HQ3.out.grow.row HY3.out rfl (by have := HE2.out; have := HN3.out; omega) HQ3.out.grow.below.size rfl rfl ?_; intro u3 y4 k1 k2 k3; have HM3 := Lib.hid (HQ3.out.app k1 k2); have HE3 := Lib.hid (show (M2 ++ WM.nums r.g.stamp).length ≤ 140737488351331 by rw [List.length_append]; have := HE2.out; have := HN3.out; omega); clear k1 k2 k3)
  generalize hM : M2 ++ WM.nums r.g.stamp = M3 at HM3 HE3
  have HL4 := Lib.hid hM
  clear hM
  have HBD := Lib.hid (show BM.laid r = M3 by rw [← HL4.out, ← HL3.out, ← HL2.out, ← HL1.out, ← HL0.out]; unfold BM.laid BM.partB; simp [HKK.out, BM.grantB, WM.nums, WM.stampB])
  go_ret2
  refine (enc_post HOR.out (by rw [HBD.out]) HM3.out.grow)
set_option maxHeartbeats 8000000 in
theorem e11_5 (V U : Value) (r : Rc) (w : World) (h : FitR w V U r) (hor : BM.okRc r = true) (hk : r.kind = 5) :
    Calls Try.prog 7 #[.agg (twelve r V U)] w (EncPost w r) := by
  obtain ⟨A, c, hs, hsA⟩ := h.g.hd
  obtain ⟨B, d, hu, hsB⟩ := h.st
  subst hs hu
  have HSA := Lib.hid hsA
  have HSB := Lib.hid hsB
  have HR := Lib.hid h
  have HOR := Lib.hid hor
  have HKK := Lib.hid hk
  have HLS := Lib.hid ((st_len hor).2 hk)
  clear h hor hk hsA hsB
  have HX := Lib.hid ((Below.refl _ w).alloc (Nat.le_refl _) (.cells (twelve r (.slice A r.g.stamp.length c) (.slice B r.stamp.length d)) 28))
  have HK := Lib.hid (Whole.new w 28 (twelve r (.slice A r.g.stamp.length c) (.slice B r.stamp.length d)))
  have HRB := Lib.hid (HR.out.below HX.out)
  go_enter Try.func7, Try.ntmps7
  go_upto_region 1 with (fail)
  generalize w.alloc (.cells (twelve r (.slice A r.g.stamp.length c) (.slice B r.stamp.length d)) 28) = w1 at HX HK HRB ⊢
  obtain ⟨c0, c1, c2', c3, c4, c5, c6, c7, c8, c9, c10, c11⟩ := rec_cells HK.out
  go_wp2_with fail
  refine (r_Rec (.slice A r.g.stamp.length c) (.slice B r.stamp.length d) r w1 HRB.out).mono ?_
  rw [HOR.out]
  rintro e w2 ⟨rfl, hb2⟩
  have HX2 := Lib.hid (below_on HX.out hb2)
  have HK2 := Lib.hid ((Mod.of_below hb2 []).whole HK.out (by simp))
  clear hb2 HX HK HRB c0 c1 c2' c3 c4 c5 c6 c7 c8 c9 c10 c11
  obtain ⟨c0, c1, c2', c3, c4, c5, c6, c7, c8, c9, c10, c11⟩ := rec_cells HK2.out
  rw [HKK.out] at c0
  go_wp2_with fail
  refine (r11_nums (some ⟨w2.heap.size, 0, none⟩) 1 [5] _ (Gw.ints_lit w2 [5]) (by simp) (by omega) (by intro x hx; simp only [List.mem_cons, List.not_mem_nil, or_false] at hx; subst hx; unfold In64; omega) (by simp)).mono ?_
  rintro e w3 ⟨v3, rfl, h3, hb3⟩
  have HB3 := Lib.hid (((Below.refl _ w2).alloc (Nat.le_refl _) (.cells (i64s [5]).toArray 3)).trans (hb3.mono (by simp)))
  have HG3 := Lib.hid (show Gw.Grow w (WM.nums [5]) v3 w3 from ⟨gw_base h3 (by have := HX2.out.size; simp; omega), below_on HX2.out HB3.out⟩)
  have HK3 := Lib.hid ((Mod.of_below HB3.out []).whole HK2.out (by simp))
  obtain ⟨A3, cz3, e3, _, _⟩ := By.own_shape h3
  subst e3
  clear h3 hb3 HB3 HK2 HX2 c0 c1 c2' c3 c4 c5 c6 c7 c8 c9 c10 c11
  have HN := Lib.hid (show (WM.nums [5]).length ≤ 9 from rnums9 _ (by intro x hx; simp only [List.mem_cons, List.not_mem_nil, or_false] at hx; subst hx; omega))
  generalize hL : WM.nums [5] = L0 at HG3 HN ⊢
  have HL0 := Lib.hid hL
  clear hL
  obtain ⟨c0, c1, c2', c3, c4, c5, c6, c7, c8, c9, c10, c11⟩ := rec_cells HK3.out
  rw [HKK.out] at c0
  go_upto_region 5 with (fail)
  have HT := Lib.hid (show E11 w r (.slice A r.g.stamp.length c) (.slice B r.stamp.length d) w3.heap.size L0 (.slice A3 L0.length cz3) (w3.alloc (.cells (six r.g (.slice A r.g.stamp.length c)) 26)) from ⟨HK3.out.alloc _, Whole.new w3 _ _, HG3.out.on ((Below.refl _ w3).alloc (Nat.le_refl _) _)⟩)
  unfold six at HT
  clear HG3 HK3 c0 c1 c2' c3 c4 c5 c6 c7 c8 c9 c10 c11
  generalize w3.alloc (.cells #[.int .i64 r.g.id, .int .i64 r.g.holder, .string r.g.path, .int .i64 r.g.mode, (.slice A r.g.stamp.length c), .int .i64 r.g.term] 26) = y0 at HT ⊢
  obtain ⟨c0, c1, c2', c3, c4, c5, c6, c7, c8, c9, c10, c11⟩ := rec_cells HT.out.kb
  rw [HKK.out] at c0
  obtain ⟨q0, q1, q2, q3, q4, q5⟩ := six_cells2 HT.out.gb
  go_wp2_with fail
  have HA0 := Lib.hid (HT.out.on ((Below.refl _ y0).alloc (Nat.le_refl _) (.cells (i64s [r.id, (r.stamp.length : Int)]).toArray 3)))
  refine (r11_nums (some ⟨y0.heap.size, 0, none⟩) 2 [r.id, (r.stamp.length : Int)] _ (Gw.ints_lit y0 [r.id, (r.stamp.length : Int)]) (by simp) (by omega) (by intro x hx; simp only [List.mem_cons, List.not_mem_nil, or_false] at hx; rcases hx with rfl | rfl <;> first | exact HR.out.g.wide.id | exact HR.out.g.wide.holder | exact HR.out.g.wide.mode | exact HR.out.g.wide.term | exact HR.out.id | exact HR.out.next | exact HR.out.boots | exact HR.out.longest | (unfold In64; have := HLS.out; omega)) (by simp)).mono ?_
  rintro e x0 ⟨p0, rfl, hq, hb⟩
  obtain ⟨B0, d0, hv, _, _⟩ := By.own_shape hq
  subst hv
  have HY0 := Lib.hid (show By.BytesAt x0 B0 (WM.nums [r.id, (r.stamp.length : Int)]) from By.BytesAt.own hq)
  have HQ0 := Lib.hid (HA0.out.on hb)
  have HN0 := Lib.hid (show (WM.nums [r.id, (r.stamp.length : Int)]).length ≤ 18 from rnums9 _ (by intro x hx; exact (show In64 x from (show ∀ x ∈ ([r.id, (r.stamp.length : Int)] : List Int), In64 x from (by intro x hx; simp only [List.mem_cons, List.not_mem_nil, or_false] at hx; rcases hx with rfl | rfl <;> first | exact HR.out.g.wide.id | exact HR.out.g.wide.holder | exact HR.out.g.wide.mode | exact HR.out.g.wide.term | exact HR.out.id | exact HR.out.next | exact HR.out.boots | exact HR.out.longest | (unfold In64; have := HLS.out; omega))) x hx).2))
  clear hq hb HA0 HT c0 c1 c2' c3 c4 c5 c6 c7 c8 c9 c10 c11 q0 q1 q2 q3 q4 q5
  go_upto_region 18 with (at_builtin; refine Gw.app_more rfl (.tmp 69) (.tmp 76) rfl w.heap.size (.slice A3 L0.length cz3) (L0) (WM.nums [r.id, (r.stamp.length : Int)]) B0 _ d0 HQ0.out.grow.row HY0.out rfl (by have := HN.out; have := HN0.out; omega) HQ0.out.grow.below.size rfl rfl ?_; intro u0 y1 k1 k2 k3; have HM0 := Lib.hid (HQ0.out.app k1 k2); have HE0 := Lib.hid (show (L0 ++ WM.nums [r.id, (r.stamp.length : Int)]).length ≤ 27 by rw [List.length_append]; have := HN.out; have := HN0.out; omega); clear k1 k2 k3)
  generalize hM : L0 ++ WM.nums [r.id, (r.stamp.length : Int)] = M0 at HM0 HE0
  have HL1 := Lib.hid hM
  clear hM
  obtain ⟨c0, c1, c2', c3, c4, c5, c6, c7, c8, c9, c10, c11⟩ := rec_cells HM0.out.kb
  rw [HKK.out] at c0
  obtain ⟨q0, q1, q2, q3, q4, q5⟩ := six_cells2 HM0.out.gb
  go_wp2_with fail
  refine (r11_nums B d r.stamp _ (HSB.out.ints.below HM0.out.grow.below) HSB.out.le HSB.out.cap HSB.out.rng (by have := HLS.out; omega)).mono ?_
  rintro e x1 ⟨p1, rfl, hq, hb⟩
  obtain ⟨B1, d1, hv, _, _⟩ := By.own_shape hq
  subst hv
  have HY1 := Lib.hid (show By.BytesAt x1 B1 (WM.nums r.stamp) from By.BytesAt.own hq)
  have HQ1 := Lib.hid (HM0.out.on hb)
  have HN1 := Lib.hid (show (WM.nums r.stamp).length ≤ 36 by have := rnums9 r.stamp (fun x hx => (HSB.out.rng x hx).2); have := HLS.out; omega)
  clear hq hb HM0 c0 c1 c2' c3 c4 c5 c6 c7 c8 c9 c10 c11 q0 q1 q2 q3 q4 q5
  go_wp2_with (at_builtin; refine Gw.app_more rfl (.tmp 78) (.tmp 81) rfl w.heap.size u0 (M0) (WM.nums r.stamp) B1 _ d1 HQ1.out.grow.row HY1.out rfl (by have := HE0.out; have := HN1.out; omega) HQ1.out.grow.below.size rfl rfl ?_; intro u1 y2 k1 k2 k3; have HM1 := Lib.hid (HQ1.out.app k1 k2); have HE1 := Lib.hid (show (M0 ++ WM.nums r.stamp).length ≤ 63 by rw [List.length_append]; have := HE0.out; have := HN1.out; omega); clear k1 k2 k3)
  generalize hM : M0 ++ WM.nums r.stamp = M1 at HM1 HE1
  have HL2 := Lib.hid hM
  clear hM
  have HBD := Lib.hid (show BM.laid r = M1 by rw [← HL2.out, ← HL1.out, ← HL0.out]; unfold BM.laid BM.partB; simp [HKK.out, BM.grantB, WM.nums, WM.stampB])
  go_ret2
  refine (enc_post HOR.out (by rw [HBD.out]) HM1.out.grow)
set_option maxHeartbeats 8000000 in
theorem e11_6 (V U : Value) (r : Rc) (w : World) (h : FitR w V U r) (hor : BM.okRc r = true) (hk : r.kind = 6) :
    Calls Try.prog 7 #[.agg (twelve r V U)] w (EncPost w r) := by
  obtain ⟨A, c, hs, hsA⟩ := h.g.hd
  obtain ⟨B, d, hu, hsB⟩ := h.st
  subst hs hu
  have HSA := Lib.hid hsA
  have HSB := Lib.hid hsB
  have HR := Lib.hid h
  have HOR := Lib.hid hor
  have HKK := Lib.hid hk
  have HLS := Lib.hid (st_len hor)
  clear h hor hk hsA hsB
  have HX := Lib.hid ((Below.refl _ w).alloc (Nat.le_refl _) (.cells (twelve r (.slice A r.g.stamp.length c) (.slice B r.stamp.length d)) 28))
  have HK := Lib.hid (Whole.new w 28 (twelve r (.slice A r.g.stamp.length c) (.slice B r.stamp.length d)))
  have HRB := Lib.hid (HR.out.below HX.out)
  go_enter Try.func7, Try.ntmps7
  go_upto_region 1 with (fail)
  generalize w.alloc (.cells (twelve r (.slice A r.g.stamp.length c) (.slice B r.stamp.length d)) 28) = w1 at HX HK HRB ⊢
  obtain ⟨c0, c1, c2', c3, c4, c5, c6, c7, c8, c9, c10, c11⟩ := rec_cells HK.out
  go_wp2_with fail
  refine (r_Rec (.slice A r.g.stamp.length c) (.slice B r.stamp.length d) r w1 HRB.out).mono ?_
  rw [HOR.out]
  rintro e w2 ⟨rfl, hb2⟩
  have HX2 := Lib.hid (below_on HX.out hb2)
  have HK2 := Lib.hid ((Mod.of_below hb2 []).whole HK.out (by simp))
  clear hb2 HX HK HRB c0 c1 c2' c3 c4 c5 c6 c7 c8 c9 c10 c11
  obtain ⟨c0, c1, c2', c3, c4, c5, c6, c7, c8, c9, c10, c11⟩ := rec_cells HK2.out
  rw [HKK.out] at c0
  go_wp2_with fail
  refine (r11_nums (some ⟨w2.heap.size, 0, none⟩) 1 [6] _ (Gw.ints_lit w2 [6]) (by simp) (by omega) (by intro x hx; simp only [List.mem_cons, List.not_mem_nil, or_false] at hx; subst hx; unfold In64; omega) (by simp)).mono ?_
  rintro e w3 ⟨v3, rfl, h3, hb3⟩
  have HB3 := Lib.hid (((Below.refl _ w2).alloc (Nat.le_refl _) (.cells (i64s [6]).toArray 3)).trans (hb3.mono (by simp)))
  have HG3 := Lib.hid (show Gw.Grow w (WM.nums [6]) v3 w3 from ⟨gw_base h3 (by have := HX2.out.size; simp; omega), below_on HX2.out HB3.out⟩)
  have HK3 := Lib.hid ((Mod.of_below HB3.out []).whole HK2.out (by simp))
  obtain ⟨A3, cz3, e3, _, _⟩ := By.own_shape h3
  subst e3
  clear h3 hb3 HB3 HK2 HX2 c0 c1 c2' c3 c4 c5 c6 c7 c8 c9 c10 c11
  have HN := Lib.hid (show (WM.nums [6]).length ≤ 9 from rnums9 _ (by intro x hx; simp only [List.mem_cons, List.not_mem_nil, or_false] at hx; subst hx; omega))
  generalize hL : WM.nums [6] = L0 at HG3 HN ⊢
  have HL0 := Lib.hid hL
  clear hL
  obtain ⟨c0, c1, c2', c3, c4, c5, c6, c7, c8, c9, c10, c11⟩ := rec_cells HK3.out
  rw [HKK.out] at c0
  go_upto_region 5 with (fail)
  have HT := Lib.hid (show E11 w r (.slice A r.g.stamp.length c) (.slice B r.stamp.length d) w3.heap.size L0 (.slice A3 L0.length cz3) (w3.alloc (.cells (six r.g (.slice A r.g.stamp.length c)) 26)) from ⟨HK3.out.alloc _, Whole.new w3 _ _, HG3.out.on ((Below.refl _ w3).alloc (Nat.le_refl _) _)⟩)
  unfold six at HT
  clear HG3 HK3 c0 c1 c2' c3 c4 c5 c6 c7 c8 c9 c10 c11
  generalize w3.alloc (.cells #[.int .i64 r.g.id, .int .i64 r.g.holder, .string r.g.path, .int .i64 r.g.mode, (.slice A r.g.stamp.length c), .int .i64 r.g.term] 26) = y0 at HT ⊢
  obtain ⟨c0, c1, c2', c3, c4, c5, c6, c7, c8, c9, c10, c11⟩ := rec_cells HT.out.kb
  rw [HKK.out] at c0
  obtain ⟨q0, q1, q2, q3, q4, q5⟩ := six_cells2 HT.out.gb
  go_wp2_with fail
  have HA0 := Lib.hid (HT.out.on ((Below.refl _ y0).alloc (Nat.le_refl _) (.cells (i64s [r.id]).toArray 3)))
  refine (r11_nums (some ⟨y0.heap.size, 0, none⟩) 1 [r.id] _ (Gw.ints_lit y0 [r.id]) (by simp) (by omega) (by intro x hx; simp only [List.mem_cons, List.not_mem_nil, or_false] at hx; rcases hx with rfl <;> first | exact HR.out.g.wide.id | exact HR.out.g.wide.holder | exact HR.out.g.wide.mode | exact HR.out.g.wide.term | exact HR.out.id | exact HR.out.next | exact HR.out.boots | exact HR.out.longest | (unfold In64; have := HLS.out; omega)) (by simp)).mono ?_
  rintro e x0 ⟨p0, rfl, hq, hb⟩
  obtain ⟨B0, d0, hv, _, _⟩ := By.own_shape hq
  subst hv
  have HY0 := Lib.hid (show By.BytesAt x0 B0 (WM.nums [r.id]) from By.BytesAt.own hq)
  have HQ0 := Lib.hid (HA0.out.on hb)
  have HN0 := Lib.hid (show (WM.nums [r.id]).length ≤ 9 from rnums9 _ (by intro x hx; exact (show In64 x from (show ∀ x ∈ ([r.id] : List Int), In64 x from (by intro x hx; simp only [List.mem_cons, List.not_mem_nil, or_false] at hx; rcases hx with rfl <;> first | exact HR.out.g.wide.id | exact HR.out.g.wide.holder | exact HR.out.g.wide.mode | exact HR.out.g.wide.term | exact HR.out.id | exact HR.out.next | exact HR.out.boots | exact HR.out.longest | (unfold In64; have := HLS.out; omega))) x hx).2))
  clear hq hb HA0 HT c0 c1 c2' c3 c4 c5 c6 c7 c8 c9 c10 c11 q0 q1 q2 q3 q4 q5
  go_wp2_with (at_builtin; refine Gw.app_more rfl (.tmp 85) (.tmp 89) rfl w.heap.size (.slice A3 L0.length cz3) (L0) (WM.nums [r.id]) B0 _ d0 HQ0.out.grow.row HY0.out rfl (by have := HN.out; have := HN0.out; omega) HQ0.out.grow.below.size rfl rfl ?_; intro u0 y1 k1 k2 k3; have HM0 := Lib.hid (HQ0.out.app k1 k2); have HE0 := Lib.hid (show (L0 ++ WM.nums [r.id]).length ≤ 18 by rw [List.length_append]; have := HN.out; have := HN0.out; omega); clear k1 k2 k3)
  generalize hM : L0 ++ WM.nums [r.id] = M0 at HM0 HE0
  have HL1 := Lib.hid hM
  clear hM
  have HBD := Lib.hid (show BM.laid r = M0 by rw [← HL1.out, ← HL0.out]; unfold BM.laid BM.partB; simp [HKK.out, BM.grantB, WM.nums, WM.stampB])
  go_ret2
  refine (enc_post HOR.out (by rw [HBD.out]) HM0.out.grow)
set_option maxHeartbeats 8000000 in
theorem e11_7 (V U : Value) (r : Rc) (w : World) (h : FitR w V U r) (hor : BM.okRc r = true) (hk : r.kind = 7) :
    Calls Try.prog 7 #[.agg (twelve r V U)] w (EncPost w r) := by
  obtain ⟨A, c, hs, hsA⟩ := h.g.hd
  obtain ⟨B, d, hu, hsB⟩ := h.st
  subst hs hu
  have HSA := Lib.hid hsA
  have HSB := Lib.hid hsB
  have HR := Lib.hid h
  have HOR := Lib.hid hor
  have HKK := Lib.hid hk
  have HLS := Lib.hid (st_len hor)
  clear h hor hk hsA hsB
  have HX := Lib.hid ((Below.refl _ w).alloc (Nat.le_refl _) (.cells (twelve r (.slice A r.g.stamp.length c) (.slice B r.stamp.length d)) 28))
  have HK := Lib.hid (Whole.new w 28 (twelve r (.slice A r.g.stamp.length c) (.slice B r.stamp.length d)))
  have HRB := Lib.hid (HR.out.below HX.out)
  go_enter Try.func7, Try.ntmps7
  go_upto_region 1 with (fail)
  generalize w.alloc (.cells (twelve r (.slice A r.g.stamp.length c) (.slice B r.stamp.length d)) 28) = w1 at HX HK HRB ⊢
  obtain ⟨c0, c1, c2', c3, c4, c5, c6, c7, c8, c9, c10, c11⟩ := rec_cells HK.out
  go_wp2_with fail
  refine (r_Rec (.slice A r.g.stamp.length c) (.slice B r.stamp.length d) r w1 HRB.out).mono ?_
  rw [HOR.out]
  rintro e w2 ⟨rfl, hb2⟩
  have HX2 := Lib.hid (below_on HX.out hb2)
  have HK2 := Lib.hid ((Mod.of_below hb2 []).whole HK.out (by simp))
  clear hb2 HX HK HRB c0 c1 c2' c3 c4 c5 c6 c7 c8 c9 c10 c11
  obtain ⟨c0, c1, c2', c3, c4, c5, c6, c7, c8, c9, c10, c11⟩ := rec_cells HK2.out
  rw [HKK.out] at c0
  go_wp2_with fail
  refine (r11_nums (some ⟨w2.heap.size, 0, none⟩) 1 [7] _ (Gw.ints_lit w2 [7]) (by simp) (by omega) (by intro x hx; simp only [List.mem_cons, List.not_mem_nil, or_false] at hx; subst hx; unfold In64; omega) (by simp)).mono ?_
  rintro e w3 ⟨v3, rfl, h3, hb3⟩
  have HB3 := Lib.hid (((Below.refl _ w2).alloc (Nat.le_refl _) (.cells (i64s [7]).toArray 3)).trans (hb3.mono (by simp)))
  have HG3 := Lib.hid (show Gw.Grow w (WM.nums [7]) v3 w3 from ⟨gw_base h3 (by have := HX2.out.size; simp; omega), below_on HX2.out HB3.out⟩)
  have HK3 := Lib.hid ((Mod.of_below HB3.out []).whole HK2.out (by simp))
  obtain ⟨A3, cz3, e3, _, _⟩ := By.own_shape h3
  subst e3
  clear h3 hb3 HB3 HK2 HX2 c0 c1 c2' c3 c4 c5 c6 c7 c8 c9 c10 c11
  have HN := Lib.hid (show (WM.nums [7]).length ≤ 9 from rnums9 _ (by intro x hx; simp only [List.mem_cons, List.not_mem_nil, or_false] at hx; subst hx; omega))
  generalize hL : WM.nums [7] = L0 at HG3 HN ⊢
  have HL0 := Lib.hid hL
  clear hL
  obtain ⟨c0, c1, c2', c3, c4, c5, c6, c7, c8, c9, c10, c11⟩ := rec_cells HK3.out
  rw [HKK.out] at c0
  go_upto_region 5 with (fail)
  have HT := Lib.hid (show E11 w r (.slice A r.g.stamp.length c) (.slice B r.stamp.length d) w3.heap.size L0 (.slice A3 L0.length cz3) (w3.alloc (.cells (six r.g (.slice A r.g.stamp.length c)) 26)) from ⟨HK3.out.alloc _, Whole.new w3 _ _, HG3.out.on ((Below.refl _ w3).alloc (Nat.le_refl _) _)⟩)
  unfold six at HT
  clear HG3 HK3 c0 c1 c2' c3 c4 c5 c6 c7 c8 c9 c10 c11
  generalize w3.alloc (.cells #[.int .i64 r.g.id, .int .i64 r.g.holder, .string r.g.path, .int .i64 r.g.mode, (.slice A r.g.stamp.length c), .int .i64 r.g.term] 26) = y0 at HT ⊢
  obtain ⟨c0, c1, c2', c3, c4, c5, c6, c7, c8, c9, c10, c11⟩ := rec_cells HT.out.kb
  rw [HKK.out] at c0
  obtain ⟨q0, q1, q2, q3, q4, q5⟩ := six_cells2 HT.out.gb
  have HBD := Lib.hid (show BM.laid r = L0 by rw [← HL0.out]; unfold BM.laid BM.partB; simp [HKK.out, BM.grantB, WM.nums, WM.stampB])
  go_wp2_with fail
  go_ret2
  refine (enc_post HOR.out (by rw [HBD.out]) HT.out.grow)
set_option maxHeartbeats 4000000 in
theorem e11_no (V U : Value) (r : Rc) (w : World) (h : FitR w V U r) (hor : BM.okRc r = false) :
    Calls Try.prog 7 #[.agg (twelve r V U)] w (EncPost w r) := by
  obtain ⟨A, c, hs, hsA⟩ := h.g.hd
  obtain ⟨B, d, hu, hsB⟩ := h.st
  subst hs hu
  have HR := Lib.hid h
  have HOR := Lib.hid hor
  clear h hor hsA hsB
  have HX := Lib.hid ((Below.refl _ w).alloc (Nat.le_refl _) (.cells (twelve r (.slice A r.g.stamp.length c) (.slice B r.stamp.length d)) 28))
  have HK := Lib.hid (Whole.new w 28 (twelve r (.slice A r.g.stamp.length c) (.slice B r.stamp.length d)))
  have HRB := Lib.hid (HR.out.below HX.out)
  go_enter Try.func7, Try.ntmps7
  go_upto_region 1 with (fail)
  generalize w.alloc (.cells (twelve r (.slice A r.g.stamp.length c) (.slice B r.stamp.length d)) 28) = w1 at HX HK HRB ⊢
  obtain ⟨c0, c1, c2', c3, c4, c5, c6, c7, c8, c9, c10, c11⟩ := rec_cells HK.out
  go_wp2_with fail
  refine (r_Rec (.slice A r.g.stamp.length c) (.slice B r.stamp.length d) r w1 HRB.out).mono ?_
  rw [HOR.out]
  rintro e w2 ⟨rfl, hb2⟩
  have HX2 := Lib.hid (below_on HX.out hb2)
  clear hb2 HX HK HRB c0 c1 c2' c3 c4 c5 c6 c7 c8 c9 c10 c11
  go_wp2_with fail
  go_ret2
  have e : BM.encode r = ([], 43) := if_neg (by rw [HOR.out]; decide)
  unfold EncPost
  rw [e]
  exact ⟨none, 0, rfl, World.ownsRow_nil _ _ _ _, HX2.out⟩
theorem r11_Encode (V U : Value) (r : Rc) (w : World) (h : FitR w V U r) : Calls Try.prog 7 #[.agg (twelve r V U)] w (EncPost w r) := by
  cases hor : BM.okRc r with
  | false => exact e11_no V U r w h hor
  | true =>
    rcases BM.may_kind (BM.ok_may hor).1 with hk | hk | hk | hk | hk | hk | hk
    · exact e11_1 V U r w h hor hk
    · exact e11_2 V U r w h hor hk
    · exact e11_3 V U r w h hor hk
    · exact e11_4 V U r w h hor hk
    · exact e11_5 V U r w h hor hk
    · exact e11_6 V U r w h hor hk
    · exact e11_7 V U r w h hor hk
end Go.Proofs.Ytboflkadabagfab
