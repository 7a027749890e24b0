/- A record's bytes: the package's call. -/
import Derived.Test.YtboflkadabagfabBkW5
import Derived.Test.YtboflkadabagfabOctetsW2
import Derived.Deep.MidRow
namespace Go.Proofs.Ytboflkadabagfab
open Go.RowKit
open Oct (WAt Laid)
open BM (Gr Rc Bk g0 r0 b0)
set_option linter.unusedVariables false
set_option linter.unusedSimpArgs false
set_option maxRecDepth 100000
theorem laid_below {w w1 w2 : World} {a : Nat} {F : List Nat} {L : List UInt8} (hF : ∀ x ∈ F, w.heap.size ≤ x) (hb : Below w.heap.size w w1) (h : Laid w1 a F L w2) : Below w.heap.size w w2 := by
  obtain ⟨F1, _, h2, _⟩ := h
  exact hb.trans (h2.below hb.size hF)
theorem own_base8 {w : World} {b1 b2 : Nat} {e : TypeId} {z n : Nat} {v : Value} {xs : List Value} (h : w.ownsRow b1 e z v n xs) (hb : b2 ≤ b1) : w.ownsRow b2 e z v n xs := by
  refine ⟨h.1, ?_⟩
  rcases h.2 with h0 | ⟨b, cap, cur, e, hb', hh, hr⟩
  · exact .inl h0
  · exact .inr ⟨b, cap, cur, e, Nat.le_trans hb hb', hh, hr⟩
theorem lay_grantO {a : Nat} {F : List Nat} {L : List UInt8} {w w1 : World} (h : Laid w a F L w1) (g : Gr) (v : Value) {W : World} (hg : FitG W v g) (hne : g.stamp ≠ []) (hX : Below W.heap.size W w) (hn : ∀ x, x < W.heap.size → x ∉ F) (hlen : (L ++ BM.grantB g).length ≤ 140737488355328) {cs : Array Value} (hcs : cs = six g v) :
    Calls Try.prog 43 #[.pointer (some ⟨a, 0, none⟩), .agg cs] w1 fun e w2 => e = .returned (.tuple #[]) ∧ Laid w a F (L ++ BM.grantB g) w2 := by
  subst hcs
  obtain ⟨F1, h1, h2, h3⟩ := h
  obtain ⟨A, c, rfl, hs⟩ := hg.hd
  have hlt : ∀ ad, A = some ad → ad.block < W.heap.size := fun ad e => by
    obtain ⟨b, o, e1, hb, _⟩ := hs.ints (List.length_pos_iff.2 hne)
    rw [e] at e1
    injection e1 with e1
    rw [e1]; exact hb
  exact (wgrant_any a A c g L F1 w1 h1 hg.wide ⟨(hs.ints.below hX).mod h2 (fun ad e => hn _ (hlt ad e)), hs.le, hs.cap, hs.room, hs.rng⟩ (fun ad e => ⟨fun hf => (h3 _ hf).elim (hn _ (hlt ad e)) (fun h => by have := hlt ad e; have := hX.size; omega), Nat.lt_of_lt_of_le (hlt ad e) (Nat.le_trans hX.size h2.size)⟩) hlen).mono fun e w2 k => ⟨k.1, laid_on h2 h3 k.2⟩
theorem lay_stampO {a : Nat} {F : List Nat} {L : List UInt8} {w w1 : World} (h : Laid w a F L w1) (l : List Int) (v : Value) {W : World} (hg : HdI W v l) (hne : l ≠ []) (hX : Below W.heap.size W w) (hn : ∀ x, x < W.heap.size → x ∉ F) (hlen : (L ++ WM.stampB l).length ≤ 140737488355328) :
    Calls Try.prog 44 #[.pointer (some ⟨a, 0, none⟩), v] w1 fun e w2 => e = .returned (.tuple #[]) ∧ Laid w a F (L ++ WM.stampB l) w2 := by
  obtain ⟨A, c, rfl, hs⟩ := hg
  exact lay_stamp h A c l (hs.ints.below hX) (fun ad e => by
    obtain ⟨b, o, e1, hb, _⟩ := hs.ints (List.length_pos_iff.2 hne)
    rw [e] at e1
    injection e1 with e1
    rw [e1]; exact ⟨hn _ hb, Nat.lt_of_lt_of_le hb hX.size⟩) hs.le hs.cap hs.rng hlen
set_option maxHeartbeats 4000000 in
theorem laid_1 (v u : Value) (r : Rc) (w : World) (h : FitR w v u r) (hm : BM.mayUse r = true) (hk : r.kind = 1) :
    Calls Try.prog 18 #[.agg (twelve r v u)] w (Oct.Fresh w (BM.laid r)) := by
  have HLEN := Lib.hid (show (BM.laid r).length ≤ 140737488355328 by have := (BM.laid_len hm).2; omega)
  have HB := Lib.hid (show BM.laid r = ((([] : List UInt8) ++ OM.enc ((1 : Int)).toNat) ++ WM.nums [r.next, r.boots]) by unfold BM.laid BM.partB; simp [hk, WM.nums])
  rw [HB.out] at HLEN
  have HLE := Lib.hid HLEN.out
  clear HLEN
  have HB0 := Lib.hid (show (([] : List UInt8) ++ OM.enc ((1 : Int)).toNat).length ≤ 140737488355328 by have h1 := OM.enc_last (n := 1) (by decide); simp; rw [h1]; simp)
  have HB1 := HLE
  have HR := Lib.hid h
  have HKD := Lib.hid hk
  clear h hk hm
  have HK := Lib.hid ((Whole.new w 28 (twelve r v u)).alloc (.cells #[.pointer none, .int .i64 0] 81))
  have HL := Lib.hid (Oct.Laid.refl (show WAt ((w.alloc (.cells (twelve r v u) 28)).alloc (.cells #[.pointer none, .int .i64 0] 81)) (w.heap.size + 1) [] [w.heap.size + 1] from by have h := Oct.WAt.new (w.alloc (.cells (twelve r v u) 28)); have e : (w.alloc (.cells (twelve r v u) 28)).heap.size = w.heap.size + 1 := (by simp); rw [e] at h; exact h))
  have HX0 := Lib.hid (show Below w.heap.size w ((w.alloc (.cells (twelve r v u) 28)).alloc (.cells #[.pointer none, .int .i64 0] 81)) from ((Below.refl _ w).alloc (Nat.le_refl _) _).alloc (by simp) _)
  have HS := Lib.hid (show ((w.alloc (.cells (twelve r v u) 28)).alloc (.cells #[.pointer none, .int .i64 0] 81)).heap.size = w.heap.size + 2 by simp)
  have c0 : ((w.alloc (.cells (twelve r v u) 28)).alloc (.cells #[.pointer none, .int .i64 0] 81)).cell? ⟨w.heap.size, 0, none⟩ = some (.int .i64 1) := by rw [← HKD.out]; exact HK.out.cell 0
  go_enter Try.func18, Try.ntmps18
  go_wp2_with fail
  clear c0
  generalize ((w.alloc (.cells (twelve r v u) 28)).alloc (.cells #[.pointer none, .int .i64 0] 81)) = w0 at HK HL HX0 HS ⊢
  have HN : Hid (∀ x, x < w.heap.size → x ∉ [w.heap.size + 1]) := Lib.hid (by intro x hx; simp; omega)
  refine (lay_num HL.out 1 (by unfold In64; omega) HB0.out).mono ?_
  rintro e w1 ⟨rfl, hL⟩
  clear HL
  have HL := Lib.hid hL; clear hL
  have HKn := Lib.hid (laid_whole HL.out HK.out (by simp))
  have c0 : w1.cell? ⟨w.heap.size, 0, none⟩ = some (.int .i64 1) := by rw [← HKD.out]; exact HKn.out.cell 0
  have c9 : w1.cell? ⟨w.heap.size, 9, none⟩ = some (.int .i64 r.next) := HKn.out.cell 9
  have c10 : w1.cell? ⟨w.heap.size, 10, none⟩ = some (.int .i64 r.boots) := HKn.out.cell 10
  clear HKn
  go_wp2_with fail
  refine (lay_nums HL.out [r.next, r.boots] rfl rfl rfl (by simp) (by simp [HR.out.next, HR.out.boots]) HB1.out).mono ?_
  rintro e w2 ⟨rfl, hL⟩
  clear HL c0 c9 c10
  have HL := Lib.hid hL; clear hL
  have HKn := Lib.hid (laid_whole HL.out HK.out (by simp))
  clear HKn
  obtain ⟨F4, h41, h42, h43⟩ := HL.out
  have HX4 := Lib.hid (laid_below (by simp) HX0.out HL.out)
  go_wp2_with fail
  refine (Oct.Bytes_any _ _ F4 w2 h41 HB1.out).mono ?_
  rintro e w9 ⟨v9, rfl, hown, hb9⟩
  have HO := Lib.hid (own_base8 hown HX4.out.size)
  have HX9 := Lib.hid (below_on HX4.out hb9)
  clear hown hb9 h41 h42 h43
  go_wp2_with fail
  go_ret
  rw [HB.out]
  exact ⟨v9, rfl, HO.out, HX9.out⟩
set_option maxHeartbeats 4000000 in
theorem laid_2 (v u : Value) (r : Rc) (w : World) (h : FitR w v u r) (hm : BM.mayUse r = true) (hk : r.kind = 2) :
    Calls Try.prog 18 #[.agg (twelve r v u)] w (Oct.Fresh w (BM.laid r)) := by
  have HLEN := Lib.hid (show (BM.laid r).length ≤ 140737488355328 by have := (BM.laid_len hm).2; omega)
  have HB := Lib.hid (show BM.laid r = ((([] : List UInt8) ++ OM.enc ((2 : Int)).toNat) ++ OM.enc r.longest.toNat) by unfold BM.laid BM.partB; simp [hk, WM.nums])
  rw [HB.out] at HLEN
  have HLE := Lib.hid HLEN.out
  clear HLEN
  have HB0 := Lib.hid (show (([] : List UInt8) ++ OM.enc ((2 : Int)).toNat).length ≤ 140737488355328 by have h1 := OM.enc_last (n := 2) (by decide); simp; rw [h1]; simp)
  have HB1 := HLE
  have HR := Lib.hid h
  have HKD := Lib.hid hk
  clear h hk hm
  have HK := Lib.hid ((Whole.new w 28 (twelve r v u)).alloc (.cells #[.pointer none, .int .i64 0] 81))
  have HL := Lib.hid (Oct.Laid.refl (show WAt ((w.alloc (.cells (twelve r v u) 28)).alloc (.cells #[.pointer none, .int .i64 0] 81)) (w.heap.size + 1) [] [w.heap.size + 1] from by have h := Oct.WAt.new (w.alloc (.cells (twelve r v u) 28)); have e : (w.alloc (.cells (twelve r v u) 28)).heap.size = w.heap.size + 1 := (by simp); rw [e] at h; exact h))
  have HX0 := Lib.hid (show Below w.heap.size w ((w.alloc (.cells (twelve r v u) 28)).alloc (.cells #[.pointer none, .int .i64 0] 81)) from ((Below.refl _ w).alloc (Nat.le_refl _) _).alloc (by simp) _)
  have HS := Lib.hid (show ((w.alloc (.cells (twelve r v u) 28)).alloc (.cells #[.pointer none, .int .i64 0] 81)).heap.size = w.heap.size + 2 by simp)
  have c0 : ((w.alloc (.cells (twelve r v u) 28)).alloc (.cells #[.pointer none, .int .i64 0] 81)).cell? ⟨w.heap.size, 0, none⟩ = some (.int .i64 2) := by rw [← HKD.out]; exact HK.out.cell 0
  go_enter Try.func18, Try.ntmps18
  go_wp2_with fail
  clear c0
  generalize ((w.alloc (.cells (twelve r v u) 28)).alloc (.cells #[.pointer none, .int .i64 0] 81)) = w0 at HK HL HX0 HS ⊢
  have HN : Hid (∀ x, x < w.heap.size → x ∉ [w.heap.size + 1]) := Lib.hid (by intro x hx; simp; omega)
  refine (lay_num HL.out 2 (by unfold In64; omega) HB0.out).mono ?_
  rintro e w1 ⟨rfl, hL⟩
  clear HL
  have HL := Lib.hid hL; clear hL
  have HKn := Lib.hid (laid_whole HL.out HK.out (by simp))
  have c0 : w1.cell? ⟨w.heap.size, 0, none⟩ = some (.int .i64 2) := by rw [← HKD.out]; exact HKn.out.cell 0
  have c11 : w1.cell? ⟨w.heap.size, 11, none⟩ = some (.int .i64 r.longest) := HKn.out.cell 11
  clear HKn
  go_wp2_with fail
  refine (lay_num HL.out r.longest HR.out.longest HB1.out).mono ?_
  rintro e w2 ⟨rfl, hL⟩
  clear HL c0 c11
  have HL := Lib.hid hL; clear hL
  have HKn := Lib.hid (laid_whole HL.out HK.out (by simp))
  clear HKn
  obtain ⟨F4, h41, h42, h43⟩ := HL.out
  have HX4 := Lib.hid (laid_below (by simp) HX0.out HL.out)
  go_wp2_with fail
  refine (Oct.Bytes_any _ _ F4 w2 h41 HB1.out).mono ?_
  rintro e w9 ⟨v9, rfl, hown, hb9⟩
  have HO := Lib.hid (own_base8 hown HX4.out.size)
  have HX9 := Lib.hid (below_on HX4.out hb9)
  clear hown hb9 h41 h42 h43
  go_wp2_with fail
  go_ret
  rw [HB.out]
  exact ⟨v9, rfl, HO.out, HX9.out⟩
set_option maxHeartbeats 4000000 in
theorem laid_3 (v u : Value) (r : Rc) (w : World) (h : FitR w v u r) (hm : BM.mayUse r = true) (hk : r.kind = 3) :
    Calls Try.prog 18 #[.agg (twelve r v u)] w (Oct.Fresh w (BM.laid r)) := by
  have HLEN := Lib.hid (show (BM.laid r).length ≤ 140737488355328 by have := (BM.laid_len hm).2; omega)
  have HB := Lib.hid (show BM.laid r = ((([] : List UInt8) ++ OM.enc ((3 : Int)).toNat) ++ BM.grantB r.g) by unfold BM.laid BM.partB; simp [hk, WM.nums])
  have HNE := Lib.hid (show r.g.stamp ≠ [] from (BM.stamp_parts (BM.okGr_parts (by have := hm; unfold BM.mayUse at this; simpa [hk] using this)).2.2.2.2.1).1)
  rw [HB.out] at HLEN
  have HLE := Lib.hid HLEN.out
  clear HLEN
  have HB0 := Lib.hid (show (([] : List UInt8) ++ OM.enc ((3 : Int)).toNat).length ≤ 140737488355328 by have h1 := OM.enc_last (n := 3) (by decide); simp; rw [h1]; simp)
  have HB1 := HLE
  have HR := Lib.hid h
  have HKD := Lib.hid hk
  clear h hk hm
  have HK := Lib.hid ((Whole.new w 28 (twelve r v u)).alloc (.cells #[.pointer none, .int .i64 0] 81))
  have HL := Lib.hid (Oct.Laid.refl (show WAt ((w.alloc (.cells (twelve r v u) 28)).alloc (.cells #[.pointer none, .int .i64 0] 81)) (w.heap.size + 1) [] [w.heap.size + 1] from by have h := Oct.WAt.new (w.alloc (.cells (twelve r v u) 28)); have e : (w.alloc (.cells (twelve r v u) 28)).heap.size = w.heap.size + 1 := (by simp); rw [e] at h; exact h))
  have HX0 := Lib.hid (show Below w.heap.size w ((w.alloc (.cells (twelve r v u) 28)).alloc (.cells #[.pointer none, .int .i64 0] 81)) from ((Below.refl _ w).alloc (Nat.le_refl _) _).alloc (by simp) _)
  have HS := Lib.hid (show ((w.alloc (.cells (twelve r v u) 28)).alloc (.cells #[.pointer none, .int .i64 0] 81)).heap.size = w.heap.size + 2 by simp)
  have c0 : ((w.alloc (.cells (twelve r v u) 28)).alloc (.cells #[.pointer none, .int .i64 0] 81)).cell? ⟨w.heap.size, 0, none⟩ = some (.int .i64 3) := by rw [← HKD.out]; exact HK.out.cell 0
  go_enter Try.func18, Try.ntmps18
  go_wp2_with fail
  clear c0
  generalize ((w.alloc (.cells (twelve r v u) 28)).alloc (.cells #[.pointer none, .int .i64 0] 81)) = w0 at HK HL HX0 HS ⊢
  have HN : Hid (∀ x, x < w.heap.size → x ∉ [w.heap.size + 1]) := Lib.hid (by intro x hx; simp; omega)
  refine (lay_num HL.out 3 (by unfold In64; omega) HB0.out).mono ?_
  rintro e w1 ⟨rfl, hL⟩
  clear HL
  have HL := Lib.hid hL; clear hL
  have HKn := Lib.hid (laid_whole HL.out HK.out (by simp))
  have c0 : w1.cell? ⟨w.heap.size, 0, none⟩ = some (.int .i64 3) := by rw [← HKD.out]; exact HKn.out.cell 0
  have c1 : w1.cell? ⟨w.heap.size, 1, none⟩ = some (.int .i64 r.g.id) := HKn.out.cell 1
  have c2 : w1.cell? ⟨w.heap.size, 2, none⟩ = some (.int .i64 r.g.holder) := HKn.out.cell 2
  have c3 : w1.cell? ⟨w.heap.size, 3, none⟩ = some (.string r.g.path) := HKn.out.cell 3
  have c4 : w1.cell? ⟨w.heap.size, 4, none⟩ = some (.int .i64 r.g.mode) := HKn.out.cell 4
  have c5 : w1.cell? ⟨w.heap.size, 5, none⟩ = some (v) := HKn.out.cell 5
  have c6 : w1.cell? ⟨w.heap.size, 6, none⟩ = some (.int .i64 r.g.term) := HKn.out.cell 6
  clear HKn
  go_wp2_with fail
  refine (lay_grantO HL.out r.g v HR.out.g HNE.out HX0.out HN.out HB1.out rfl).mono ?_
  rintro e w2 ⟨rfl, hL⟩
  clear HL c0 c1 c2 c3 c4 c5 c6
  have HL := Lib.hid hL; clear hL
  have HKn := Lib.hid (laid_whole HL.out HK.out (by simp))
  clear HKn
  obtain ⟨F4, h41, h42, h43⟩ := HL.out
  have HX4 := Lib.hid (laid_below (by simp) HX0.out HL.out)
  go_wp2_with fail
  refine (Oct.Bytes_any _ _ F4 w2 h41 HB1.out).mono ?_
  rintro e w9 ⟨v9, rfl, hown, hb9⟩
  have HO := Lib.hid (own_base8 hown HX4.out.size)
  have HX9 := Lib.hid (below_on HX4.out hb9)
  clear hown hb9 h41 h42 h43
  go_wp2_with fail
  go_ret
  rw [HB.out]
  exact ⟨v9, rfl, HO.out, HX9.out⟩
set_option maxHeartbeats 4000000 in
theorem laid_4 (v u : Value) (r : Rc) (w : World) (h : FitR w v u r) (hm : BM.mayUse r = true) (hk : r.kind = 4) :
    Calls Try.prog 18 #[.agg (twelve r v u)] w (Oct.Fresh w (BM.laid r)) := by
  have HLEN := Lib.hid (show (BM.laid r).length ≤ 140737488355328 by have := (BM.laid_len hm).2; omega)
  have HB := Lib.hid (show BM.laid r = ((([] : List UInt8) ++ OM.enc ((4 : Int)).toNat) ++ BM.grantB r.g) by unfold BM.laid BM.partB; simp [hk, WM.nums])
  have HNE := Lib.hid (show r.g.stamp ≠ [] from (BM.stamp_parts (BM.okGr_parts (by have h2 := hm; unfold BM.mayUse at h2; simp [hk] at h2; exact h2.1)).2.2.2.2.1).1)
  rw [HB.out] at HLEN
  have HLE := Lib.hid HLEN.out
  clear HLEN
  have HB0 := Lib.hid (show (([] : List UInt8) ++ OM.enc ((4 : Int)).toNat).length ≤ 140737488355328 by have h1 := OM.enc_last (n := 4) (by decide); simp; rw [h1]; simp)
  have HB1 := HLE
  have HR := Lib.hid h
  have HKD := Lib.hid hk
  clear h hk hm
  have HK := Lib.hid ((Whole.new w 28 (twelve r v u)).alloc (.cells #[.pointer none, .int .i64 0] 81))
  have HL := Lib.hid (Oct.Laid.refl (show WAt ((w.alloc (.cells (twelve r v u) 28)).alloc (.cells #[.pointer none, .int .i64 0] 81)) (w.heap.size + 1) [] [w.heap.size + 1] from by have h := Oct.WAt.new (w.alloc (.cells (twelve r v u) 28)); have e : (w.alloc (.cells (twelve r v u) 28)).heap.size = w.heap.size + 1 := (by simp); rw [e] at h; exact h))
  have HX0 := Lib.hid (show Below w.heap.size w ((w.alloc (.cells (twelve r v u) 28)).alloc (.cells #[.pointer none, .int .i64 0] 81)) from ((Below.refl _ w).alloc (Nat.le_refl _) _).alloc (by simp) _)
  have HS := Lib.hid (show ((w.alloc (.cells (twelve r v u) 28)).alloc (.cells #[.pointer none, .int .i64 0] 81)).heap.size = w.heap.size + 2 by simp)
  have c0 : ((w.alloc (.cells (twelve r v u) 28)).alloc (.cells #[.pointer none, .int .i64 0] 81)).cell? ⟨w.heap.size, 0, none⟩ = some (.int .i64 4) := by rw [← HKD.out]; exact HK.out.cell 0
  go_enter Try.func18, Try.ntmps18
  go_wp2_with fail
  clear c0
  generalize ((w.alloc (.cells (twelve r v u) 28)).alloc (.cells #[.pointer none, .int .i64 0] 81)) = w0 at HK HL HX0 HS ⊢
  have HN : Hid (∀ x, x < w.heap.size → x ∉ [w.heap.size + 1]) := Lib.hid (by intro x hx; simp; omega)
  refine (lay_num HL.out 4 (by unfold In64; omega) HB0.out).mono ?_
  rintro e w1 ⟨rfl, hL⟩
  clear HL
  have HL := Lib.hid hL; clear hL
  have HKn := Lib.hid (laid_whole HL.out HK.out (by simp))
  have c0 : w1.cell? ⟨w.heap.size, 0, none⟩ = some (.int .i64 4) := by rw [← HKD.out]; exact HKn.out.cell 0
  have c1 : w1.cell? ⟨w.heap.size, 1, none⟩ = some (.int .i64 r.g.id) := HKn.out.cell 1
  have c2 : w1.cell? ⟨w.heap.size, 2, none⟩ = some (.int .i64 r.g.holder) := HKn.out.cell 2
  have c3 : w1.cell? ⟨w.heap.size, 3, none⟩ = some (.string r.g.path) := HKn.out.cell 3
  have c4 : w1.cell? ⟨w.heap.size, 4, none⟩ = some (.int .i64 r.g.mode) := HKn.out.cell 4
  have c5 : w1.cell? ⟨w.heap.size, 5, none⟩ = some (v) := HKn.out.cell 5
  have c6 : w1.cell? ⟨w.heap.size, 6, none⟩ = some (.int .i64 r.g.term) := HKn.out.cell 6
  clear HKn
  go_wp2_with fail
  refine (lay_grantO HL.out r.g v HR.out.g HNE.out HX0.out HN.out HB1.out rfl).mono ?_
  rintro e w2 ⟨rfl, hL⟩
  clear HL c0 c1 c2 c3 c4 c5 c6
  have HL := Lib.hid hL; clear hL
  have HKn := Lib.hid (laid_whole HL.out HK.out (by simp))
  clear HKn
  obtain ⟨F4, h41, h42, h43⟩ := HL.out
  have HX4 := Lib.hid (laid_below (by simp) HX0.out HL.out)
  go_wp2_with fail
  refine (Oct.Bytes_any _ _ F4 w2 h41 HB1.out).mono ?_
  rintro e w9 ⟨v9, rfl, hown, hb9⟩
  have HO := Lib.hid (own_base8 hown HX4.out.size)
  have HX9 := Lib.hid (below_on HX4.out hb9)
  clear hown hb9 h41 h42 h43
  go_wp2_with fail
  go_ret
  rw [HB.out]
  exact ⟨v9, rfl, HO.out, HX9.out⟩
set_option maxHeartbeats 4000000 in
theorem laid_5 (v u : Value) (r : Rc) (w : World) (h : FitR w v u r) (hm : BM.mayUse r = true) (hk : r.kind = 5) :
    Calls Try.prog 18 #[.agg (twelve r v u)] w (Oct.Fresh w (BM.laid r)) := by
  have HLEN := Lib.hid (show (BM.laid r).length ≤ 140737488355328 by have := (BM.laid_len hm).2; omega)
  have HB := Lib.hid (show BM.laid r = (((([] : List UInt8) ++ OM.enc ((5 : Int)).toNat) ++ OM.enc r.id.toNat) ++ WM.stampB r.stamp) by unfold BM.laid BM.partB; simp [hk, WM.nums])
  have HNE := Lib.hid (show r.stamp ≠ [] from (BM.stamp_parts (by have h2 := hm; unfold BM.mayUse at h2; simp [hk] at h2; exact h2.2)).1)
  rw [HB.out] at HLEN
  have HLE := Lib.hid HLEN.out
  clear HLEN
  have HB0 := Lib.hid (show (([] : List UInt8) ++ OM.enc ((5 : Int)).toNat).length ≤ 140737488355328 by have h1 := OM.enc_last (n := 5) (by decide); simp; rw [h1]; simp)
  have HB1 := Lib.hid (show ((([] : List UInt8) ++ OM.enc ((5 : Int)).toNat) ++ OM.enc r.id.toNat).length ≤ 140737488355328 by have h1 := HLE.out; rw [List.length_append] at h1; omega)
  have HB2 := HLE
  have HR := Lib.hid h
  have HKD := Lib.hid hk
  clear h hk hm
  have HK := Lib.hid ((Whole.new w 28 (twelve r v u)).alloc (.cells #[.pointer none, .int .i64 0] 81))
  have HL := Lib.hid (Oct.Laid.refl (show WAt ((w.alloc (.cells (twelve r v u) 28)).alloc (.cells #[.pointer none, .int .i64 0] 81)) (w.heap.size + 1) [] [w.heap.size + 1] from by have h := Oct.WAt.new (w.alloc (.cells (twelve r v u) 28)); have e : (w.alloc (.cells (twelve r v u) 28)).heap.size = w.heap.size + 1 := (by simp); rw [e] at h; exact h))
  have HX0 := Lib.hid (show Below w.heap.size w ((w.alloc (.cells (twelve r v u) 28)).alloc (.cells #[.pointer none, .int .i64 0] 81)) from ((Below.refl _ w).alloc (Nat.le_refl _) _).alloc (by simp) _)
  have HS := Lib.hid (show ((w.alloc (.cells (twelve r v u) 28)).alloc (.cells #[.pointer none, .int .i64 0] 81)).heap.size = w.heap.size + 2 by simp)
  have c0 : ((w.alloc (.cells (twelve r v u) 28)).alloc (.cells #[.pointer none, .int .i64 0] 81)).cell? ⟨w.heap.size, 0, none⟩ = some (.int .i64 5) := by rw [← HKD.out]; exact HK.out.cell 0
  go_enter Try.func18, Try.ntmps18
  go_wp2_with fail
  clear c0
  generalize ((w.alloc (.cells (twelve r v u) 28)).alloc (.cells #[.pointer none, .int .i64 0] 81)) = w0 at HK HL HX0 HS ⊢
  have HN : Hid (∀ x, x < w.heap.size → x ∉ [w.heap.size + 1]) := Lib.hid (by intro x hx; simp; omega)
  refine (lay_num HL.out 5 (by unfold In64; omega) HB0.out).mono ?_
  rintro e w1 ⟨rfl, hL⟩
  clear HL
  have HL := Lib.hid hL; clear hL
  have HKn := Lib.hid (laid_whole HL.out HK.out (by simp))
  have c0 : w1.cell? ⟨w.heap.size, 0, none⟩ = some (.int .i64 5) := by rw [← HKD.out]; exact HKn.out.cell 0
  have c7 : w1.cell? ⟨w.heap.size, 7, none⟩ = some (.int .i64 r.id) := HKn.out.cell 7
  clear HKn
  go_wp2_with fail
  refine (lay_num HL.out r.id HR.out.id HB1.out).mono ?_
  rintro e w2 ⟨rfl, hL⟩
  clear HL c0 c7
  have HL := Lib.hid hL; clear hL
  have HKn := Lib.hid (laid_whole HL.out HK.out (by simp))
  have c8 : w2.cell? ⟨w.heap.size, 8, none⟩ = some (u) := HKn.out.cell 8
  clear HKn
  go_wp2_with fail
  refine (lay_stampO HL.out r.stamp u HR.out.st HNE.out HX0.out HN.out HB2.out).mono ?_
  rintro e w3 ⟨rfl, hL⟩
  clear HL c8
  have HL := Lib.hid hL; clear hL
  have HKn := Lib.hid (laid_whole HL.out HK.out (by simp))
  clear HKn
  obtain ⟨F4, h41, h42, h43⟩ := HL.out
  have HX4 := Lib.hid (laid_below (by simp) HX0.out HL.out)
  go_wp2_with fail
  refine (Oct.Bytes_any _ _ F4 w3 h41 HB2.out).mono ?_
  rintro e w9 ⟨v9, rfl, hown, hb9⟩
  have HO := Lib.hid (own_base8 hown HX4.out.size)
  have HX9 := Lib.hid (below_on HX4.out hb9)
  clear hown hb9 h41 h42 h43
  go_wp2_with fail
  go_ret
  rw [HB.out]
  exact ⟨v9, rfl, HO.out, HX9.out⟩
set_option maxHeartbeats 4000000 in
theorem laid_6 (v u : Value) (r : Rc) (w : World) (h : FitR w v u r) (hm : BM.mayUse r = true) (hk : r.kind = 6) :
    Calls Try.prog 18 #[.agg (twelve r v u)] w (Oct.Fresh w (BM.laid r)) := by
  have HLEN := Lib.hid (show (BM.laid r).length ≤ 140737488355328 by have := (BM.laid_len hm).2; omega)
  have HB := Lib.hid (show BM.laid r = ((([] : List UInt8) ++ OM.enc ((6 : Int)).toNat) ++ OM.enc r.id.toNat) by unfold BM.laid BM.partB; simp [hk, WM.nums])
  rw [HB.out] at HLEN
  have HLE := Lib.hid HLEN.out
  clear HLEN
  have HB0 := Lib.hid (show (([] : List UInt8) ++ OM.enc ((6 : Int)).toNat).length ≤ 140737488355328 by have h1 := OM.enc_last (n := 6) (by decide); simp; rw [h1]; simp)
  have HB1 := HLE
  have HR := Lib.hid h
  have HKD := Lib.hid hk
  clear h hk hm
  have HK := Lib.hid ((Whole.new w 28 (twelve r v u)).alloc (.cells #[.pointer none, .int .i64 0] 81))
  have HL := Lib.hid (Oct.Laid.refl (show WAt ((w.alloc (.cells (twelve r v u) 28)).alloc (.cells #[.pointer none, .int .i64 0] 81)) (w.heap.size + 1) [] [w.heap.size + 1] from by have h := Oct.WAt.new (w.alloc (.cells (twelve r v u) 28)); have e : (w.alloc (.cells (twelve r v u) 28)).heap.size = w.heap.size + 1 := (by simp); rw [e] at h; exact h))
  have HX0 := Lib.hid (show Below w.heap.size w ((w.alloc (.cells (twelve r v u) 28)).alloc (.cells #[.pointer none, .int .i64 0] 81)) from ((Below.refl _ w).alloc (Nat.le_refl _) _).alloc (by simp) _)
  have HS := Lib.hid (show ((w.alloc (.cells (twelve r v u) 28)).alloc (.cells #[.pointer none, .int .i64 0] 81)).heap.size = w.heap.size + 2 by simp)
  have c0 : ((w.alloc (.cells (twelve r v u) 28)).alloc (.cells #[.pointer none, .int .i64 0] 81)).cell? ⟨w.heap.size, 0, none⟩ = some (.int .i64 6) := by rw [← HKD.out]; exact HK.out.cell 0
  go_enter Try.func18, Try.ntmps18
  go_wp2_with fail
  clear c0
  generalize ((w.alloc (.cells (twelve r v u) 28)).alloc (.cells #[.pointer none, .int .i64 0] 81)) = w0 at HK HL HX0 HS ⊢
  have HN : Hid (∀ x, x < w.heap.size → x ∉ [w.heap.size + 1]) := Lib.hid (by intro x hx; simp; omega)
  refine (lay_num HL.out 6 (by unfold In64; omega) HB0.out).mono ?_
  rintro e w1 ⟨rfl, hL⟩
  clear HL
  have HL := Lib.hid hL; clear hL
  have HKn := Lib.hid (laid_whole HL.out HK.out (by simp))
  have c0 : w1.cell? ⟨w.heap.size, 0, none⟩ = some (.int .i64 6) := by rw [← HKD.out]; exact HKn.out.cell 0
  have c7 : w1.cell? ⟨w.heap.size, 7, none⟩ = some (.int .i64 r.id) := HKn.out.cell 7
  clear HKn
  go_wp2_with fail
  refine (lay_num HL.out r.id HR.out.id HB1.out).mono ?_
  rintro e w2 ⟨rfl, hL⟩
  clear HL c0 c7
  have HL := Lib.hid hL; clear hL
  have HKn := Lib.hid (laid_whole HL.out HK.out (by simp))
  clear HKn
  obtain ⟨F4, h41, h42, h43⟩ := HL.out
  have HX4 := Lib.hid (laid_below (by simp) HX0.out HL.out)
  go_wp2_with fail
  refine (Oct.Bytes_any _ _ F4 w2 h41 HB1.out).mono ?_
  rintro e w9 ⟨v9, rfl, hown, hb9⟩
  have HO := Lib.hid (own_base8 hown HX4.out.size)
  have HX9 := Lib.hid (below_on HX4.out hb9)
  clear hown hb9 h41 h42 h43
  go_wp2_with fail
  go_ret
  rw [HB.out]
  exact ⟨v9, rfl, HO.out, HX9.out⟩
set_option maxHeartbeats 4000000 in
theorem laid_7 (v u : Value) (r : Rc) (w : World) (h : FitR w v u r) (hm : BM.mayUse r = true) (hk : r.kind = 7) :
    Calls Try.prog 18 #[.agg (twelve r v u)] w (Oct.Fresh w (BM.laid r)) := by
  have HLEN := Lib.hid (show (BM.laid r).length ≤ 140737488355328 by have := (BM.laid_len hm).2; omega)
  have HB := Lib.hid (show BM.laid r = (([] : List UInt8) ++ OM.enc ((7 : Int)).toNat) by unfold BM.laid BM.partB; simp [hk, WM.nums])
  rw [HB.out] at HLEN
  have HLE := Lib.hid HLEN.out
  clear HLEN
  have HB0 := Lib.hid (show (([] : List UInt8) ++ OM.enc ((7 : Int)).toNat).length ≤ 140737488355328 by have h1 := OM.enc_last (n := 7) (by decide); simp; rw [h1]; simp)
  have HR := Lib.hid h
  have HKD := Lib.hid hk
  clear h hk hm
  have HK := Lib.hid ((Whole.new w 28 (twelve r v u)).alloc (.cells #[.pointer none, .int .i64 0] 81))
  have HL := Lib.hid (Oct.Laid.refl (show WAt ((w.alloc (.cells (twelve r v u) 28)).alloc (.cells #[.pointer none, .int .i64 0] 81)) (w.heap.size + 1) [] [w.heap.size + 1] from by have h := Oct.WAt.new (w.alloc (.cells (twelve r v u) 28)); have e : (w.alloc (.cells (twelve r v u) 28)).heap.size = w.heap.size + 1 := (by simp); rw [e] at h; exact h))
  have HX0 := Lib.hid (show Below w.heap.size w ((w.alloc (.cells (twelve r v u) 28)).alloc (.cells #[.pointer none, .int .i64 0] 81)) from ((Below.refl _ w).alloc (Nat.le_refl _) _).alloc (by simp) _)
  have HS := Lib.hid (show ((w.alloc (.cells (twelve r v u) 28)).alloc (.cells #[.pointer none, .int .i64 0] 81)).heap.size = w.heap.size + 2 by simp)
  have c0 : ((w.alloc (.cells (twelve r v u) 28)).alloc (.cells #[.pointer none, .int .i64 0] 81)).cell? ⟨w.heap.size, 0, none⟩ = some (.int .i64 7) := by rw [← HKD.out]; exact HK.out.cell 0
  go_enter Try.func18, Try.ntmps18
  go_wp2_with fail
  clear c0
  generalize ((w.alloc (.cells (twelve r v u) 28)).alloc (.cells #[.pointer none, .int .i64 0] 81)) = w0 at HK HL HX0 HS ⊢
  have HN : Hid (∀ x, x < w.heap.size → x ∉ [w.heap.size + 1]) := Lib.hid (by intro x hx; simp; omega)
  refine (lay_num HL.out 7 (by unfold In64; omega) HB0.out).mono ?_
  rintro e w1 ⟨rfl, hL⟩
  clear HL
  have HL := Lib.hid hL; clear hL
  have HKn := Lib.hid (laid_whole HL.out HK.out (by simp))
  have c0 : w1.cell? ⟨w.heap.size, 0, none⟩ = some (.int .i64 7) := by rw [← HKD.out]; exact HKn.out.cell 0
  obtain ⟨F4, h41, h42, h43⟩ := HL.out
  have HX4 := Lib.hid (laid_below (by simp) HX0.out HL.out)
  go_wp2_with fail
  refine (Oct.Bytes_any _ _ F4 w1 h41 HB0.out).mono ?_
  rintro e w9 ⟨v9, rfl, hown, hb9⟩
  have HO := Lib.hid (own_base8 hown HX4.out.size)
  have HX9 := Lib.hid (below_on HX4.out hb9)
  clear hown hb9 h41 h42 h43
  go_wp2_with fail
  go_ret
  rw [HB.out]
  exact ⟨v9, rfl, HO.out, HX9.out⟩
theorem b_laid (v u : Value) (r : Rc) (w : World) (h : FitR w v u r) (hm : BM.mayUse r = true) : Calls Try.prog 18 #[.agg (twelve r v u)] w (Oct.Fresh w (BM.laid r)) := by
  rcases BM.may_kind hm with k | k | k | k | k | k | k
  · exact laid_1 v u r w h hm k
  · exact laid_2 v u r w h hm k
  · exact laid_3 v u r w h hm k
  · exact laid_4 v u r w h hm k
  · exact laid_5 v u r w h hm k
  · exact laid_6 v u r w h hm k
  · exact laid_7 v u r w h hm k
end Go.Proofs.Ytboflkadabagfab
