/- A message's bytes: the package's call of layer 6. -/
import Derived.Test.YtbjemihcbbiiaaaWireW3
import Derived.Test.YtbjemihcbbiiaaaOctB
namespace Go.Proofs.Ytbjemihcbbiiaaa
open Go.RowKit
open Oct (WAt Laid)
open WM (Msg)
set_option linter.unusedVariables false
set_option maxRecDepth 100000
attribute [local go_sem] run_store_func run_store_nilFunc
theorem laid_below {w w1 w2 : World} {a : Nat} {F : List Nat} {L : List UInt8} (hF : ∀ x ∈ F, w.heap.size ≤ x) (hb : Below w.heap.size w w1) (h : Laid w1 a F L w2) : Below w.heap.size w w2 := by
  obtain ⟨F1, _, h2, _⟩ := h
  exact hb.trans (h2.below hb.size hF)
theorem laid_more {w w1 w2 : World} {a : Nat} {F : List Nat} {L : List UInt8} (h : Laid w a F L w1) (hb : Below w1.heap.size w1 w2) : Laid w a F L w2 := by
  obtain ⟨F1, h1, h2, h3⟩ := h
  exact ⟨F1, h1.mod (Mod.of_below hb []) (by simp), h2.trans (Mod.of_below hb []) (by simp), h3⟩
theorem not_late {F3 : List Nat} {w w0 : World} {x : Nat} (h : ∀ x ∈ F3, x ∈ [w.heap.size + 1] ∨ w0.heap.size ≤ x) (hs : w.heap.size ≤ w0.heap.size) (hx : x < w.heap.size) : x ∉ F3 := by
  intro hf
  rcases h x hf with h2 | h2
  · have e : x = w.heap.size + 1 := by simpa using h2
    omega
  · omega
theorem own_base8 {w : World} {b1 b2 : Nat} {e : TypeId} {z n : Nat} {v : Value} {xs : List Value} (h : w.ownsRow b1 e z v n xs) (hb : b2 ≤ b1) : w.ownsRow b2 e z v n xs := by
  refine ⟨h.1, ?_⟩
  rcases h.2 with h0 | ⟨b, cap, cur, e, hb', hh, hr⟩
  · exact .inl h0
  · exact .inr ⟨b, cap, cur, e, Nat.le_trans hb hb', hh, hr⟩
theorem nums_room3 {L M : List UInt8} (h : (L ++ M).length ≤ 140737488355328) : L.length ≤ 140737488355328 := by
  rw [List.length_append] at h
  omega
theorem numsA {a : Nat} {F : List Nat} {w w1 : World} (h : Laid w a F [] w1) (l : List Int) {cs : Array Value} {n g : Nat} (hg : g = w1.heap.size) (hcs : cs = (i64s l).toArray) (hn : n = l.length) (hl : l.length ≤ 9223372036854775807) (hr : ∀ x ∈ l, In64 x) (hlen : (WM.nums l).length ≤ 140737488355328) :
    Calls Try.prog 66 #[.pointer (some ⟨a, 0, none⟩), .slice (some ⟨g, 0, none⟩) n n] (w1.alloc (.cells cs 3)) fun e w2 => e = .returned (.tuple #[]) ∧ Laid w a F (WM.nums l) w2 := by
  have k := lay_nums h l hg hcs hn hl hr (by rw [List.nil_append]; exact hlen)
  rw [List.nil_append] at k
  exact k
theorem body_ask {m : Msg} (h : m.kind = 1) : WM.body m = WM.nums [1, m.frm, m.dst] ++ WM.askB m := by
  unfold WM.body WM.partB
  simp [h]
set_option maxHeartbeats 4000000 in
theorem laid_ask (A : Option Addr) (c : Nat) (m : Msg) (w : World) (hw : Wide m) (hA : IntsAt w A m.stamp) (hn : ∀ ad, A = some ad → ad.block < w.heap.size) (hl : m.stamp.length ≤ c) (hc : c ≤ 9223372036854775807) (hlen : (WM.body m).length ≤ 140737488355328) (hk : m.kind = 1) :
    Calls Try.prog 36 #[.agg (cellsM m (.slice A m.stamp.length c))] w (Oct.Fresh w (WM.body m)) := by
  have HW := Lib.hid hw; clear hw
  have HA := Lib.hid hA; clear hA
  have HN := Lib.hid hn; clear hn
  have HKD := Lib.hid hk
  rw [body_ask hk] at hlen ⊢
  have HB := Lib.hid hlen; clear hlen hk
  have HK := Lib.hid (Whole.new w 32 (cellsM m (.slice A m.stamp.length c)) |>.alloc (.cells #[.pointer none, .int .i64 0] 108))
  have HL := Lib.hid (Oct.Laid.refl (show WAt ((w.alloc (.cells (cellsM m (.slice A m.stamp.length c)) 32)).alloc (.cells #[.pointer none, .int .i64 0] 108)) (w.heap.size + 1) [] [w.heap.size + 1] from by have h := Oct.WAt.new (w.alloc (.cells (cellsM m (.slice A m.stamp.length c)) 32)); have e : (w.alloc (.cells (cellsM m (.slice A m.stamp.length c)) 32)).heap.size = w.heap.size + 1 := (by simp); rw [e] at h; exact h))
  have HX := Lib.hid (show Below w.heap.size w ((w.alloc (.cells (cellsM m (.slice A m.stamp.length c)) 32)).alloc (.cells #[.pointer none, .int .i64 0] 108)) from ((Below.refl _ w).alloc (Nat.le_refl _) _).alloc (by simp) _)
  have HS := Lib.hid (show w.heap.size + 2 = ((w.alloc (.cells (cellsM m (.slice A m.stamp.length c)) 32)).alloc (.cells #[.pointer none, .int .i64 0] 108)).heap.size by simp)
  have c0 : ((w.alloc (.cells (cellsM m (.slice A m.stamp.length c)) 32)).alloc (.cells #[.pointer none, .int .i64 0] 108)).cell? ⟨w.heap.size, 0, none⟩ = some (.int .i64 1) := by rw [← HKD.out]; exact HK.out.cell 0
  have c1 : ((w.alloc (.cells (cellsM m (.slice A m.stamp.length c)) 32)).alloc (.cells #[.pointer none, .int .i64 0] 108)).cell? ⟨w.heap.size, 1, none⟩ = some (.int .i64 m.frm) := HK.out.cell 1
  have c2 : ((w.alloc (.cells (cellsM m (.slice A m.stamp.length c)) 32)).alloc (.cells #[.pointer none, .int .i64 0] 108)).cell? ⟨w.heap.size, 2, none⟩ = some (.int .i64 m.dst) := HK.out.cell 2
  go_enter Try.func36, Try.ntmps36
  go_wp2_with fail
  clear c0 c1 c2
  generalize ((w.alloc (.cells (cellsM m (.slice A m.stamp.length c)) 32)).alloc (.cells #[.pointer none, .int .i64 0] 108)) = w0 at HK HL HX HS ⊢
  refine (numsA HL.out [1, m.frm, m.dst] HS.out rfl rfl (by simp) (by simp [HW.out.frm, HW.out.dst]; unfold In64; omega) (nums_room3 HB.out)).mono ?_
  rintro e w1 ⟨rfl, hL⟩
  clear HL
  have HL := Lib.hid hL; clear hL
  have HK1 := Lib.hid (laid_blk HL.out HK.out (by simp))
  have c0 : w1.cell? ⟨w.heap.size, 0, none⟩ = some (.int .i64 1) := by rw [← HKD.out]; exact HK1.out.cell 0
  go_wp2_with fail
  refine (layout_ask w1).mono ?_
  rintro e w2 ⟨rfl, hb2⟩
  clear c0
  have HL2 := Lib.hid (laid_more HL.out hb2)
  clear hb2 HL HK1
  have HK2 := Lib.hid (laid_blk HL2.out HK.out (by simp))
  have HK3 := Lib.hid (HK2.out.alloc (.cells #[fnV 46, fnV 47, fnV 48] 84))
  have HL3 := Lib.hid (laid_alloc HL2.out (.cells #[fnV 46, fnV 47, fnV 48] 84))
  clear HK2 HL2
  have c0 : (w2.alloc (.cells #[fnV 46, fnV 47, fnV 48] 84)).cell? ⟨w.heap.size, 0, none⟩ = some (.int .i64 m.kind) := HK3.out.cell 0
  have c1 : (w2.alloc (.cells #[fnV 46, fnV 47, fnV 48] 84)).cell? ⟨w.heap.size, 1, none⟩ = some (.int .i64 m.frm) := HK3.out.cell 1
  have c2 : (w2.alloc (.cells #[fnV 46, fnV 47, fnV 48] 84)).cell? ⟨w.heap.size, 2, none⟩ = some (.int .i64 m.dst) := HK3.out.cell 2
  have c3 : (w2.alloc (.cells #[fnV 46, fnV 47, fnV 48] 84)).cell? ⟨w.heap.size, 3, none⟩ = some (.int .i64 m.boot) := HK3.out.cell 3
  have c4 : (w2.alloc (.cells #[fnV 46, fnV 47, fnV 48] 84)).cell? ⟨w.heap.size, 4, none⟩ = some (.int .i64 m.seq) := HK3.out.cell 4
  have c5 : (w2.alloc (.cells #[fnV 46, fnV 47, fnV 48] 84)).cell? ⟨w.heap.size, 5, none⟩ = some (.int .i64 m.low) := HK3.out.cell 5
  have c6 : (w2.alloc (.cells #[fnV 46, fnV 47, fnV 48] 84)).cell? ⟨w.heap.size, 6, none⟩ = some (.int .i64 m.verb) := HK3.out.cell 6
  have c7 : (w2.alloc (.cells #[fnV 46, fnV 47, fnV 48] 84)).cell? ⟨w.heap.size, 7, none⟩ = some (.string m.path) := HK3.out.cell 7
  have c8 : (w2.alloc (.cells #[fnV 46, fnV 47, fnV 48] 84)).cell? ⟨w.heap.size, 8, none⟩ = some (.int .i64 m.mode) := HK3.out.cell 8
  have c9 : (w2.alloc (.cells #[fnV 46, fnV 47, fnV 48] 84)).cell? ⟨w.heap.size, 9, none⟩ = some (.int .i64 m.term) := HK3.out.cell 9
  have c10 : (w2.alloc (.cells #[fnV 46, fnV 47, fnV 48] 84)).cell? ⟨w.heap.size, 10, none⟩ = some (.int .i64 m.id) := HK3.out.cell 10
  have c11 : (w2.alloc (.cells #[fnV 46, fnV 47, fnV 48] 84)).cell? ⟨w.heap.size, 11, none⟩ = some (.bool m.fresh) := HK3.out.cell 11
  have c12 : (w2.alloc (.cells #[fnV 46, fnV 47, fnV 48] 84)).cell? ⟨w.heap.size, 12, none⟩ = some (.int .i64 m.code) := HK3.out.cell 12
  have c13 : (w2.alloc (.cells #[fnV 46, fnV 47, fnV 48] 84)).cell? ⟨w.heap.size, 13, none⟩ = some (.slice A m.stamp.length c) := HK3.out.cell 13
  have c14 : (w2.alloc (.cells #[fnV 46, fnV 47, fnV 48] 84)).cell? ⟨w.heap.size, 14, none⟩ = some (.int .i64 m.origin) := HK3.out.cell 14
  have c15 : (w2.alloc (.cells #[fnV 46, fnV 47, fnV 48] 84)).cell? ⟨w.heap.size, 15, none⟩ = some (.int .i64 m.number) := HK3.out.cell 15
  go_wp2_with fail
  clear c0 c1 c2 c3 c4 c5 c6 c7 c8 c9 c10 c11 c12 c13 c14 c15
  generalize (w2.alloc (.cells #[fnV 46, fnV 47, fnV 48] 84)) = w3 at HK3 HL3 ⊢
  obtain ⟨F3, h31, h32, h33⟩ := HL3.out
  have HX3 := Lib.hid (laid_below (by simp) HX.out (show Laid w0 (w.heap.size + 1) [w.heap.size + 1] _ w3 from HL3.out))
  refine (wask_any _ A c m _ F3 w3 h31 HW.out (HA.out.below HX3.out) (fun ad e => ⟨not_late h33 HX.out.size (HN.out ad e), Nat.lt_of_lt_of_le (HN.out ad e) HX3.out.size⟩) hl hc HB.out).mono ?_
  rintro e w4 ⟨rfl, hL4⟩
  have HL4 := Lib.hid (laid_on h32 h33 hL4)
  clear hL4 h31 h32 h33
  obtain ⟨F4, h41, h42, h43⟩ := HL4.out
  have HX4 := Lib.hid (laid_below (by simp) HX.out HL4.out)
  go_wp2_with fail
  refine (Oct.Bytes_any _ _ F4 w4 h41 HB.out).mono ?_
  rintro e w5 ⟨v, rfl, hown, hb5⟩
  have HO := Lib.hid (own_base8 hown HX4.out.size)
  have HX5 := Lib.hid (below_on HX4.out hb5)
  clear hown hb5 h41 h42 h43
  go_wp2_with fail
  go_ret
  exact ⟨v, rfl, HO.out, HX5.out⟩
theorem body_reply {m : Msg} (h : m.kind = 2) : WM.body m = WM.nums [2, m.frm, m.dst] ++ WM.replyB m := by
  unfold WM.body WM.partB
  simp [h]
set_option maxHeartbeats 4000000 in
theorem laid_reply (A : Option Addr) (c : Nat) (m : Msg) (w : World) (hw : Wide m) (hA : IntsAt w A m.stamp) (hn : ∀ ad, A = some ad → ad.block < w.heap.size) (hl : m.stamp.length ≤ c) (hc : c ≤ 9223372036854775807) (hlen : (WM.body m).length ≤ 140737488355328) (hk : m.kind = 2) :
    Calls Try.prog 36 #[.agg (cellsM m (.slice A m.stamp.length c))] w (Oct.Fresh w (WM.body m)) := by
  have HW := Lib.hid hw; clear hw
  have HA := Lib.hid hA; clear hA
  have HN := Lib.hid hn; clear hn
  have HKD := Lib.hid hk
  rw [body_reply hk] at hlen ⊢
  have HB := Lib.hid hlen; clear hlen hk
  have HK := Lib.hid (Whole.new w 32 (cellsM m (.slice A m.stamp.length c)) |>.alloc (.cells #[.pointer none, .int .i64 0] 108))
  have HL := Lib.hid (Oct.Laid.refl (show WAt ((w.alloc (.cells (cellsM m (.slice A m.stamp.length c)) 32)).alloc (.cells #[.pointer none, .int .i64 0] 108)) (w.heap.size + 1) [] [w.heap.size + 1] from by have h := Oct.WAt.new (w.alloc (.cells (cellsM m (.slice A m.stamp.length c)) 32)); have e : (w.alloc (.cells (cellsM m (.slice A m.stamp.length c)) 32)).heap.size = w.heap.size + 1 := (by simp); rw [e] at h; exact h))
  have HX := Lib.hid (show Below w.heap.size w ((w.alloc (.cells (cellsM m (.slice A m.stamp.length c)) 32)).alloc (.cells #[.pointer none, .int .i64 0] 108)) from ((Below.refl _ w).alloc (Nat.le_refl _) _).alloc (by simp) _)
  have HS := Lib.hid (show w.heap.size + 2 = ((w.alloc (.cells (cellsM m (.slice A m.stamp.length c)) 32)).alloc (.cells #[.pointer none, .int .i64 0] 108)).heap.size by simp)
  have c0 : ((w.alloc (.cells (cellsM m (.slice A m.stamp.length c)) 32)).alloc (.cells #[.pointer none, .int .i64 0] 108)).cell? ⟨w.heap.size, 0, none⟩ = some (.int .i64 2) := by rw [← HKD.out]; exact HK.out.cell 0
  have c1 : ((w.alloc (.cells (cellsM m (.slice A m.stamp.length c)) 32)).alloc (.cells #[.pointer none, .int .i64 0] 108)).cell? ⟨w.heap.size, 1, none⟩ = some (.int .i64 m.frm) := HK.out.cell 1
  have c2 : ((w.alloc (.cells (cellsM m (.slice A m.stamp.length c)) 32)).alloc (.cells #[.pointer none, .int .i64 0] 108)).cell? ⟨w.heap.size, 2, none⟩ = some (.int .i64 m.dst) := HK.out.cell 2
  go_enter Try.func36, Try.ntmps36
  go_wp2_with fail
  clear c0 c1 c2
  generalize ((w.alloc (.cells (cellsM m (.slice A m.stamp.length c)) 32)).alloc (.cells #[.pointer none, .int .i64 0] 108)) = w0 at HK HL HX HS ⊢
  refine (numsA HL.out [2, m.frm, m.dst] HS.out rfl rfl (by simp) (by simp [HW.out.frm, HW.out.dst]; unfold In64; omega) (nums_room3 HB.out)).mono ?_
  rintro e w1 ⟨rfl, hL⟩
  clear HL
  have HL := Lib.hid hL; clear hL
  have HK1 := Lib.hid (laid_blk HL.out HK.out (by simp))
  have c0 : w1.cell? ⟨w.heap.size, 0, none⟩ = some (.int .i64 2) := by rw [← HKD.out]; exact HK1.out.cell 0
  go_wp2_with fail
  refine (layout_reply w1).mono ?_
  rintro e w2 ⟨rfl, hb2⟩
  clear c0
  have HL2 := Lib.hid (laid_more HL.out hb2)
  clear hb2 HL HK1
  have HK2 := Lib.hid (laid_blk HL2.out HK.out (by simp))
  have HK3 := Lib.hid (HK2.out.alloc (.cells #[fnV 49, fnV 50, fnV 51] 84))
  have HL3 := Lib.hid (laid_alloc HL2.out (.cells #[fnV 49, fnV 50, fnV 51] 84))
  clear HK2 HL2
  have c0 : (w2.alloc (.cells #[fnV 49, fnV 50, fnV 51] 84)).cell? ⟨w.heap.size, 0, none⟩ = some (.int .i64 m.kind) := HK3.out.cell 0
  have c1 : (w2.alloc (.cells #[fnV 49, fnV 50, fnV 51] 84)).cell? ⟨w.heap.size, 1, none⟩ = some (.int .i64 m.frm) := HK3.out.cell 1
  have c2 : (w2.alloc (.cells #[fnV 49, fnV 50, fnV 51] 84)).cell? ⟨w.heap.size, 2, none⟩ = some (.int .i64 m.dst) := HK3.out.cell 2
  have c3 : (w2.alloc (.cells #[fnV 49, fnV 50, fnV 51] 84)).cell? ⟨w.heap.size, 3, none⟩ = some (.int .i64 m.boot) := HK3.out.cell 3
  have c4 : (w2.alloc (.cells #[fnV 49, fnV 50, fnV 51] 84)).cell? ⟨w.heap.size, 4, none⟩ = some (.int .i64 m.seq) := HK3.out.cell 4
  have c5 : (w2.alloc (.cells #[fnV 49, fnV 50, fnV 51] 84)).cell? ⟨w.heap.size, 5, none⟩ = some (.int .i64 m.low) := HK3.out.cell 5
  have c6 : (w2.alloc (.cells #[fnV 49, fnV 50, fnV 51] 84)).cell? ⟨w.heap.size, 6, none⟩ = some (.int .i64 m.verb) := HK3.out.cell 6
  have c7 : (w2.alloc (.cells #[fnV 49, fnV 50, fnV 51] 84)).cell? ⟨w.heap.size, 7, none⟩ = some (.string m.path) := HK3.out.cell 7
  have c8 : (w2.alloc (.cells #[fnV 49, fnV 50, fnV 51] 84)).cell? ⟨w.heap.size, 8, none⟩ = some (.int .i64 m.mode) := HK3.out.cell 8
  have c9 : (w2.alloc (.cells #[fnV 49, fnV 50, fnV 51] 84)).cell? ⟨w.heap.size, 9, none⟩ = some (.int .i64 m.term) := HK3.out.cell 9
  have c10 : (w2.alloc (.cells #[fnV 49, fnV 50, fnV 51] 84)).cell? ⟨w.heap.size, 10, none⟩ = some (.int .i64 m.id) := HK3.out.cell 10
  have c11 : (w2.alloc (.cells #[fnV 49, fnV 50, fnV 51] 84)).cell? ⟨w.heap.size, 11, none⟩ = some (.bool m.fresh) := HK3.out.cell 11
  have c12 : (w2.alloc (.cells #[fnV 49, fnV 50, fnV 51] 84)).cell? ⟨w.heap.size, 12, none⟩ = some (.int .i64 m.code) := HK3.out.cell 12
  have c13 : (w2.alloc (.cells #[fnV 49, fnV 50, fnV 51] 84)).cell? ⟨w.heap.size, 13, none⟩ = some (.slice A m.stamp.length c) := HK3.out.cell 13
  have c14 : (w2.alloc (.cells #[fnV 49, fnV 50, fnV 51] 84)).cell? ⟨w.heap.size, 14, none⟩ = some (.int .i64 m.origin) := HK3.out.cell 14
  have c15 : (w2.alloc (.cells #[fnV 49, fnV 50, fnV 51] 84)).cell? ⟨w.heap.size, 15, none⟩ = some (.int .i64 m.number) := HK3.out.cell 15
  go_wp2_with fail
  clear c0 c1 c2 c3 c4 c5 c6 c7 c8 c9 c10 c11 c12 c13 c14 c15
  generalize (w2.alloc (.cells #[fnV 49, fnV 50, fnV 51] 84)) = w3 at HK3 HL3 ⊢
  obtain ⟨F3, h31, h32, h33⟩ := HL3.out
  have HX3 := Lib.hid (laid_below (by simp) HX.out (show Laid w0 (w.heap.size + 1) [w.heap.size + 1] _ w3 from HL3.out))
  refine (wreply_any _ A c m _ F3 w3 h31 HW.out (HA.out.below HX3.out) (fun ad e => ⟨not_late h33 HX.out.size (HN.out ad e), Nat.lt_of_lt_of_le (HN.out ad e) HX3.out.size⟩) hl hc HB.out).mono ?_
  rintro e w4 ⟨rfl, hL4⟩
  have HL4 := Lib.hid (laid_on h32 h33 hL4)
  clear hL4 h31 h32 h33
  obtain ⟨F4, h41, h42, h43⟩ := HL4.out
  have HX4 := Lib.hid (laid_below (by simp) HX.out HL4.out)
  go_wp2_with fail
  refine (Oct.Bytes_any _ _ F4 w4 h41 HB.out).mono ?_
  rintro e w5 ⟨v, rfl, hown, hb5⟩
  have HO := Lib.hid (own_base8 hown HX4.out.size)
  have HX5 := Lib.hid (below_on HX4.out hb5)
  clear hown hb5 h41 h42 h43
  go_wp2_with fail
  go_ret
  exact ⟨v, rfl, HO.out, HX5.out⟩
theorem body_recall {m : Msg} (h : m.kind = 3) : WM.body m = WM.nums [3, m.frm, m.dst] ++ WM.recallB m := by
  unfold WM.body WM.partB
  simp [h]
set_option maxHeartbeats 4000000 in
theorem laid_recall (A : Option Addr) (c : Nat) (m : Msg) (w : World) (hw : Wide m) (hA : IntsAt w A m.stamp) (hn : ∀ ad, A = some ad → ad.block < w.heap.size) (hl : m.stamp.length ≤ c) (hc : c ≤ 9223372036854775807) (hlen : (WM.body m).length ≤ 140737488355328) (hk : m.kind = 3) :
    Calls Try.prog 36 #[.agg (cellsM m (.slice A m.stamp.length c))] w (Oct.Fresh w (WM.body m)) := by
  have HW := Lib.hid hw; clear hw
  have HA := Lib.hid hA; clear hA
  have HN := Lib.hid hn; clear hn
  have HKD := Lib.hid hk
  rw [body_recall hk] at hlen ⊢
  have HB := Lib.hid hlen; clear hlen hk
  have HK := Lib.hid (Whole.new w 32 (cellsM m (.slice A m.stamp.length c)) |>.alloc (.cells #[.pointer none, .int .i64 0] 108))
  have HL := Lib.hid (Oct.Laid.refl (show WAt ((w.alloc (.cells (cellsM m (.slice A m.stamp.length c)) 32)).alloc (.cells #[.pointer none, .int .i64 0] 108)) (w.heap.size + 1) [] [w.heap.size + 1] from by have h := Oct.WAt.new (w.alloc (.cells (cellsM m (.slice A m.stamp.length c)) 32)); have e : (w.alloc (.cells (cellsM m (.slice A m.stamp.length c)) 32)).heap.size = w.heap.size + 1 := (by simp); rw [e] at h; exact h))
  have HX := Lib.hid (show Below w.heap.size w ((w.alloc (.cells (cellsM m (.slice A m.stamp.length c)) 32)).alloc (.cells #[.pointer none, .int .i64 0] 108)) from ((Below.refl _ w).alloc (Nat.le_refl _) _).alloc (by simp) _)
  have HS := Lib.hid (show w.heap.size + 2 = ((w.alloc (.cells (cellsM m (.slice A m.stamp.length c)) 32)).alloc (.cells #[.pointer none, .int .i64 0] 108)).heap.size by simp)
  have c0 : ((w.alloc (.cells (cellsM m (.slice A m.stamp.length c)) 32)).alloc (.cells #[.pointer none, .int .i64 0] 108)).cell? ⟨w.heap.size, 0, none⟩ = some (.int .i64 3) := by rw [← HKD.out]; exact HK.out.cell 0
  have c1 : ((w.alloc (.cells (cellsM m (.slice A m.stamp.length c)) 32)).alloc (.cells #[.pointer none, .int .i64 0] 108)).cell? ⟨w.heap.size, 1, none⟩ = some (.int .i64 m.frm) := HK.out.cell 1
  have c2 : ((w.alloc (.cells (cellsM m (.slice A m.stamp.length c)) 32)).alloc (.cells #[.pointer none, .int .i64 0] 108)).cell? ⟨w.heap.size, 2, none⟩ = some (.int .i64 m.dst) := HK.out.cell 2
  go_enter Try.func36, Try.ntmps36
  go_wp2_with fail
  clear c0 c1 c2
  generalize ((w.alloc (.cells (cellsM m (.slice A m.stamp.length c)) 32)).alloc (.cells #[.pointer none, .int .i64 0] 108)) = w0 at HK HL HX HS ⊢
  refine (numsA HL.out [3, m.frm, m.dst] HS.out rfl rfl (by simp) (by simp [HW.out.frm, HW.out.dst]; unfold In64; omega) (nums_room3 HB.out)).mono ?_
  rintro e w1 ⟨rfl, hL⟩
  clear HL
  have HL := Lib.hid hL; clear hL
  have HK1 := Lib.hid (laid_blk HL.out HK.out (by simp))
  have c0 : w1.cell? ⟨w.heap.size, 0, none⟩ = some (.int .i64 3) := by rw [← HKD.out]; exact HK1.out.cell 0
  go_wp2_with fail
  refine (layout_recall w1).mono ?_
  rintro e w2 ⟨rfl, hb2⟩
  clear c0
  have HL2 := Lib.hid (laid_more HL.out hb2)
  clear hb2 HL HK1
  have HK2 := Lib.hid (laid_blk HL2.out HK.out (by simp))
  have HK3 := Lib.hid (HK2.out.alloc (.cells #[fnV 52, fnV 53, fnV 54] 84))
  have HL3 := Lib.hid (laid_alloc HL2.out (.cells #[fnV 52, fnV 53, fnV 54] 84))
  clear HK2 HL2
  have c0 : (w2.alloc (.cells #[fnV 52, fnV 53, fnV 54] 84)).cell? ⟨w.heap.size, 0, none⟩ = some (.int .i64 m.kind) := HK3.out.cell 0
  have c1 : (w2.alloc (.cells #[fnV 52, fnV 53, fnV 54] 84)).cell? ⟨w.heap.size, 1, none⟩ = some (.int .i64 m.frm) := HK3.out.cell 1
  have c2 : (w2.alloc (.cells #[fnV 52, fnV 53, fnV 54] 84)).cell? ⟨w.heap.size, 2, none⟩ = some (.int .i64 m.dst) := HK3.out.cell 2
  have c3 : (w2.alloc (.cells #[fnV 52, fnV 53, fnV 54] 84)).cell? ⟨w.heap.size, 3, none⟩ = some (.int .i64 m.boot) := HK3.out.cell 3
  have c4 : (w2.alloc (.cells #[fnV 52, fnV 53, fnV 54] 84)).cell? ⟨w.heap.size, 4, none⟩ = some (.int .i64 m.seq) := HK3.out.cell 4
  have c5 : (w2.alloc (.cells #[fnV 52, fnV 53, fnV 54] 84)).cell? ⟨w.heap.size, 5, none⟩ = some (.int .i64 m.low) := HK3.out.cell 5
  have c6 : (w2.alloc (.cells #[fnV 52, fnV 53, fnV 54] 84)).cell? ⟨w.heap.size, 6, none⟩ = some (.int .i64 m.verb) := HK3.out.cell 6
  have c7 : (w2.alloc (.cells #[fnV 52, fnV 53, fnV 54] 84)).cell? ⟨w.heap.size, 7, none⟩ = some (.string m.path) := HK3.out.cell 7
  have c8 : (w2.alloc (.cells #[fnV 52, fnV 53, fnV 54] 84)).cell? ⟨w.heap.size, 8, none⟩ = some (.int .i64 m.mode) := HK3.out.cell 8
  have c9 : (w2.alloc (.cells #[fnV 52, fnV 53, fnV 54] 84)).cell? ⟨w.heap.size, 9, none⟩ = some (.int .i64 m.term) := HK3.out.cell 9
  have c10 : (w2.alloc (.cells #[fnV 52, fnV 53, fnV 54] 84)).cell? ⟨w.heap.size, 10, none⟩ = some (.int .i64 m.id) := HK3.out.cell 10
  have c11 : (w2.alloc (.cells #[fnV 52, fnV 53, fnV 54] 84)).cell? ⟨w.heap.size, 11, none⟩ = some (.bool m.fresh) := HK3.out.cell 11
  have c12 : (w2.alloc (.cells #[fnV 52, fnV 53, fnV 54] 84)).cell? ⟨w.heap.size, 12, none⟩ = some (.int .i64 m.code) := HK3.out.cell 12
  have c13 : (w2.alloc (.cells #[fnV 52, fnV 53, fnV 54] 84)).cell? ⟨w.heap.size, 13, none⟩ = some (.slice A m.stamp.length c) := HK3.out.cell 13
  have c14 : (w2.alloc (.cells #[fnV 52, fnV 53, fnV 54] 84)).cell? ⟨w.heap.size, 14, none⟩ = some (.int .i64 m.origin) := HK3.out.cell 14
  have c15 : (w2.alloc (.cells #[fnV 52, fnV 53, fnV 54] 84)).cell? ⟨w.heap.size, 15, none⟩ = some (.int .i64 m.number) := HK3.out.cell 15
  go_wp2_with fail
  clear c0 c1 c2 c3 c4 c5 c6 c7 c8 c9 c10 c11 c12 c13 c14 c15
  generalize (w2.alloc (.cells #[fnV 52, fnV 53, fnV 54] 84)) = w3 at HK3 HL3 ⊢
  obtain ⟨F3, h31, h32, h33⟩ := HL3.out
  have HX3 := Lib.hid (laid_below (by simp) HX.out (show Laid w0 (w.heap.size + 1) [w.heap.size + 1] _ w3 from HL3.out))
  refine (wrecall_any _ A c m _ F3 w3 h31 HW.out (HA.out.below HX3.out) (fun ad e => ⟨not_late h33 HX.out.size (HN.out ad e), Nat.lt_of_lt_of_le (HN.out ad e) HX3.out.size⟩) hl hc HB.out).mono ?_
  rintro e w4 ⟨rfl, hL4⟩
  have HL4 := Lib.hid (laid_on h32 h33 hL4)
  clear hL4 h31 h32 h33
  obtain ⟨F4, h41, h42, h43⟩ := HL4.out
  have HX4 := Lib.hid (laid_below (by simp) HX.out HL4.out)
  go_wp2_with fail
  refine (Oct.Bytes_any _ _ F4 w4 h41 HB.out).mono ?_
  rintro e w5 ⟨v, rfl, hown, hb5⟩
  have HO := Lib.hid (own_base8 hown HX4.out.size)
  have HX5 := Lib.hid (below_on HX4.out hb5)
  clear hown hb5 h41 h42 h43
  go_wp2_with fail
  go_ret
  exact ⟨v, rfl, HO.out, HX5.out⟩
theorem body_done {m : Msg} (h : m.kind = 4) : WM.body m = WM.nums [4, m.frm, m.dst] ++ WM.doneB m := by
  unfold WM.body WM.partB
  simp [h]
set_option maxHeartbeats 4000000 in
theorem laid_done (A : Option Addr) (c : Nat) (m : Msg) (w : World) (hw : Wide m) (hA : IntsAt w A m.stamp) (hn : ∀ ad, A = some ad → ad.block < w.heap.size) (hl : m.stamp.length ≤ c) (hc : c ≤ 9223372036854775807) (hlen : (WM.body m).length ≤ 140737488355328) (hk : m.kind = 4) :
    Calls Try.prog 36 #[.agg (cellsM m (.slice A m.stamp.length c))] w (Oct.Fresh w (WM.body m)) := by
  have HW := Lib.hid hw; clear hw
  have HA := Lib.hid hA; clear hA
  have HN := Lib.hid hn; clear hn
  have HKD := Lib.hid hk
  rw [body_done hk] at hlen ⊢
  have HB := Lib.hid hlen; clear hlen hk
  have HK := Lib.hid (Whole.new w 32 (cellsM m (.slice A m.stamp.length c)) |>.alloc (.cells #[.pointer none, .int .i64 0] 108))
  have HL := Lib.hid (Oct.Laid.refl (show WAt ((w.alloc (.cells (cellsM m (.slice A m.stamp.length c)) 32)).alloc (.cells #[.pointer none, .int .i64 0] 108)) (w.heap.size + 1) [] [w.heap.size + 1] from by have h := Oct.WAt.new (w.alloc (.cells (cellsM m (.slice A m.stamp.length c)) 32)); have e : (w.alloc (.cells (cellsM m (.slice A m.stamp.length c)) 32)).heap.size = w.heap.size + 1 := (by simp); rw [e] at h; exact h))
  have HX := Lib.hid (show Below w.heap.size w ((w.alloc (.cells (cellsM m (.slice A m.stamp.length c)) 32)).alloc (.cells #[.pointer none, .int .i64 0] 108)) from ((Below.refl _ w).alloc (Nat.le_refl _) _).alloc (by simp) _)
  have HS := Lib.hid (show w.heap.size + 2 = ((w.alloc (.cells (cellsM m (.slice A m.stamp.length c)) 32)).alloc (.cells #[.pointer none, .int .i64 0] 108)).heap.size by simp)
  have c0 : ((w.alloc (.cells (cellsM m (.slice A m.stamp.length c)) 32)).alloc (.cells #[.pointer none, .int .i64 0] 108)).cell? ⟨w.heap.size, 0, none⟩ = some (.int .i64 4) := by rw [← HKD.out]; exact HK.out.cell 0
  have c1 : ((w.alloc (.cells (cellsM m (.slice A m.stamp.length c)) 32)).alloc (.cells #[.pointer none, .int .i64 0] 108)).cell? ⟨w.heap.size, 1, none⟩ = some (.int .i64 m.frm) := HK.out.cell 1
  have c2 : ((w.alloc (.cells (cellsM m (.slice A m.stamp.length c)) 32)).alloc (.cells #[.pointer none, .int .i64 0] 108)).cell? ⟨w.heap.size, 2, none⟩ = some (.int .i64 m.dst) := HK.out.cell 2
  go_enter Try.func36, Try.ntmps36
  go_wp2_with fail
  clear c0 c1 c2
  generalize ((w.alloc (.cells (cellsM m (.slice A m.stamp.length c)) 32)).alloc (.cells #[.pointer none, .int .i64 0] 108)) = w0 at HK HL HX HS ⊢
  refine (numsA HL.out [4, m.frm, m.dst] HS.out rfl rfl (by simp) (by simp [HW.out.frm, HW.out.dst]; unfold In64; omega) (nums_room3 HB.out)).mono ?_
  rintro e w1 ⟨rfl, hL⟩
  clear HL
  have HL := Lib.hid hL; clear hL
  have HK1 := Lib.hid (laid_blk HL.out HK.out (by simp))
  have c0 : w1.cell? ⟨w.heap.size, 0, none⟩ = some (.int .i64 4) := by rw [← HKD.out]; exact HK1.out.cell 0
  go_wp2_with fail
  refine (layout_done w1).mono ?_
  rintro e w2 ⟨rfl, hb2⟩
  clear c0
  have HL2 := Lib.hid (laid_more HL.out hb2)
  clear hb2 HL HK1
  have HK2 := Lib.hid (laid_blk HL2.out HK.out (by simp))
  have HK3 := Lib.hid (HK2.out.alloc (.cells #[fnV 55, fnV 56, fnV 57] 84))
  have HL3 := Lib.hid (laid_alloc HL2.out (.cells #[fnV 55, fnV 56, fnV 57] 84))
  clear HK2 HL2
  have c0 : (w2.alloc (.cells #[fnV 55, fnV 56, fnV 57] 84)).cell? ⟨w.heap.size, 0, none⟩ = some (.int .i64 m.kind) := HK3.out.cell 0
  have c1 : (w2.alloc (.cells #[fnV 55, fnV 56, fnV 57] 84)).cell? ⟨w.heap.size, 1, none⟩ = some (.int .i64 m.frm) := HK3.out.cell 1
  have c2 : (w2.alloc (.cells #[fnV 55, fnV 56, fnV 57] 84)).cell? ⟨w.heap.size, 2, none⟩ = some (.int .i64 m.dst) := HK3.out.cell 2
  have c3 : (w2.alloc (.cells #[fnV 55, fnV 56, fnV 57] 84)).cell? ⟨w.heap.size, 3, none⟩ = some (.int .i64 m.boot) := HK3.out.cell 3
  have c4 : (w2.alloc (.cells #[fnV 55, fnV 56, fnV 57] 84)).cell? ⟨w.heap.size, 4, none⟩ = some (.int .i64 m.seq) := HK3.out.cell 4
  have c5 : (w2.alloc (.cells #[fnV 55, fnV 56, fnV 57] 84)).cell? ⟨w.heap.size, 5, none⟩ = some (.int .i64 m.low) := HK3.out.cell 5
  have c6 : (w2.alloc (.cells #[fnV 55, fnV 56, fnV 57] 84)).cell? ⟨w.heap.size, 6, none⟩ = some (.int .i64 m.verb) := HK3.out.cell 6
  have c7 : (w2.alloc (.cells #[fnV 55, fnV 56, fnV 57] 84)).cell? ⟨w.heap.size, 7, none⟩ = some (.string m.path) := HK3.out.cell 7
  have c8 : (w2.alloc (.cells #[fnV 55, fnV 56, fnV 57] 84)).cell? ⟨w.heap.size, 8, none⟩ = some (.int .i64 m.mode) := HK3.out.cell 8
  have c9 : (w2.alloc (.cells #[fnV 55, fnV 56, fnV 57] 84)).cell? ⟨w.heap.size, 9, none⟩ = some (.int .i64 m.term) := HK3.out.cell 9
  have c10 : (w2.alloc (.cells #[fnV 55, fnV 56, fnV 57] 84)).cell? ⟨w.heap.size, 10, none⟩ = some (.int .i64 m.id) := HK3.out.cell 10
  have c11 : (w2.alloc (.cells #[fnV 55, fnV 56, fnV 57] 84)).cell? ⟨w.heap.size, 11, none⟩ = some (.bool m.fresh) := HK3.out.cell 11
  have c12 : (w2.alloc (.cells #[fnV 55, fnV 56, fnV 57] 84)).cell? ⟨w.heap.size, 12, none⟩ = some (.int .i64 m.code) := HK3.out.cell 12
  have c13 : (w2.alloc (.cells #[fnV 55, fnV 56, fnV 57] 84)).cell? ⟨w.heap.size, 13, none⟩ = some (.slice A m.stamp.length c) := HK3.out.cell 13
  have c14 : (w2.alloc (.cells #[fnV 55, fnV 56, fnV 57] 84)).cell? ⟨w.heap.size, 14, none⟩ = some (.int .i64 m.origin) := HK3.out.cell 14
  have c15 : (w2.alloc (.cells #[fnV 55, fnV 56, fnV 57] 84)).cell? ⟨w.heap.size, 15, none⟩ = some (.int .i64 m.number) := HK3.out.cell 15
  go_wp2_with fail
  clear c0 c1 c2 c3 c4 c5 c6 c7 c8 c9 c10 c11 c12 c13 c14 c15
  generalize (w2.alloc (.cells #[fnV 55, fnV 56, fnV 57] 84)) = w3 at HK3 HL3 ⊢
  obtain ⟨F3, h31, h32, h33⟩ := HL3.out
  have HX3 := Lib.hid (laid_below (by simp) HX.out (show Laid w0 (w.heap.size + 1) [w.heap.size + 1] _ w3 from HL3.out))
  refine (wdone_any _ m _ _ F3 w3 h31 HW.out HB.out).mono ?_
  rintro e w4 ⟨rfl, hL4⟩
  have HL4 := Lib.hid (laid_on h32 h33 hL4)
  clear hL4 h31 h32 h33
  obtain ⟨F4, h41, h42, h43⟩ := HL4.out
  have HX4 := Lib.hid (laid_below (by simp) HX.out HL4.out)
  go_wp2_with fail
  refine (Oct.Bytes_any _ _ F4 w4 h41 HB.out).mono ?_
  rintro e w5 ⟨v, rfl, hown, hb5⟩
  have HO := Lib.hid (own_base8 hown HX4.out.size)
  have HX5 := Lib.hid (below_on HX4.out hb5)
  clear hown hb5 h41 h42 h43
  go_wp2_with fail
  go_ret
  exact ⟨v, rfl, HO.out, HX5.out⟩
theorem body_op {m : Msg} (h : m.kind = 5) : WM.body m = WM.nums [5, m.frm, m.dst] ++ WM.opB m := by
  unfold WM.body WM.partB
  simp [h]
set_option maxHeartbeats 4000000 in
theorem laid_op (A : Option Addr) (c : Nat) (m : Msg) (w : World) (hw : Wide m) (hA : IntsAt w A m.stamp) (hn : ∀ ad, A = some ad → ad.block < w.heap.size) (hl : m.stamp.length ≤ c) (hc : c ≤ 9223372036854775807) (hlen : (WM.body m).length ≤ 140737488355328) (hk : m.kind = 5) :
    Calls Try.prog 36 #[.agg (cellsM m (.slice A m.stamp.length c))] w (Oct.Fresh w (WM.body m)) := by
  have HW := Lib.hid hw; clear hw
  have HA := Lib.hid hA; clear hA
  have HN := Lib.hid hn; clear hn
  have HKD := Lib.hid hk
  rw [body_op hk] at hlen ⊢
  have HB := Lib.hid hlen; clear hlen hk
  have HK := Lib.hid (Whole.new w 32 (cellsM m (.slice A m.stamp.length c)) |>.alloc (.cells #[.pointer none, .int .i64 0] 108))
  have HL := Lib.hid (Oct.Laid.refl (show WAt ((w.alloc (.cells (cellsM m (.slice A m.stamp.length c)) 32)).alloc (.cells #[.pointer none, .int .i64 0] 108)) (w.heap.size + 1) [] [w.heap.size + 1] from by have h := Oct.WAt.new (w.alloc (.cells (cellsM m (.slice A m.stamp.length c)) 32)); have e : (w.alloc (.cells (cellsM m (.slice A m.stamp.length c)) 32)).heap.size = w.heap.size + 1 := (by simp); rw [e] at h; exact h))
  have HX := Lib.hid (show Below w.heap.size w ((w.alloc (.cells (cellsM m (.slice A m.stamp.length c)) 32)).alloc (.cells #[.pointer none, .int .i64 0] 108)) from ((Below.refl _ w).alloc (Nat.le_refl _) _).alloc (by simp) _)
  have HS := Lib.hid (show w.heap.size + 2 = ((w.alloc (.cells (cellsM m (.slice A m.stamp.length c)) 32)).alloc (.cells #[.pointer none, .int .i64 0] 108)).heap.size by simp)
  have c0 : ((w.alloc (.cells (cellsM m (.slice A m.stamp.length c)) 32)).alloc (.cells #[.pointer none, .int .i64 0] 108)).cell? ⟨w.heap.size, 0, none⟩ = some (.int .i64 5) := by rw [← HKD.out]; exact HK.out.cell 0
  have c1 : ((w.alloc (.cells (cellsM m (.slice A m.stamp.length c)) 32)).alloc (.cells #[.pointer none, .int .i64 0] 108)).cell? ⟨w.heap.size, 1, none⟩ = some (.int .i64 m.frm) := HK.out.cell 1
  have c2 : ((w.alloc (.cells (cellsM m (.slice A m.stamp.length c)) 32)).alloc (.cells #[.pointer none, .int .i64 0] 108)).cell? ⟨w.heap.size, 2, none⟩ = some (.int .i64 m.dst) := HK.out.cell 2
  go_enter Try.func36, Try.ntmps36
  go_wp2_with fail
  clear c0 c1 c2
  generalize ((w.alloc (.cells (cellsM m (.slice A m.stamp.length c)) 32)).alloc (.cells #[.pointer none, .int .i64 0] 108)) = w0 at HK HL HX HS ⊢
  refine (numsA HL.out [5, m.frm, m.dst] HS.out rfl rfl (by simp) (by simp [HW.out.frm, HW.out.dst]; unfold In64; omega) (nums_room3 HB.out)).mono ?_
  rintro e w1 ⟨rfl, hL⟩
  clear HL
  have HL := Lib.hid hL; clear hL
  have HK1 := Lib.hid (laid_blk HL.out HK.out (by simp))
  have c0 : w1.cell? ⟨w.heap.size, 0, none⟩ = some (.int .i64 5) := by rw [← HKD.out]; exact HK1.out.cell 0
  go_wp2_with fail
  refine (layout_op w1).mono ?_
  rintro e w2 ⟨rfl, hb2⟩
  clear c0
  have HL2 := Lib.hid (laid_more HL.out hb2)
  clear hb2 HL HK1
  have HK2 := Lib.hid (laid_blk HL2.out HK.out (by simp))
  have HK3 := Lib.hid (HK2.out.alloc (.cells #[fnV 58, fnV 59, fnV 60] 84))
  have HL3 := Lib.hid (laid_alloc HL2.out (.cells #[fnV 58, fnV 59, fnV 60] 84))
  clear HK2 HL2
  have c0 : (w2.alloc (.cells #[fnV 58, fnV 59, fnV 60] 84)).cell? ⟨w.heap.size, 0, none⟩ = some (.int .i64 m.kind) := HK3.out.cell 0
  have c1 : (w2.alloc (.cells #[fnV 58, fnV 59, fnV 60] 84)).cell? ⟨w.heap.size, 1, none⟩ = some (.int .i64 m.frm) := HK3.out.cell 1
  have c2 : (w2.alloc (.cells #[fnV 58, fnV 59, fnV 60] 84)).cell? ⟨w.heap.size, 2, none⟩ = some (.int .i64 m.dst) := HK3.out.cell 2
  have c3 : (w2.alloc (.cells #[fnV 58, fnV 59, fnV 60] 84)).cell? ⟨w.heap.size, 3, none⟩ = some (.int .i64 m.boot) := HK3.out.cell 3
  have c4 : (w2.alloc (.cells #[fnV 58, fnV 59, fnV 60] 84)).cell? ⟨w.heap.size, 4, none⟩ = some (.int .i64 m.seq) := HK3.out.cell 4
  have c5 : (w2.alloc (.cells #[fnV 58, fnV 59, fnV 60] 84)).cell? ⟨w.heap.size, 5, none⟩ = some (.int .i64 m.low) := HK3.out.cell 5
  have c6 : (w2.alloc (.cells #[fnV 58, fnV 59, fnV 60] 84)).cell? ⟨w.heap.size, 6, none⟩ = some (.int .i64 m.verb) := HK3.out.cell 6
  have c7 : (w2.alloc (.cells #[fnV 58, fnV 59, fnV 60] 84)).cell? ⟨w.heap.size, 7, none⟩ = some (.string m.path) := HK3.out.cell 7
  have c8 : (w2.alloc (.cells #[fnV 58, fnV 59, fnV 60] 84)).cell? ⟨w.heap.size, 8, none⟩ = some (.int .i64 m.mode) := HK3.out.cell 8
  have c9 : (w2.alloc (.cells #[fnV 58, fnV 59, fnV 60] 84)).cell? ⟨w.heap.size, 9, none⟩ = some (.int .i64 m.term) := HK3.out.cell 9
  have c10 : (w2.alloc (.cells #[fnV 58, fnV 59, fnV 60] 84)).cell? ⟨w.heap.size, 10, none⟩ = some (.int .i64 m.id) := HK3.out.cell 10
  have c11 : (w2.alloc (.cells #[fnV 58, fnV 59, fnV 60] 84)).cell? ⟨w.heap.size, 11, none⟩ = some (.bool m.fresh) := HK3.out.cell 11
  have c12 : (w2.alloc (.cells #[fnV 58, fnV 59, fnV 60] 84)).cell? ⟨w.heap.size, 12, none⟩ = some (.int .i64 m.code) := HK3.out.cell 12
  have c13 : (w2.alloc (.cells #[fnV 58, fnV 59, fnV 60] 84)).cell? ⟨w.heap.size, 13, none⟩ = some (.slice A m.stamp.length c) := HK3.out.cell 13
  have c14 : (w2.alloc (.cells #[fnV 58, fnV 59, fnV 60] 84)).cell? ⟨w.heap.size, 14, none⟩ = some (.int .i64 m.origin) := HK3.out.cell 14
  have c15 : (w2.alloc (.cells #[fnV 58, fnV 59, fnV 60] 84)).cell? ⟨w.heap.size, 15, none⟩ = some (.int .i64 m.number) := HK3.out.cell 15
  go_wp2_with fail
  clear c0 c1 c2 c3 c4 c5 c6 c7 c8 c9 c10 c11 c12 c13 c14 c15
  generalize (w2.alloc (.cells #[fnV 58, fnV 59, fnV 60] 84)) = w3 at HK3 HL3 ⊢
  obtain ⟨F3, h31, h32, h33⟩ := HL3.out
  have HX3 := Lib.hid (laid_below (by simp) HX.out (show Laid w0 (w.heap.size + 1) [w.heap.size + 1] _ w3 from HL3.out))
  refine (wop_any _ A c m _ F3 w3 h31 HW.out (HA.out.below HX3.out) (fun ad e => ⟨not_late h33 HX.out.size (HN.out ad e), Nat.lt_of_lt_of_le (HN.out ad e) HX3.out.size⟩) hl hc HB.out).mono ?_
  rintro e w4 ⟨rfl, hL4⟩
  have HL4 := Lib.hid (laid_on h32 h33 hL4)
  clear hL4 h31 h32 h33
  obtain ⟨F4, h41, h42, h43⟩ := HL4.out
  have HX4 := Lib.hid (laid_below (by simp) HX.out HL4.out)
  go_wp2_with fail
  refine (Oct.Bytes_any _ _ F4 w4 h41 HB.out).mono ?_
  rintro e w5 ⟨v, rfl, hown, hb5⟩
  have HO := Lib.hid (own_base8 hown HX4.out.size)
  have HX5 := Lib.hid (below_on HX4.out hb5)
  clear hown hb5 h41 h42 h43
  go_wp2_with fail
  go_ret
  exact ⟨v, rfl, HO.out, HX5.out⟩
end Go.Proofs.Ytbjemihcbbiiaaa
