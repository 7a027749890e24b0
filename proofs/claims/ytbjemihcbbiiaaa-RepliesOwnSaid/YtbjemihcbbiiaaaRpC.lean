/- Texts that belong together: RpW4, RpW6, RpW8. -/
import Derived.Test.YtbjemihcbbiiaaaRpW3
import Derived.Great.BuildSlice
namespace Go.Proofs.Ytbjemihcbbiiaaa
open Go.RowKit
open RP (Kp St)
open WM (Msg)
set_option linter.unusedVariables false
set_option linter.unusedSimpArgs false
set_option maxRecDepth 100000
/-! ### New: 1,040 cells of nothing -/
def zslot : List Value := [.int .i64 0, .int .i64 0, .int .i64 0, .int .i64 0, .int .i64 0, .int .i64 0, .int .i64 0, .string ⟨#[]⟩, .int .i64 0, .int .i64 0, .int .i64 0, .bool false, .int .i64 0, .slice none 0 0, .int .i64 0, .int .i64 0]
theorem zslot_eq : zslot = slotC WM.zero none 0 := rfl
def zkept : List Value := [.int .i64 0, .int .i64 0] ++ (List.replicate 8 zslot).flatten
def zrep : List Value := (List.replicate 8 zkept).flatten
theorem cells_rep : Try.zeroCells67 = zrep.toArray := by kernel_rfl
theorem zrep_len : zrep.toArray.size = 1040 := by kernel_rfl
theorem rep_get {x : List Value} : ∀ (n i r : Nat), i < n → r < x.length → ((List.replicate n x).flatten)[i * x.length + r]? = x[r]?
  | 0, i, r, h, _ => absurd h (Nat.not_lt_zero _)
  | n + 1, 0, r, _, hr => by
    rw [List.replicate_succ, List.flatten_cons, Nat.zero_mul, Nat.zero_add, List.getElem?_append_left hr]
  | n + 1, i + 1, r, h, hr => by
    rw [List.replicate_succ, List.flatten_cons, List.getElem?_append_right (by rw [Nat.add_mul]; omega), show (i + 1) * x.length + r - x.length = i * x.length + r by rw [Nat.add_mul]; omega]
    exact rep_get n i r (by omega) hr
theorem zrep_at {i r : Nat} (hi : i < 8) (hr : r < 130) : zrep[i * 130 + r]? = zkept[r]? := rep_get (x := zkept) 8 i r hi hr
theorem zkept_at {j q : Nat} (hj : j < 8) (hq : q < 16) : zkept[2 + (j * 16 + q)]? = zslot[q]? := by
  unfold zkept
  rw [List.getElem?_append_right (by simp), show 2 + (j * 16 + q) - [Value.int .i64 0, Value.int .i64 0].length = j * 16 + q by simp]
  exact rep_get (x := zslot) 8 j q hj hq
theorem RepAt.zero {w : World} {g lo up : Nat} (h : Whole w g 67 zrep.toArray) (hg : g < lo) (hl : lo ≤ up) (hh : up ≤ w.heap.size) : RepAt w g lo up RP.st0 := by
  refine ⟨hg, hl, hh, ⟨_, h, zrep_len⟩, rfl, fun k hk => by rw [List.eq_of_mem_replicate hk]; rfl, fun i k hi => ?_⟩
  have hi8 : i < 8 := by have := (List.getElem?_eq_some_iff.1 hi).1; simpa [RP.st0] using this
  have e := List.eq_of_mem_replicate (List.mem_of_getElem? hi)
  subst e
  refine ⟨?_, ?_, fun j m hj => ?_⟩
  · have e := zrep_at (r := 0) hi8 (by omega)
    rw [Nat.add_zero, show zkept[0]? = some (.int .i64 0) from rfl] at e
    rw [h.cell, List.getElem?_toArray, e]
    rfl
  · have e := zrep_at (r := 1) hi8 (by omega)
    rw [show zkept[1]? = some (.int .i64 0) from rfl] at e
    rw [h.cell, List.getElem?_toArray, e]
    rfl
  · have hj : (List.replicate 8 WM.zero)[j]? = some m := hj
    have hj8 : j < 8 := by have := (List.getElem?_eq_some_iff.1 hj).1; simpa using this
    have e := List.eq_of_mem_replicate (List.mem_of_getElem? hj)
    subst e
    refine ⟨none, 0, fun q v hq => ?_, fit_zero w, (by intro ad e; cases e), (by intro ad e; cases e)⟩
    have hq16 : q < 16 := (List.getElem?_eq_some_iff.1 hq).1
    rw [h.cell, List.getElem?_toArray, show i * 130 + 2 + j * 16 + q = i * 130 + (2 + (j * 16 + q)) by omega, zrep_at hi8 (by omega), zkept_at hj8 hq16]
    exact hq
set_option maxHeartbeats 1000000 in
theorem New_any (w : World) : Calls Try.prog 8 #[] w fun e w' => e = .returned (.pointer (some ⟨w.heap.size, 0, none⟩)) ∧ w' = w.alloc (.cells zrep.toArray 67) := by
  go_enter Try.func8, Try.ntmps8
  go_wp2_with fail
  go_ret
  exact ⟨rfl, by rw [← cells_rep]⟩
end Go.Proofs.Ytbjemihcbbiiaaa
namespace Go.Proofs.Ytbjemihcbbiiaaa
open Go.RowKit
open RP (Kp St)
open WM (Msg)
set_option linter.unusedVariables false
set_option linter.unusedSimpArgs false
set_option maxRecDepth 100000
def SeenNone (w : World) (e : Ending) (w' : World) : Prop := e = .returned (.tuple #[.int .i64 1, .agg (cellsM WM.zero (.slice none 0 0))]) ∧ Below w.heap.size w w'
set_option maxHeartbeats 4000000 in
theorem Seen_nil (m : Msg) (sv : Value) (w : World) : Calls Try.prog 13 #[.pointer none, .agg (cellsM m sv)] w (SeenNone w) := by
  go_enter Try.func13, Try.ntmps13
  go_wp2_with fail
  refine bodyPost_ret (v := .tuple #[.int .i64 1, .agg (cellsM WM.zero (.slice none 0 0))]) (by simp [results, Try.results13, go_sem, cellsM, WM.zero]) rfl ?_
  exact ⟨rfl, ((Below.refl _ w).alloc (Nat.le_refl _) _).alloc (by simp) _⟩
set_option maxHeartbeats 4000000 in
theorem Seen_kind (g : Nat) (m : Msg) (sv : Value) (w : World) (hk : ¬ m.kind = 1) : Calls Try.prog 13 #[.pointer (some ⟨g, 0, none⟩), .agg (cellsM m sv)] w (SeenNone w) := by
  have hd2 : (m.kind != 1) = true := by simp [hk]
  have c0 : ∀ o : Obj, ((w.alloc (.cells (cellsM m sv) 32)).alloc o).cell? ⟨w.heap.size, 0, none⟩ = some (.int .i64 m.kind) := fun o => ((Whole.new w 32 (cellsM m sv)).alloc o).cell 0
  go_enter Try.func13, Try.ntmps13
  go_wp2_with fail
  refine bodyPost_ret (v := .tuple #[.int .i64 1, .agg (cellsM WM.zero (.slice none 0 0))]) (by simp [results, Try.results13, go_sem, cellsM, WM.zero]) rfl ?_
  exact ⟨rfl, ((Below.refl _ w).alloc (Nat.le_refl _) _).alloc (by simp) _⟩
set_option maxHeartbeats 4000000 in
theorem Seen_inv (g : Nat) (A : Option Addr) (c : Nat) (m : Msg) (w : World) (hf : Fit w A c m) (hk : m.kind = 1) (hv : WM.valid m = false) :
    Calls Try.prog 13 #[.pointer (some ⟨g, 0, none⟩), .agg (cellsM m (.slice A m.stamp.length c))] w (SeenNone w) := by
  have HX := Lib.hid (((Below.refl w.heap.size w).alloc (Nat.le_refl _) (.cells (cellsM m (.slice A m.stamp.length c)) 32)).alloc (by simp) (.cells (cellsM WM.zero (.slice none 0 0)) 32))
  have HF := Lib.hid (hf.below HX.out)
  have HK := Lib.hid ((Whole.new w 32 (cellsM m (.slice A m.stamp.length c))).alloc (.cells (cellsM WM.zero (.slice none 0 0)) 32))
  have HZ := Lib.hid (show MsgBlk ((w.alloc (.cells (cellsM m (.slice A m.stamp.length c)) 32)).alloc (.cells (cellsM WM.zero (.slice none 0 0)) 32)) (w.heap.size + 1) WM.zero (.slice none 0 0) from by have h := Whole.new (w.alloc (.cells (cellsM m (.slice A m.stamp.length c)) 32)) 32 (cellsM WM.zero (.slice none 0 0)); have e : (w.alloc (.cells (cellsM m (.slice A m.stamp.length c)) 32)).heap.size = w.heap.size + 1 := (by simp); rw [e] at h; exact h)
  have HV := Lib.hid hv
  have HKk := Lib.hid hk
  have hd : (m.kind == 1) = true := by rw [hk]; rfl
  have hd2 : (m.kind != 1) = false := by rw [hk]; rfl
  have hz := fun w : World => Try.zeroValue32 w
  rw [show (Value.agg #[.int .i64 0, .int .i64 0, .int .i64 0, .int .i64 0, .int .i64 0, .int .i64 0, .int .i64 0, .string ⟨#[]⟩, .int .i64 0, .int .i64 0, .int .i64 0, .bool false, .int .i64 0, .slice none 0 0, .int .i64 0, .int .i64 0]) = .agg (cellsM WM.zero (.slice none 0 0)) from rfl] at hz
  clear hf hk hv
  go_enter Try.func13, Try.ntmps13
  go_upto_region 1 with (fail)
  clear hz
  generalize (w.alloc (.cells (cellsM m (.slice A m.stamp.length c)) 32)).alloc (.cells (cellsM WM.zero (.slice none 0 0)) 32) = w0 at HX HF HK HZ ⊢
  obtain ⟨c0, c1, c2, c3, c4, c5, c6, c7, c8, c9, c10, c11, c12, c13, c14, c15⟩ := msg_cells HK.out
  go_upto_region 2 with (
    go_at_call 21
    refine (WValid_ask A c m _ HF.out HKk.out).mono ?_
    rintro e w6 ⟨rfl, hb⟩
    replace HX := Lib.hid (below_on HX.out hb)
    replace HZ := Lib.hid (blk_below HZ.out hb)
    clear hb HF HK c0 c1 c2 c3 c4 c5 c6 c7 c8 c9 c10 c11 c12 c13 c14 c15
    rw [HV.out])
  have z0 : w6.cell? ⟨w.heap.size + 1, 0, none⟩ = some (.int .i64 0) := HZ.out.cell 0
  have z1 : w6.cell? ⟨w.heap.size + 1, 1, none⟩ = some (.int .i64 0) := HZ.out.cell 1
  have z2 : w6.cell? ⟨w.heap.size + 1, 2, none⟩ = some (.int .i64 0) := HZ.out.cell 2
  have z3 : w6.cell? ⟨w.heap.size + 1, 3, none⟩ = some (.int .i64 0) := HZ.out.cell 3
  have z4 : w6.cell? ⟨w.heap.size + 1, 4, none⟩ = some (.int .i64 0) := HZ.out.cell 4
  have z5 : w6.cell? ⟨w.heap.size + 1, 5, none⟩ = some (.int .i64 0) := HZ.out.cell 5
  have z6 : w6.cell? ⟨w.heap.size + 1, 6, none⟩ = some (.int .i64 0) := HZ.out.cell 6
  have z7 : w6.cell? ⟨w.heap.size + 1, 7, none⟩ = some (.string ⟨#[]⟩) := HZ.out.cell 7
  have z8 : w6.cell? ⟨w.heap.size + 1, 8, none⟩ = some (.int .i64 0) := HZ.out.cell 8
  have z9 : w6.cell? ⟨w.heap.size + 1, 9, none⟩ = some (.int .i64 0) := HZ.out.cell 9
  have z10 : w6.cell? ⟨w.heap.size + 1, 10, none⟩ = some (.int .i64 0) := HZ.out.cell 10
  have z11 : w6.cell? ⟨w.heap.size + 1, 11, none⟩ = some (.bool false) := HZ.out.cell 11
  have z12 : w6.cell? ⟨w.heap.size + 1, 12, none⟩ = some (.int .i64 0) := HZ.out.cell 12
  have z13 : w6.cell? ⟨w.heap.size + 1, 13, none⟩ = some (.slice none 0 0) := HZ.out.cell 13
  have z14 : w6.cell? ⟨w.heap.size + 1, 14, none⟩ = some (.int .i64 0) := HZ.out.cell 14
  have z15 : w6.cell? ⟨w.heap.size + 1, 15, none⟩ = some (.int .i64 0) := HZ.out.cell 15
  have y0 := HZ.out.frozen 0
  have y1 := HZ.out.frozen 1
  have y2 := HZ.out.frozen 2
  have y3 := HZ.out.frozen 3
  have y4 := HZ.out.frozen 4
  have y5 := HZ.out.frozen 5
  have y6 := HZ.out.frozen 6
  have y7 := HZ.out.frozen 7
  have y8 := HZ.out.frozen 8
  have y9 := HZ.out.frozen 9
  have y10 := HZ.out.frozen 10
  have y11 := HZ.out.frozen 11
  have y12 := HZ.out.frozen 12
  have y13 := HZ.out.frozen 13
  have y14 := HZ.out.frozen 14
  have y15 := HZ.out.frozen 15
  go_wp2_with fail
  obtain ⟨cur', hw', _, hM⟩ := whole_cells (cellsM WM.zero (.slice none 0 0)).toList 0 w6 _ HZ.out
  refine bodyPost_ret (v := .tuple #[.int .i64 1, .agg (cellsM WM.zero (.slice none 0 0))]) (by simp [results, Try.results13, go_sem, z0, z1, z2, z3, z4, z5, z6, z7, z8, z9, z10, z11, z12, z13, z14, z15, cellsM, WM.zero]) rfl ?_
  exact ⟨rfl, HX.out.trans (hM.below HX.out.size (fun q hq => by simp at hq; omega))⟩
end Go.Proofs.Ytbjemihcbbiiaaa
namespace Go.Proofs.Ytbjemihcbbiiaaa
open Go.RowKit
open RP (Kp St)
open WM (Msg)
set_option linter.unusedVariables false
set_option linter.unusedSimpArgs false
set_option maxRecDepth 100000
def cnt (l : List Msg) : Nat := l.countP fun a => decide (a.kind = 2)
theorem cnt_succ {l : List Msg} {j : Nat} {x : Msg} (h : l[j]? = some x) : cnt (l.take (j + 1)) = cnt (l.take j) + (if x.kind = 2 then 1 else 0) := by
  unfold cnt
  rw [List.take_add_one, h, List.countP_append]
  simp [List.countP_cons]
theorem cnt_le (l : List Msg) (j : Nat) : cnt (l.take j) ≤ j := by
  unfold cnt
  have h1 := List.countP_le_length (p := fun a : Msg => decide (a.kind = 2)) (l := l.take j)
  have h2 := List.length_take_le j l
  omega
section
variable {w : World} {g lo up : Nat} {s : St}
set_option maxHeartbeats 1000000 in
theorem Len_nil (i : Int) (w : World) : Calls Try.prog 14 #[.pointer none, .int .i64 i] w fun e w' => e = .returned (.int .i64 0) ∧ w' = w := by
  go_enter Try.func14, Try.ntmps14
  go_wp2_with fail
  go_ret
  exact ⟨rfl, rfl⟩
set_option maxHeartbeats 1000000 in
theorem Len_out (g : Nat) (i : Int) (w : World) (h : ¬ (0 ≤ i ∧ i < 8)) : Calls Try.prog 14 #[.pointer (some ⟨g, 0, none⟩), .int .i64 i] w fun e w' => e = .returned (.int .i64 0) ∧ w' = w := by
  by_cases h1 : i < 0
  · go_enter Try.func14, Try.ntmps14
    go_wp2_with fail
    go_ret
    exact ⟨rfl, rfl⟩
  · have h2 : 8 ≤ i := by omega
    clear h
    go_enter Try.func14, Try.ntmps14
    go_wp2_with fail
    go_ret
    exact ⟨rfl, rfl⟩
set_option maxHeartbeats 4000000 in
theorem Len_in (h : RepAt w g lo up s) (i : Int) (h0 : 0 ≤ i) (h8 : i < 8) {k : Kp} (hk : s[i.toNat]? = some k) :
    Calls Try.prog 14 #[.pointer (some ⟨g, 0, none⟩), .int .i64 i] w fun e w' => e = .returned (.int .i64 (RP.lenK k : Nat)) ∧ Below w.heap.size w w' := by
  have h1 : ¬ i < 0 := by omega
  have h2 : ¬ 8 ≤ i := by omega
  have hn8 := h.a8 k (List.mem_of_getElem? hk)
  obtain ⟨cs, k1, k2, k3, k4⟩ := sl_all k.ans (i.toNat * 130 + 2) (h.cl _ k hk).sl
  have HLD := Lib.hid k3
  have HCS := Lib.hid k4
  have HCN := Lib.hid k2
  have HLN := Lib.hid (show cs.flatten.length = 128 by rw [flat_len cs k2, k1, hn8])
  have HN8 := Lib.hid hn8
  clear k1 k2 k3 k4 hn8 h hk
  go_enter Try.func14, Try.ntmps14
  go_wp2_with (refine wpList_load_mid rfl 62 (.tmp 23) rfl g (i.toNat * 130 + 2) rfl cs.flatten _ HLD.out Try.underlying62 rfl (by rw [HLN.out]; kernel_rfl) ?_)
  go_loopw [5, 25] (fun nv iv wr => ∃ j : Nat, iv = .int .i64 (j : Int) ∧ nv = .int .i64 ((cnt (k.ans.take j) : Nat) : Int) ∧ j ≤ 8 ∧ Hid (Below w.heap.size w wr)) (fun nv iv _ => 8 - (intOf iv).toNat)
  case atStart => exact ⟨0, rfl, rfl, Nat.zero_le _, Lib.hid (Below.refl _ _)⟩
  case round =>
    obtain ⟨j, rfl, rfl, hj, HB⟩ := hrel
    by_cases hjn : j < 8
    · have d1 : ((j : Int) < 8) := by omega
      have d2 : ((0 : Int) ≤ (j : Int)) := by omega
      have hw : IntKind.i64.wrap ((j : Int) + 1) = (j : Int) + 1 := IntWalk.i64_in _ (by omega)
      have HN := Lib.hid (show k.ans[j]? = some (k.ans[j]'(by have := HN8.out; omega)) from List.getElem?_eq_getElem _)
      generalize k.ans[j]'(by have := HN8.out; omega) = x at HN
      obtain ⟨A, c, e1, e2, e3⟩ := HCS.out j x HN.out
      have hidx := fun w : World => run_index_slot (xs := slotC x A c) w hjn rfl (flat_at cs j _ HCN.out e1)
      unfold slotC cellsM at hidx
      have hle := cnt_le k.ans j
      have hw2 : IntKind.i64.wrap (((cnt (k.ans.take j) : Nat) : Int) + 1) = ((cnt (k.ans.take j) : Nat) : Int) + 1 := IntWalk.i64_in _ (by omega)
      clear e1 e2 e3 hle
      have HSc := Lib.hid (cnt_succ HN.out)
      have HB2 := Lib.hid (fun o : Obj => HB.out.alloc HB.out.size o)
      by_cases hk2 : x.kind = 2
      · have hd : (x.kind == 2) = true := by rw [hk2]; rfl
        have HK2 := Lib.hid hk2
        clear hk2
        go_wp2_with fail
        go_roundw
        case rel => exact ⟨j + 1, rfl, by rw [HSc.out, if_pos HK2.out]; rfl, by omega, Lib.hid (HB2.out _)⟩
        case measure => simp [intOf]; omega
      · have hd : (x.kind == 2) = false := by simp [hk2]
        have HK2 := Lib.hid hk2
        clear hk2
        go_wp2_with fail
        go_roundw
        case rel => exact ⟨j + 1, rfl, by rw [HSc.out, if_neg HK2.out]; rfl, by omega, Lib.hid (HB2.out _)⟩
        case measure => simp [intOf]; omega
    · have e8 : j = 8 := by omega
      subst e8
      have d1 : decide (((8 : Nat) : Int) < 8) = false := by simp
      have HE := Lib.hid (show cnt (k.ans.take 8) = RP.lenK k by unfold cnt RP.lenK; rw [List.take_of_length_le (by have := HN8.out; omega)])
      rw [HE.out]
      go_wp2_with fail
      go_ret
      exact ⟨rfl, HB.out⟩
theorem Len_any (h : RepAt w g lo up s) (i : Int) : Calls Try.prog 14 #[.pointer (some ⟨g, 0, none⟩), .int .i64 i] w fun e w' => e = .returned (.int .i64 (RP.len s i : Nat)) ∧ Below w.heap.size w w' := by
  by_cases hi : 0 ≤ i ∧ i < 8
  · have hk : s[i.toNat]? = some (RP.cl s i) := by
      unfold RP.cl
      rw [List.getElem?_eq_getElem (by rw [h.n8]; omega)]
      rfl
    have := Len_in h i hi.1 hi.2 hk
    rw [show RP.len s i = RP.lenK (RP.cl s i) by unfold RP.len; rw [if_pos hi]]
    exact this
  · rw [show RP.len s i = 0 by unfold RP.len; rw [if_neg hi]]
    exact (Len_out g i w hi).mono fun e w' ⟨h1, h2⟩ => ⟨h1, by rw [h2]; exact Below.refl _ _⟩
end
end Go.Proofs.Ytbjemihcbbiiaaa
