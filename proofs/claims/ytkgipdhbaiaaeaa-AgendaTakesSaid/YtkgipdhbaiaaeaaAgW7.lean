/- The package's calls on one agenda: Put, Drop, Get, First, Take. -/
import Derived.Test.YtkgipdhbaiaaeaaAgW6
namespace Go.Proofs.Ytkgipdhbaiaaeaa
open Go.RowKit Go.Sort
open AM (It HS g sw)
set_option linter.unusedVariables false
set_option linter.unusedSimpArgs false
set_option maxRecDepth 100000
theorem drewN_below (w : World) (q : Nat) : Below w.heap.size w (w.drewN q) := ⟨rfl, rfl, rfl, Nat.le_refl _, fun _ _ => rfl⟩
theorem three_cells {w : World} {bx : Nat} {x : It} (H : Whole w bx 29 (three x)) : w.cell? ⟨bx, 0, none⟩ = some (.int .i64 x.due) ∧ w.cell? ⟨bx, 1, none⟩ = some (.int .i64 x.kind) ∧ w.cell? ⟨bx, 2, none⟩ = some (.int .i64 x.key) := ⟨H.cell 0, H.cell 1, H.cell 2⟩
/-- A box of the call's own. -/
structure Bx (w0 w : World) (x : It) : Prop where
  whole : Whole w w0.heap.size 29 (three x)
  below : Below w0.heap.size w0 w
theorem Bx.start (w : World) (x : It) : Bx w (w.alloc (.cells (three x) 29)) x := ⟨Whole.new w _ _, (Below.refl _ w).alloc (Nat.le_refl _) _⟩
theorem Bx.put {w0 w : World} {x : It} (h : Bx w0 w x) (y : It) : Bx w0 (((w.setCell ⟨w0.heap.size, 0, none⟩ (.int .i64 y.due)).setCell ⟨w0.heap.size, 1, none⟩ (.int .i64 y.kind)).setCell ⟨w0.heap.size, 2, none⟩ (.int .i64 y.key)) y :=
  ⟨((h.whole.store 0 _).store 1 _).store 2 _, ((h.below.setCell (Nat.le_refl _) _).setCell (Nat.le_refl _) _).setCell (Nat.le_refl _) _⟩
theorem Bx.on {w0 w w' : World} {x : It} (h : Bx w0 w x) (hb : Below w.heap.size w w') : Bx w0 w' x := ⟨(Mod.of_below hb []).whole h.whole (by simp), below_on h.below hb⟩
section
variable {w w' : World} {b n : Nat} {h : List It} {L : List It} {F : List Nat}
set_option maxHeartbeats 1000000 in
theorem Put_nil (x : It) (w : World) : Calls Try.prog 10 #[.pointer none, agg x] w fun e w' => e = .returned (.int .i64 1) ∧ Below w.heap.size w w' := by
  have HB := Lib.hid (Bx.start w x).below
  unfold agg
  unfold three at HB
  go_enter Try.func10, Try.ntmps10
  go_wp2_with fail
  go_ret
  exact ⟨rfl, HB.out⟩
def PutPost (w : World) (b : Nat) (L : List It) (x : It) (e : Ending) (w' : World) : Prop := e = .returned (.int .i64 (AM.put L x).2) ∧ AgAt w' b (AM.put L x).1 ∧ Mod [b] w w'
set_option maxHeartbeats 4000000 in
theorem Put_any (H : AgAt w b L) (x : It) : Calls Try.prog 10 #[.pointer (some ⟨b, 0, none⟩), agg x] w (PutPost w b L x) := by
  have hlt := H.lt
  obtain ⟨h, hA, hS⟩ := H
  have HS0 := Lib.hid hS
  have hX := Bx.start w x
  have HA1 := Lib.hid (hA.below hX.below)
  have HX := Lib.hid hX
  obtain ⟨n, hn⟩ : ∃ n, L.length = n := ⟨_, rfl⟩
  have HN := Lib.hid hn
  have hnb : ¬ b = w.heap.size := by omega
  have hnb2 : ¬ w.heap.size = b := by omega
  rw [hn] at HA1 HS0
  clear hA hS hX hn
  unfold agg
  go_enter Try.func10, Try.ntmps10
  have q0 : (w.alloc (.cells (three x) 29)).cell? ⟨w.heap.size, 0, none⟩ = some (.int .i64 x.due) := (three_cells HX.out.whole).1
  have q1 : (w.alloc (.cells (three x) 29)).cell? ⟨w.heap.size, 1, none⟩ = some (.int .i64 x.kind) := (three_cells HX.out.whole).2.1
  have q2 : (w.alloc (.cells (three x) 29)).cell? ⟨w.heap.size, 2, none⟩ = some (.int .i64 x.key) := (three_cells HX.out.whole).2.2
  unfold three at q0 q1 q2 HX HA1
  go_wp2_with fail
  generalize w.alloc (.cells #[.int .i64 x.due, .int .i64 x.kind, .int .i64 x.key] 29) = w1 at HX HA1 q0 q1 q2 ⊢
  have HX' : Hid (Bx w w1 x) := HX
  clear HX
  refine (may_any x w1).mono ?_
  rintro e w2 ⟨rfl, e2⟩
  have hb2 : Below w1.heap.size w1 w2 := by rw [e2]; exact may_box x w1
  clear e2
  have HX2 := Lib.hid (HX'.out.on hb2)
  have HA2 := Lib.hid (HA1.out.below hb2)
  clear hb2 HX' HA1 q0 q1 q2
  obtain ⟨q0, q1, q2⟩ := three_cells HX2.out.whole
  cases hm : AM.may x with
  | false =>
    have HP := Lib.hid (show AM.put L x = (L, 2) by unfold AM.put; rw [if_pos hm])
    clear hm
    go_wp2_with fail
    go_ret
    refine ⟨by rw [HP.out]; rfl, ?_, Mod.of_below HX2.out.below _⟩
    rw [HP.out]
    exact AgAt.of HA2.out HS0.out
  | true =>
    have HM := Lib.hid hm
    clear hm
    go_wp2_with fail
    refine (place_any x.kind x.key HA2.out).mono ?_
    rintro e w3 ⟨hp, hb3⟩
    have HX3 := Lib.hid (HX2.out.on hb3)
    have HA3 := Lib.hid (HA2.out.below hb3)
    clear hb3 HX2 HA2 q0 q1 q2
    obtain ⟨q0, q1, q2⟩ := three_cells HX3.out.whole
    rcases hp with ⟨i, h1, h2, rfl⟩ | ⟨h1, rfl⟩
    · have HH := Lib.hid (AM.hit_iff.1 h2)
      have h32 : i < 32 := by have := HA3.out.n32; omega
      clear h2
      obtain ⟨i0, i1, i2⟩ := HA3.out.item (i := i) h32
      have f0 := HA3.out.frozen (i * 3)
      have j0 : ((0 : Int) ≤ (i : Int)) := by omega
      have j1 : ((i : Int) < 32) := by omega
      go_wp2_with fail
      go_region
      have H4 := Lib.hid (HA3.out.due (i := i) h32 (d := x.due)).drew
      have HM4 := Lib.hid (((Mod.of_below HX3.out.below [b]).store (p := ⟨b, i * 3, none⟩) (.inl (by simp)) (.int .i64 x.due)).drew)
      have e4 : (⟨x.due, (g h i).kind, (g h i).key⟩ : It) = x := by
        obtain ⟨a, c⟩ := HH.out
        rw [a, c]
      rw [e4] at H4
      clear e4
      generalize (w3.setCell ⟨b, i * 3, none⟩ (.int .i64 x.due)).drew = w4 at H4 HM4 ⊢
      clear i0 i1 i2 f0 HX3 HA3 q0 q1 q2
      go_wp2_with fail
      refine (Fix_any H4.out h1 (HS0.out.heap.hole (by have := HS0.out.len; omega))).mono ?_
      rintro e w5 ⟨⟨v, rfl⟩, h', k1, k2, k3, k4⟩
      have HR := Lib.hid (show AgAt w5 b (AM.ins (AM.drop L x.kind x.key) x) from AgAt.of k1 (HS0.out.fix h1 HH.out.1 HH.out.2 k1.len k2 k3))
      have HM5 := Lib.hid (HM4.out.trans k4 (fun x hx => .inl hx))
      have HP := Lib.hid (show AM.put L x = (AM.ins (AM.drop L x.kind x.key) x, 0) by
        unfold AM.put
        rw [if_neg (by rw [HM.out]; simp), if_neg (fun hc => by
          have := AM.has_true (HS0.out.mem h1) HH.out.1 HH.out.2
          rw [this] at hc
          exact absurd hc.1 (by simp))])
      clear k1 k2 k3 k4
      go_wp2_with fail
      go_ret
      refine ⟨by rw [HP.out]; rfl, ?_, HM5.out⟩
      rw [HP.out]
      exact HR.out
    · have HH := Lib.hid (show AM.has L x.kind x.key = false from AM.has_false.2 (fun z hz e => by
        obtain ⟨i, hi, rfl⟩ := HS0.out.place hz
        have := h1 i hi
        rw [AM.hit_iff.2 e] at this
        cases this))
      clear h1
      go_wp2_with fail
      refine (Len_any HA3.out).mono ?_
      rintro e w4 ⟨rfl, q, e4⟩
      have hb4 : Below w3.heap.size w3 w4 := by rw [e4]; exact drewN_below w3 q
      clear e4
      have HX4 := Lib.hid (HX3.out.on hb4)
      have HA4 := Lib.hid (HA3.out.below hb4)
      clear hb4 HX3 HA3 q0 q1 q2
      obtain ⟨q0, q1, q2⟩ := three_cells HX4.out.whole
      by_cases h32 : n = 32
      · have HP := Lib.hid (show AM.put L x = (L, 51) by
          unfold AM.put
          rw [if_neg (by rw [HM.out]; simp), if_pos ⟨HH.out, HN.out.trans h32⟩])
        have e32 : ((n : Int) == 32) = true := by rw [beq_iff_eq]; omega
        go_wp2_with fail
        go_ret
        refine ⟨by rw [HP.out]; rfl, ?_, Mod.of_below HX4.out.below _⟩
        rw [HP.out]
        exact AgAt.of HA4.out HS0.out
      · have h33 : n < 32 := by have := HA4.out.n32; omega
        have HP := Lib.hid (show AM.put L x = (AM.ins (AM.drop L x.kind x.key) x, 0) by
          unfold AM.put
          rw [if_neg (by rw [HM.out]; simp), if_neg (fun hc => h32 (HN.out.symm.trans hc.2))])
        have e32 : ((n : Int) == 32) = false := by rw [beq_eq_false_iff_ne]; omega
        go_wp2_with fail
        go_still_tail 6, (by kernel_rfl)
        change wpList _ _ _ _ _ w4.drew
        have H5 := Lib.hid (show AgH w4.drew b h n from HA4.out.drew)
        have HM5 := Lib.hid ((Mod.of_below HX4.out.below [b]).drew)
        clear HX4 HA4 q0 q1 q2
        generalize w4.drew = w5 at H5 HM5 ⊢
        go_wp2_with fail
        refine (Push_any H5.out h33 HS0.out.heap x).mono ?_
        rintro e w6 ⟨⟨v, rfl⟩, h', k1, k2, k3, k4⟩
        have HR := Lib.hid (show AgAt w6 b (AM.ins (AM.drop L x.kind x.key) x) from AgAt.of k1 (HS0.out.push h33 HH.out k1.len k2 k3))
        have HM6 := Lib.hid (HM5.out.trans k4 (fun x hx => .inl hx))
        clear k1 k2 k3 k4
        go_wp2_with fail
        go_ret
        refine ⟨by rw [HP.out]; rfl, ?_, HM6.out⟩
        rw [HP.out]
        exact HR.out
/-! ### Drop -/
def DropPost (w : World) (b : Nat) (L : List It) (k y : Int) (e : Ending) (w' : World) : Prop := e = .returned (.bool (AM.has L k y)) ∧ AgAt w' b (AM.drop L k y) ∧ Mod [b] w w'
set_option maxHeartbeats 1000000 in
theorem Drop_nil (k y : Int) (w : World) : Calls Try.prog 13 #[.pointer none, .int .i64 k, .int .i64 y] w fun e w' => e = .returned (.bool false) ∧ Below w.heap.size w w' := by
  go_enter Try.func13, Try.ntmps13
  go_wp2_with fail
  refine (place_nil k y w).mono ?_
  rintro e w1 ⟨rfl, hb⟩
  have HB := Lib.hid hb
  clear hb
  go_wp2_with fail
  go_ret
  exact ⟨rfl, HB.out⟩
set_option maxHeartbeats 2000000 in
theorem Drop_any (H : AgAt w b L) (k y : Int) : Calls Try.prog 13 #[.pointer (some ⟨b, 0, none⟩), .int .i64 k, .int .i64 y] w (DropPost w b L k y) := by
  obtain ⟨h, hA, hS⟩ := H
  have HS0 := Lib.hid hS
  have HA := Lib.hid hA
  obtain ⟨n, hn⟩ : ∃ n, L.length = n := ⟨_, rfl⟩
  rw [hn] at HA HS0
  clear hA hS hn
  go_enter Try.func13, Try.ntmps13
  go_wp2_with fail
  refine (place_any k y HA.out).mono ?_
  rintro e w1 ⟨hp, hb⟩
  have HA1 := Lib.hid (HA.out.below hb)
  have HM1 := Lib.hid (Mod.of_below hb [b])
  clear hb HA
  rcases hp with ⟨i, h1, h2, rfl⟩ | ⟨h1, rfl⟩
  · have HH := Lib.hid (AM.hit_iff.1 h2)
    clear h2
    have j0 : (((i : Int)) < 0) = False := by simp
    go_wp2_with fail
    refine (Remove_any HA1.out h1 HS0.out.heap).mono ?_
    rintro e w2 ⟨⟨v, rfl⟩, h', k1, k2, k3, k4⟩
    have hd := HS0.out.out h1 k1.len k2 k3
    rw [HH.out.1, HH.out.2] at hd
    have HR := Lib.hid (show AgAt w2 b (AM.drop L k y) from AgAt.of k1 hd)
    have HM2 := Lib.hid (HM1.out.trans k4 (fun x hx => .inl hx))
    clear k1 k2 k3 k4 hd
    have HT := Lib.hid (AM.has_true (HS0.out.mem h1) HH.out.1 HH.out.2)
    go_wp2_with fail
    go_ret
    exact ⟨by rw [HT.out]; rfl, HR.out, HM2.out⟩
  · have HH := Lib.hid (show AM.has L k y = false from AM.has_false.2 (fun z hz e => by
      obtain ⟨i, hi, rfl⟩ := HS0.out.place hz
      have := h1 i hi
      rw [AM.hit_iff.2 e] at this
      cases this))
    clear h1
    go_wp2_with fail
    go_ret
    refine ⟨by rw [HH.out]; rfl, ?_, HM1.out⟩
    rw [AM.drop_same HH.out]
    exact AgAt.of HA1.out HS0.out
/-! ### Get -/
def itz : It := ⟨0, 0, 0⟩
def tup (x : It) (r : Bool) : Value := .tuple #[agg x, .bool r]
def GetPost (w : World) (L : List It) (k y : Int) (e : Ending) (w' : World) : Prop := Below w.heap.size w w' ∧ ((AM.has L k y = false ∧ e = .returned (tup itz false)) ∨ ∃ x, x ∈ L ∧ x.kind = k ∧ x.key = y ∧ e = .returned (tup x true))
set_option maxHeartbeats 1000000 in
theorem Get_nil (k y : Int) (w : World) : Calls Try.prog 14 #[.pointer none, .int .i64 k, .int .i64 y] w fun e w' => e = .returned (tup itz false) ∧ Below w.heap.size w w' := by
  have HB0 := Lib.hid (Bx.start w itz)
  unfold three itz at HB0
  go_enter Try.func14, Try.ntmps14
  go_wp2_with fail
  generalize w.alloc (.cells #[.int .i64 0, .int .i64 0, .int .i64 0] 29) = w0 at HB0 ⊢
  have HB0' : Hid (Bx w w0 itz) := HB0
  clear HB0
  refine (place_nil k y w0).mono ?_
  rintro e w1 ⟨rfl, hb⟩
  have HB1 := Lib.hid (HB0'.out.on hb)
  clear hb HB0'
  obtain ⟨z0, z1, z2⟩ := three_cells HB1.out.whole
  have f0 := HB1.out.whole.frozen 0
  have f1 := HB1.out.whole.frozen 1
  have f2 := HB1.out.whole.frozen 2
  simp only [itz] at z0 z1 z2
  go_wp2_with fail
  have HF := Lib.hid (HB1.out.put itz)
  refine bodyPost_ret (v := tup itz false) (by simp [results, Try.results14, go_sem, z0, z1, z2, tup, agg, itz]) rfl ?_
  exact ⟨rfl, HF.out.below⟩
set_option maxHeartbeats 2000000 in
theorem Get_any (H : AgAt w b L) (k y : Int) : Calls Try.prog 14 #[.pointer (some ⟨b, 0, none⟩), .int .i64 k, .int .i64 y] w (GetPost w L k y) := by
  have hlt := H.lt
  have nb : ¬ b = w.heap.size := by omega
  have nb2 : ¬ w.heap.size = b := by omega
  obtain ⟨h, hA, hS⟩ := H
  have HS0 := Lib.hid hS
  have HA0 := Lib.hid (hA.below (Bx.start w itz).below)
  obtain ⟨n, hn⟩ : ∃ n, L.length = n := ⟨_, rfl⟩
  rw [hn] at HA0 HS0
  clear hA hS hn
  unfold three itz at HA0
  have HB0 := Lib.hid (Bx.start w itz)
  unfold three itz at HB0
  go_enter Try.func14, Try.ntmps14
  go_wp2_with fail
  generalize w.alloc (.cells #[.int .i64 0, .int .i64 0, .int .i64 0] 29) = w0 at HB0 HA0 ⊢
  have HB0' : Hid (Bx w w0 itz) := HB0
  clear HB0
  refine (place_any k y HA0.out).mono ?_
  rintro e w1 ⟨hp, hb⟩
  have HB1 := Lib.hid (HB0'.out.on hb)
  have HA1 := Lib.hid (HA0.out.below hb)
  clear hb HB0' HA0
  obtain ⟨z0, z1, z2⟩ := three_cells HB1.out.whole
  have f0 := HB1.out.whole.frozen 0
  have f1 := HB1.out.whole.frozen 1
  have f2 := HB1.out.whole.frozen 2
  simp only [itz] at z0 z1 z2
  rcases hp with ⟨i, h1, h2, rfl⟩ | ⟨h1, rfl⟩
  · have HH := Lib.hid (AM.hit_iff.1 h2)
    clear h2
    have j0 : (((i : Int)) < 0) = False := by simp
    have j2 : ((i : Int) < 32) := by have := HA1.out.n32; omega
    have j3 : ((0 : Int) ≤ (i : Int)) := by omega
    obtain ⟨i0, i1, i2⟩ := HA1.out.item (i := i) (by omega)
    have HMEM := Lib.hid (HS0.out.mem h1)
    have HF := Lib.hid (HB1.out.put (g h i))
    go_wp2_with fail
    generalize g h i = x at *
    refine bodyPost_ret (v := tup x true) (by simp [results, Try.results14, go_sem, z0, z1, z2, tup, agg, itz]) rfl ?_
    exact ⟨HF.out.below, .inr ⟨x, HMEM.out, HH.out.1, HH.out.2, rfl⟩⟩
  · have HH := Lib.hid (show AM.has L k y = false from AM.has_false.2 (fun z hz e => by
      obtain ⟨i, hi, rfl⟩ := HS0.out.place hz
      have := h1 i hi
      rw [AM.hit_iff.2 e] at this
      cases this))
    clear h1
    have HF := Lib.hid (HB1.out.put itz)
    go_wp2_with fail
    refine bodyPost_ret (v := tup itz false) (by simp [results, Try.results14, go_sem, z0, z1, z2, tup, agg, itz]) rfl ?_
    exact ⟨HF.out.below, .inl ⟨HH.out, rfl⟩⟩
/-! ### First -/
def FirstPost (w : World) (L : List It) (e : Ending) (w' : World) : Prop := Below w.heap.size w w' ∧ e = .returned (match L with | [] => tup itz false | x :: _ => tup x true)
set_option maxHeartbeats 1000000 in
theorem First_nil (w : World) : Calls Try.prog 16 #[.pointer none] w (FirstPost w []) := by
  have HB0 := Lib.hid (Bx.start w itz)
  unfold three itz at HB0
  go_enter Try.func16, Try.ntmps16
  go_wp2_with fail
  generalize w.alloc (.cells #[.int .i64 0, .int .i64 0, .int .i64 0] 29) = w0 at HB0 ⊢
  have HB0' : Hid (Bx w w0 itz) := HB0
  clear HB0
  refine (in_nil w0).mono ?_
  rintro e w1 ⟨rfl, e0⟩
  obtain rfl := e0.symm
  obtain ⟨z0, z1, z2⟩ := three_cells HB0'.out.whole
  have f0 := HB0'.out.whole.frozen 0
  have f1 := HB0'.out.whole.frozen 1
  have f2 := HB0'.out.whole.frozen 2
  simp only [itz] at z0 z1 z2
  have HF := Lib.hid (HB0'.out.put itz)
  go_wp2_with fail
  refine bodyPost_ret (v := tup itz false) (by simp [results, Try.results16, go_sem, z0, z1, z2, tup, agg, itz]) rfl ?_
  exact ⟨HF.out.below, rfl⟩
set_option maxHeartbeats 2000000 in
theorem First_any (H : AgAt w b L) : Calls Try.prog 16 #[.pointer (some ⟨b, 0, none⟩)] w (FirstPost w L) := by
  have hlt := H.lt
  have nb : ¬ b = w.heap.size := by omega
  have nb2 : ¬ w.heap.size = b := by omega
  obtain ⟨h, hA, hS⟩ := H
  have HS0 := Lib.hid hS
  have HA0 := Lib.hid (hA.below (Bx.start w itz).below)
  obtain ⟨n, hn⟩ : ∃ n, L.length = n := ⟨_, rfl⟩
  rw [hn] at HA0 HS0
  clear hA hS
  unfold three itz at HA0
  have HB0 := Lib.hid (Bx.start w itz)
  unfold three itz at HB0
  go_enter Try.func16, Try.ntmps16
  go_wp2_with fail
  generalize w.alloc (.cells #[.int .i64 0, .int .i64 0, .int .i64 0] 29) = w0 at HB0 HA0 ⊢
  have HB0' : Hid (Bx w w0 itz) := HB0
  clear HB0
  refine (in_any HA0.out).mono ?_
  rintro e w1 ⟨rfl, q, e1⟩
  have hb : Below w0.heap.size w0 w1 := by rw [e1]; exact drewN_below w0 q
  clear e1
  have HB1 := Lib.hid (HB0'.out.on hb)
  have HA1 := Lib.hid (HA0.out.below hb)
  clear hb HB0' HA0
  obtain ⟨z0, z1, z2⟩ := three_cells HB1.out.whole
  have f0 := HB1.out.whole.frozen 0
  have f1 := HB1.out.whole.frozen 1
  have f2 := HB1.out.whole.frozen 2
  simp only [itz] at z0 z1 z2
  cases L with
  | nil =>
    have hn0 : n = 0 := by simpa using hn.symm
    subst hn0
    have HF := Lib.hid (HB1.out.put itz)
    clear hn
    go_wp2_with fail
    refine bodyPost_ret (v := tup itz false) (by simp [results, Try.results16, go_sem, z0, z1, z2, tup, agg, itz]) rfl ?_
    exact ⟨HF.out.below, rfl⟩
  | cons x r =>
    have j0 : ((n : Int) == 0) = false := by rw [beq_eq_false_iff_ne]; simp at hn; omega
    have j1 : (0 : Int) < (n : Int) := by simp at hn; omega
    have e0 := HS0.out.head
    obtain ⟨i0, i1, i2⟩ := HA1.out.item (i := 0) (by omega)
    rw [e0] at i0 i1 i2
    have i0' : w1.cell? ⟨b, 0, none⟩ = some (.int .i64 x.due) := i0
    have i1' : w1.cell? ⟨b, 1, none⟩ = some (.int .i64 x.kind) := i1
    have i2' : w1.cell? ⟨b, 2, none⟩ = some (.int .i64 x.key) := i2
    have HF := Lib.hid (HB1.out.put x)
    clear e0 i0 i1 i2 hn
    go_wp2_with fail
    refine bodyPost_ret (v := tup x true) (by simp [results, Try.results16, go_sem, z0, z1, z2, tup, agg, itz]) rfl ?_
    exact ⟨HF.out.below, rfl⟩
/-! ### Take -/
def tkL (L : List It) (now : Int) : List It := match L with | [] => [] | x :: r => if x.due ≤ now then r else x :: r
def tkV (L : List It) (now : Int) : Value := match L with | [] => tup itz false | x :: _ => if x.due ≤ now then tup x true else tup itz false
def TakePost (w : World) (b : Nat) (L : List It) (now : Int) (e : Ending) (w' : World) : Prop := e = .returned (tkV L now) ∧ AgAt w' b (tkL L now) ∧ Mod [b] w w'
set_option maxHeartbeats 1000000 in
theorem Take_nil (now : Int) (w : World) : Calls Try.prog 18 #[.pointer none, .int .i64 now] w fun e w' => e = .returned (tup itz false) ∧ Below w.heap.size w w' := by
  have HB0 := Lib.hid (Bx.start w itz)
  unfold three itz at HB0
  go_enter Try.func18, Try.ntmps18
  go_wp2_with fail
  generalize w.alloc (.cells #[.int .i64 0, .int .i64 0, .int .i64 0] 29) = w0 at HB0 ⊢
  have HB0' : Hid (Bx w w0 itz) := HB0
  clear HB0
  refine (First_nil w0).mono ?_
  rintro e w1 ⟨hb, rfl⟩
  have HB1 := Lib.hid (HB0'.out.on hb)
  have HL := Lib.hid hb.size
  have HSZ := Lib.hid HB0'.out.whole.lt
  clear hb HB0'
  unfold tup agg itz
  obtain ⟨z0, z1, z2⟩ := three_cells HB1.out.whole
  have f0 := HB1.out.whole.frozen 0
  have f1 := HB1.out.whole.frozen 1
  have f2 := HB1.out.whole.frozen 2
  simp only [itz] at z0 z1 z2
  have lt1 : w.heap.size < w1.heap.size := HB1.out.whole.lt
  have n1 : ¬ w.heap.size = w1.heap.size := by omega
  have n2 : ¬ w1.heap.size = w.heap.size := by omega
  have HB2 := Lib.hid ((HB1.out.put itz).on ((Below.refl _ _).alloc (Nat.le_refl _) (.cells #[.int .i64 0, .int .i64 0, .int .i64 0] 29)))
  go_wp2_with fail
  refine bodyPost_ret (v := tup itz false) (by simp [results, Try.results18, go_sem, z0, z1, z2, n1, n2, lt1, tup, agg, itz]) rfl ?_
  exact ⟨rfl, HB2.out.below⟩
set_option maxHeartbeats 4000000 in
theorem Take_any (H : AgAt w b L) (now : Int) : Calls Try.prog 18 #[.pointer (some ⟨b, 0, none⟩), .int .i64 now] w (TakePost w b L now) := by
  have hlt := H.lt
  have HA0 := Lib.hid (H.below (Bx.start w itz).below)
  have HB0 := Lib.hid (Bx.start w itz)
  clear H
  unfold three itz at HB0 HA0
  go_enter Try.func18, Try.ntmps18
  go_wp2_with fail
  generalize w.alloc (.cells #[.int .i64 0, .int .i64 0, .int .i64 0] 29) = w0 at HB0 HA0 ⊢
  have HB0' : Hid (Bx w w0 itz) := HB0
  clear HB0
  refine (First_any HA0.out).mono ?_
  rintro e w1 ⟨hb, rfl⟩
  have HB1 := Lib.hid (HB0'.out.on hb)
  have HA1 := Lib.hid (HA0.out.below hb)
  clear hb HB0' HA0
  obtain ⟨z0, z1, z2⟩ := three_cells HB1.out.whole
  have f0 := HB1.out.whole.frozen 0
  have f1 := HB1.out.whole.frozen 1
  have f2 := HB1.out.whole.frozen 2
  simp only [itz] at z0 z1 z2
  have lt1 : w.heap.size < w1.heap.size := HB1.out.whole.lt
  have n1 : ¬ w.heap.size = w1.heap.size := by omega
  have n2 : ¬ w1.heap.size = w.heap.size := by omega
  cases L with
  | nil =>
    unfold tup agg itz
    have HB2 := Lib.hid ((HB1.out.put itz).on ((Below.refl _ _).alloc (Nat.le_refl _) (.cells #[.int .i64 0, .int .i64 0, .int .i64 0] 29)))
    have HM := Lib.hid (Mod.of_below HB2.out.below [b])
    have hbw : ¬ b = w.heap.size := by omega
    have HA2 := Lib.hid ((HA1.out.mod (mod3 w1 w.heap.size 0 1 2 (.int .i64 0) (.int .i64 0) (.int .i64 0)) (by simpa using hbw)).below ((Below.refl _ _).alloc (Nat.le_refl _) (.cells #[.int .i64 0, .int .i64 0, .int .i64 0] 29)))
    go_wp2_with fail
    refine bodyPost_ret (v := tup itz false) (by simp [results, Try.results18, go_sem, z0, z1, z2, n1, n2, lt1, tup, agg, itz]) rfl ?_
    exact ⟨rfl, HA2.out, HM.out⟩
  | cons x r =>
    have HG := Lib.hid HA1.out.good.tail
    unfold tup agg
    by_cases hd : x.due ≤ now
    · have hd2 : (now < x.due) = False := by simp; omega
      have HE1 := Lib.hid (show tkL (x :: r) now = r by simp [tkL, hd])
      have HE2 := Lib.hid (show tkV (x :: r) now = tup x true by simp [tkV, hd])
      have HB2 := Lib.hid (HB1.out.on ((Below.refl _ w1).alloc (Nat.le_refl _) (.cells #[.int .i64 x.due, .int .i64 x.kind, .int .i64 x.key] 29)))
      have HI2 := Lib.hid (Whole.new w1 29 (three x))
      unfold three at HI2
      have HA2 := Lib.hid (HA1.out.below ((Below.refl _ w1).alloc (Nat.le_refl _) (.cells #[.int .i64 x.due, .int .i64 x.kind, .int .i64 x.key] 29)))
      clear z0 z1 z2 f0 f1 f2
      go_wp2_with fail
      generalize w1.alloc (.cells #[.int .i64 x.due, .int .i64 x.kind, .int .i64 x.key] 29) = w2 at HB2 HI2 HA2 ⊢
      have HI2' : Hid (Whole w2 w1.heap.size 29 (three x)) := HI2
      clear HI2
      have hb1 : b < w1.heap.size := HA1.out.lt
      have HAA := HA2.out
      obtain ⟨h, h1, h2⟩ := HAA
      have hsz : 0 < (x :: r).length := by simp
      have HQ2 := Lib.hid h2
      have HH2 := Lib.hid h1
      clear h1 h2 HA2 HA1
      refine (Pop_any HH2.out hsz HQ2.out.heap).mono ?_
      rintro e w3 ⟨⟨v, rfl⟩, h', k1, k2, k3, k4⟩
      have hd := HQ2.out.out (i := 0) hsz k1.len k2 k3
      rw [HQ2.out.head, HG.out] at hd
      have HR := Lib.hid (show AgAt w3 b r from AgAt.of k1 hd)
      have HM3 := Lib.hid ((Mod.of_below HB2.out.below [b]).trans k4 (fun x hx => .inl hx))
      have HI3 := Lib.hid (k4.whole HI2'.out (by simp; omega))
      have HB3 := Lib.hid (k4.whole HB2.out.whole (by simp; omega))
      clear k1 k2 k3 k4 hd HQ2 HH2 HI2' HB2
      obtain ⟨z0, z1, z2⟩ := three_cells HB3.out
      obtain ⟨x0, x1, x2⟩ := three_cells HI3.out
      have f0 := HB3.out.frozen 0
      have f1 := HB3.out.frozen 1
      have f2 := HB3.out.frozen 2
      simp only [itz] at z0 z1 z2
      have hwb : ¬ b = w.heap.size := by omega
      have HM4 := Lib.hid (HM3.out.trans (mod3 w3 w.heap.size 0 1 2 (.int .i64 x.due) (.int .i64 x.kind) (.int .i64 x.key)) (fun z hz => .inr (by simp at hz; omega)))
      have HR4 := Lib.hid (HR.out.mod (mod3 w3 w.heap.size 0 1 2 (.int .i64 x.due) (.int .i64 x.kind) (.int .i64 x.key)) (by simpa using hwb))
      go_wp2_with fail
      refine bodyPost_ret (v := tup x true) (by simp [results, Try.results18, go_sem, z0, z1, z2, n1, n2, lt1, tup, agg, itz]) rfl ?_
      exact ⟨by rw [HE2.out], by rw [HE1.out]; exact HR4.out, HM4.out⟩
    · have hd2 : (now < x.due) = True := by simp; omega
      have HE1 := Lib.hid (show tkL (x :: r) now = x :: r by simp [tkL, hd])
      have HE2 := Lib.hid (show tkV (x :: r) now = tup itz false by simp [tkV, hd])
      have HB2 := Lib.hid ((HB1.out.put itz).on ((Below.refl _ _).alloc (Nat.le_refl _) (.cells #[.int .i64 x.due, .int .i64 x.kind, .int .i64 x.key] 29)))
      have HM := Lib.hid (Mod.of_below HB2.out.below [b])
      have hbw : ¬ b = w.heap.size := by omega
      have HA2 := Lib.hid ((HA1.out.mod (mod3 w1 w.heap.size 0 1 2 (.int .i64 0) (.int .i64 0) (.int .i64 0)) (by simpa using hbw)).below ((Below.refl _ _).alloc (Nat.le_refl _) (.cells #[.int .i64 x.due, .int .i64 x.kind, .int .i64 x.key] 29)))
      go_wp2_with fail
      refine bodyPost_ret (v := tup itz false) (by simp [results, Try.results18, go_sem, z0, z1, z2, n1, n2, lt1, tup, agg, itz]) rfl ?_
      exact ⟨by rw [HE2.out], by rw [HE1.out]; exact HA2.out, HM.out⟩
end
end Go.Proofs.Ytkgipdhbaiaaeaa
