/- The walk of DiskOwn: it answers true, and old memory stands. -/
import Derived.Test.YtdagmkkkiaacoaaRows
import Derived.Test.YtdagmkkkiaacoaaDkW10
import Derived.Test.YtdagmkkkiaacoaaLate
import Derived.Test.YtdagmkkkiaacoaaLawBare
import Derived.JoinedCond
import Derived.OpenShut
namespace Go.Proofs.Ytdagmkkkiaacoaa.lawDiskOwn
open Go Go.RowKit Go.ChangeShapes Go.WideShapes Go.ChangeAt
set_option linter.unusedVariables false
set_option linter.unusedSimpArgs false
open By (u8s own_shape)
theorem own_full {w : World} {base n m : Nat} {ys : List Value} {v : Value} (h : w.ownsRow base 5 1 v (n + (m + 1)) ys) : ∃ g cap, v = .slice (some ⟨g, 0, none⟩) (n + (m + 1)) cap ∧ n + (m + 1) ≤ cap ∧ cap ≤ 9223372036854775807 := by
  rcases h.2 with ⟨_, h⟩ | ⟨g, cap, cur, rfl, _, _, h1, h2, _⟩
  · omega
  · exact ⟨g, cap, rfl, h1, h2⟩
/-- While three slices are appended to: the headers' block stands, rows stay rows. -/
structure T30 (F : List Nat) (w0 w1 : World) (bp : Nat) (cs : Array Value) (cur : World) : Prop where
  mod : Mod F w0 cur
  hp : Whole cur bp 35 cs
  size : w1.heap.size ≤ cur.heap.size
  hol : Holds w1 cur
section
variable {F : List Nat} {w0 w1 cur w2 : World} {bp : Nat} {cs : Array Value}
theorem T30.alloc (h : T30 F w0 w1 bp cs cur) (o : Obj) : T30 F w0 w1 bp cs (cur.alloc o) := ⟨h.mod.alloc o, h.hp.alloc o, by rw [World.size_alloc]; have := h.size; omega, h.hol.trans (Holds.alloc _ _)⟩
theorem T30.big (h : T30 F w0 w1 bp cs cur) : w0.heap.size ≤ cur.heap.size := h.mod.size
theorem T30.app (h : T30 F w0 w1 bp cs cur) {g n c : Nat} (hg : GwAt w1 F w0.heap.size g n c) (hm : Mod [g] cur w2) (hh : Holds cur w2) : T30 F w0 w1 bp cs w2 :=
  ⟨h.mod.trans hm (fun x hx => by rw [List.mem_singleton.1 hx]; exact hg.ge), hm.whole h.hp (fun hx => (hg.holds h.hol).ne h.hp (List.mem_singleton.1 hx).symm), Nat.le_trans h.size hm.size, h.hol.trans hh⟩
theorem T30.fresh (h : T30 F w0 w1 bp cs cur) {g n c : Nat} (hg : GwAt w1 F w0.heap.size g n c) (hm : Mod [g] cur w2) {p : Nat} {t : TypeId} {ds : Array Value} (hp : Whole cur p t ds) (hl : w1.heap.size ≤ p) : Whole w2 p t ds :=
  hm.whole hp (fun hx => by have := hg.lt; rw [List.mem_singleton.1 hx] at hl; omega)
end
theorem T30.held {F : List Nat} {w0 w1 cur : World} {bp : Nat} {a b c : Value} (h : T30 F w0 w1 bp #[a, b, c] cur) : cur.cell? ⟨bp, 0, none⟩ = some a ∧ cur.cell? ⟨bp, 1, none⟩ = some b ∧ cur.cell? ⟨bp, 2, none⟩ = some c := ⟨h.hp.cell 0, h.hp.cell 1, h.hp.cell 2⟩
/-- The three new headers are stored. -/
theorem T30.stored {F : List Nat} {w0 w1 cur : World} {bp : Nat} {a b c : Value} (h : T30 F w0 w1 bp #[a, b, c] cur) (hF : bp ∈ F) (x y z : Value) :
    Mod F w0 (((cur.setCell ⟨bp, 0, none⟩ x).setCell ⟨bp, 1, none⟩ y).setCell ⟨bp, 2, none⟩ z) ∧ Holds cur (((cur.setCell ⟨bp, 0, none⟩ x).setCell ⟨bp, 1, none⟩ y).setCell ⟨bp, 2, none⟩ z) ∧ Whole (((cur.setCell ⟨bp, 0, none⟩ x).setCell ⟨bp, 1, none⟩ y).setCell ⟨bp, 2, none⟩ z) bp 35 #[x, y, z] :=
  ⟨((h.mod.store (p := ⟨bp, 0, none⟩) (.inl hF) x).store (p := ⟨bp, 1, none⟩) (.inl hF) y).store (p := ⟨bp, 2, none⟩) (.inl hF) z,
   ((Holds.store cur ⟨bp, 0, none⟩ rfl x).trans (Holds.store _ ⟨bp, 1, none⟩ rfl y)).trans (Holds.store _ ⟨bp, 2, none⟩ rfl z), ((h.hp.store 0 x).store 1 y).store 2 z⟩
theorem World.below_new (w : World) (o : Obj) : Below w.heap.size w (w.alloc o) := (Below.refl _ w).alloc (Nat.le_refl _) o
/-- What the last line looks at. -/
structure Fin3 (w : World) (bb bz bq q0 q1 q2 : Nat) (F : List UInt8) (cur : World) : Prop where
  b : Whole cur bb 56 (u8s F).toArray
  z : Whole cur bz 56 (u8s (List.replicate 64 0)).toArray
  q : Whole cur bq 35 #[.slice (some ⟨q0, 0, none⟩) 64 64, .slice (some ⟨q1, 0, none⟩) 64 64, .slice (some ⟨q2, 0, none⟩) 64 64]
  a0 : Whole cur q0 56 (u8s F).toArray
  a1 : Whole cur q1 56 (u8s F).toArray
  a2 : Whole cur q2 56 (u8s F).toArray
  below : Below w.heap.size w cur
theorem Fin3.on {w cur w' : World} {bb bz bq q0 q1 q2 : Nat} {F : List UInt8} (h : Fin3 w bb bz bq q0 q1 q2 F cur) (hb : Below cur.heap.size cur w') : Fin3 w bb bz bq q0 q1 q2 F w' :=
  have hm : Mod [] cur w' := Mod.of_below hb []
  ⟨hm.whole h.b (by simp), hm.whole h.z (by simp), hm.whole h.q (by simp), hm.whole h.a0 (by simp), hm.whole h.a1 (by simp), hm.whole h.a2 (by simp), below_on h.below hb⟩
theorem Fin3.held {w cur : World} {bb bz bq q0 q1 q2 : Nat} {F : List UInt8} (h : Fin3 w bb bz bq q0 q1 q2 F cur) (hF : F.length = 64) :
    cur.cell? ⟨bq, 0, none⟩ = some (.slice (some ⟨q0, 0, none⟩) 64 64) ∧ cur.cell? ⟨bq, 1, none⟩ = some (.slice (some ⟨q1, 0, none⟩) 64 64) ∧ cur.cell? ⟨bq, 2, none⟩ = some (.slice (some ⟨q2, 0, none⟩) 64 64) ∧
    (convert 35 9 (.slice (some ⟨bb, 0, none⟩) 64 64)).run Try.prog cur = .ok (.string ⟨F.toArray⟩) cur ∧ (convert 35 9 (.slice (some ⟨q0, 0, none⟩) 64 64)).run Try.prog cur = .ok (.string ⟨F.toArray⟩) cur ∧
    (convert 35 9 (.slice (some ⟨q1, 0, none⟩) 64 64)).run Try.prog cur = .ok (.string ⟨F.toArray⟩) cur ∧ (convert 35 9 (.slice (some ⟨q2, 0, none⟩) 64 64)).run Try.prog cur = .ok (.string ⟨F.toArray⟩) cur ∧
    (convert 35 9 (.slice (some ⟨bz, 0, none⟩) 64 64)).run Try.prog cur = .ok (.string ⟨(List.replicate 64 (0 : UInt8)).toArray⟩) cur :=
  ⟨h.q.cell 0, h.q.cell 1, h.q.cell 2, By.conv_of hF.symm (Whole.reads h.b), By.conv_of hF.symm (Whole.reads h.a0), By.conv_of hF.symm (Whole.reads h.a1), By.conv_of hF.symm (Whole.reads h.a2), By.conv_of (by simp) (Whole.reads h.z)⟩
set_option maxRecDepth 100000 in
set_option maxHeartbeats 16000000 in
theorem walk (n : Int) (c : UInt8) (w : World) (hn : -9223372036854775808 ≤ n ∧ n ≤ 9223372036854775807) :
    Calls Try.prog 7 #[.int .i64 n, .int .u8 (c.toNat : Int)] w (LK.True_ w) := by
  obtain ⟨i0, hi, hz0, hz1, hz2⟩ := info_parts By.info_u8
  go_enter Try.func7, Try.ntmps7
  go_wp2_with fail
  refine (awake_any w).mono ?_
  rintro e w1 ⟨rfl, hb⟩
  have HX1 := Lib.hid hb.out
  clear hb
  go_wp2_with fail
  obtain ⟨I, hI, hI3⟩ : ∃ I : Nat, (wrap64 (n.tmod 3 + 3)).tmod 3 = (I : Int) ∧ I < 3 := by
    have h1 := Int.lt_tmod_of_pos n (show (0 : Int) < 3 by decide)
    have h3 := Int.tmod_lt_of_pos n (show (0 : Int) < 3 by decide)
    have h2 : wrap64 (n.tmod 3 + 3) = n.tmod 3 + 3 := by unfold wrap64; omega
    rw [h2, Int.tmod_eq_emod_of_nonneg (by omega)]
    exact ⟨((n.tmod 3 + 3) % 3).toNat, by omega, by omega⟩
  rw [hI]
  clear hI
  refine (filled_any c 64 64 (by decide) w1 (by decide)).mono ?_
  rintro e w2 ⟨rfl, HF2, HB2⟩
  have HX2 := Lib.hid (below_on HX1.out HB2.out)
  have HO2 := Lib.hid (show w2.ownsRow w1.heap.size 5 1 (.slice (some ⟨w1.heap.size, 0, none⟩) 64 64) 64 (u8s (fl c 64)) from ⟨by rw [By.u8s_len, fl_len], .inr ⟨w1.heap.size, 64, _, rfl, Nat.le_refl _, HF2.out, Nat.le_refl _, by unfold maxLen; omega, by rw [List.size_toArray, By.u8s_len, fl_len], by rw [show (u8s (fl c 64)).toArray.toList = u8s (fl c 64) from rfl, List.take_of_length_le (by rw [By.u8s_len, fl_len]; exact Nat.le_refl _)]⟩⟩)
  clear HF2
  go_wp2_with (first
    | (at_builtin; refine wpList_append_own_at _ rfl (.tmp 33) (.tmp 34) 35 rfl w1.heap.size 5 i0 (.int .u8 0) 1 1 Try.underlying35 hi hz0 hz1 hz2 rfl (by decide) (.slice (some ⟨w1.heap.size, 0, none⟩) 64 64) 64 (u8s (fl c 64)) rfl (HO2.out.alloc _) ⟨w2.heap.size, 0, none⟩ 2 2 (u8s [91, 92]) rfl rfl (World.news_of_block (cs := (u8s [91, 92]).toArray) (t := 5) (fr := (0, 0)) (heap_alloc_new w2 _)) By.one_u8 (by unfold maxLen; omega) (by omega) (by have := HB2.out.size; rw [World.size_alloc]; omega) ?_; intro v3 w3 hown3 hgrow3 _ _; rw [← By.u8s_append] at hown3; obtain ⟨b, cap, hv3, hcap, hcm⟩ := own_full hown3; subst hv3; have HO3 := Lib.hid hown3; have HG3 := Lib.hid hgrow3; clear hown3 hgrow3 hi hz0 hz1 hz2)
    | fail)
  have HX3 := Lib.hid ((HX2.out.alloc HX2.out.size (.cells (u8s [91, 92]).toArray 5)).grown HG3.out (by have := HX2.out.size; rw [World.size_alloc]; omega) (fun k hk => by rw [blk_of hk]; exact HX1.out.size))
  have HF := Lib.hid (show (fl c 64).length = 64 from fl_len _ _)
  have HY3 := Lib.hid (show w3.ownsRow w.heap.size 5 1 (.slice (some ⟨b, 0, none⟩) 66 cap) 66 (u8s (fl c 64 ++ [91, 92])) from ⟨HO3.out.1, HO3.out.2.imp id (fun ⟨g', cap', cur', e', hb', hr'⟩ => ⟨g', cap', cur', e', Nat.le_trans HX1.out.size hb', hr'⟩)⟩)
  clear HO2 HO3 HG3 HB2 HX1 HX2
  have HFL := Lib.hid (show ∀ cur : World, Calls Try.prog 22 #[.int .u8 (c.toNat : Int), .int .i64 64] cur fun e w' => e = .returned (.slice (some ⟨cur.heap.size, 0, none⟩) 64 64) ∧ Hid (Whole w' cur.heap.size 5 (u8s (fl c 64)).toArray) ∧ Hid (Below cur.heap.size cur w') from fun cur => filled_any c 64 64 (by decide) cur (by decide))
  generalize fl c 64 = F at HF HY3 HFL
  have HW4 := Lib.hid (Whole.new w3 35 #[.slice (some ⟨b, 0, none⟩) 64 cap, .slice (some ⟨b, 0, none⟩) 64 cap, .slice (some ⟨b, 0, none⟩) 64 cap])
  have hal := (Below.refl w3.heap.size w3).alloc (Nat.le_refl _) (.cells #[.slice (some ⟨b, 0, none⟩) 64 cap, .slice (some ⟨b, 0, none⟩) 64 cap, .slice (some ⟨b, 0, none⟩) 64 cap] 35)
  have HX4 := Lib.hid (below_on HX3.out hal)
  have HY4 := Lib.hid ((Mod.of_below hal []).own HY3.out (by simp))
  clear HX3 HY3 hal
  generalize w3.alloc (.cells #[.slice (some ⟨b, 0, none⟩) 64 cap, .slice (some ⟨b, 0, none⟩) 64 cap, .slice (some ⟨b, 0, none⟩) 64 cap] 35) = w4 at HW4 HX4 HY4 ⊢
  generalize w3.heap.size = r at HW4 ⊢
  have HR4 := Lib.hid (show RowsAt w4 (some ⟨r, 0, none⟩) [F, F, F] from fun _ => ⟨r, 0, rfl, HW4.out.lt, fun j x hx => by
    have hx3 : j < 3 := (List.getElem?_eq_some_iff.1 hx).1
    have hxF : x = F := by
      have := List.mem_of_getElem? hx
      simpa using this
    subst hxF
    refine ⟨some ⟨b, 0, none⟩, cap, ?_, bytes_pre (By.BytesAt.own HY4.out)⟩
    rw [Nat.zero_add, HW4.out.cell, HF.out]
    match j, hx3 with
    | 0, _ => rfl
    | 1, _ => rfl
    | 2, _ => rfl⟩)
  have HFT := Lib.hid (show Fit [F, F, F] 3 from fun i x hx _ => by
    have h := List.mem_of_getElem? hx
    have e : x = F := by simpa using h
    rw [e]
    exact HF.out)
  refine (From_ok (w := w4) (A := some ⟨r, 0, none⟩) (ss := [F, F, F]) 3 HR4.out (show 1 ≤ 3 ∧ 3 ≤ 512 by decide) (show 3 ≤ 3 by decide) (by decide) HFT.out).mono ?_
  rintro e w5 ⟨rfl, HD5, HB5⟩
  have HX5 := Lib.hid (below_on HX4.out HB5.out)
  have HY5 := Lib.hid ((Mod.of_below HB5.out []).own HY4.out (by simp))
  have HG5 := Lib.hid HX4.out.size
  clear HX4 HY4 HR4 HW4 HB5
  generalize w4.heap.size = gx at HD5 HG5 ⊢
  go_wp2_with fail
  refine (New_ok 3 w5 (by decide)).mono ?_
  rintro e w6 ⟨rfl, hw6⟩
  have HS6 := Lib.hid (show So w b cap gx w5.heap.size (DK.of [F, F, F]) (DK.zero 3) F w6 by
    have hal := (Below.refl w5.heap.size w5).alloc (Nat.le_refl _) (.cells (disk0 3) 59)
    rw [hw6]
    exact ⟨(Mod.of_below hal []).own HY5.out (by simp), HD5.out.below hal, DkAt.zero (by decide) w5, HG5.out, HX5.out.size, Nat.ne_of_lt HD5.out.lt, below_on HX5.out hal⟩)
  clear hw6 HX5 HY5 HG5 HD5
  generalize w5.heap.size = gy at HS6 ⊢
  have HSD := Lib.hid (HS6.out.on (Below.drew (Below.refl _ w6)))
  have HE1 := Lib.hid (show DK.werr (DK.of [F, F, F]) I 64 = 0 from DK.werr_ok rfl (by show ¬ ((I : Int) < 0 ∨ ((3 : Nat) : Int) ≤ (I : Int) ∨ (64 : Nat) ≠ 64); omega) (by show ¬ (-1 : Int) = 0; decide))
  have HE2 := Lib.hid (show DK.werr (DK.zero 3) I 64 = 0 from DK.werr_ok rfl (by show ¬ ((I : Int) < 0 ∨ ((List.replicate 3 (List.replicate 64 0) : List (List UInt8)).length : Int) ≤ (I : Int) ∨ (64 : Nat) ≠ 64); rw [List.length_replicate]; omega) (by show ¬ (-1 : Int) = 0; decide))
  have hcat := cat_no F
  go_upto_region 8 with (fail)
  go_cut [78] (fun s wx => s = .bool false ∧ Hid (So w b cap gx gy (DK.written (DK.of [F, F, F]) I F) (DK.written (DK.zero 3) I F) F wx))
  case first =>
    as_aux_lemma =>
      -- BEGIN
      have HWX := Lib.hid (HSD.out.writeX HF.out I)
      rw [HE1.out] at HWX
      have hfl : ¬ 9223372036854775807 < F.length + 2 := by rw [HF.out]; decide
      refine wp_region_noPanic ?_
      refine wp_region_held_drew (S := fun y : World => (convert 35 9 (.slice (some ⟨b, 0, none⟩) 66 cap)).run Try.prog y = .ok (.string ⟨(F ++ [91, 92]).toArray⟩) y) (by kernel_rfl) (HSD.out.conv HF.out) (fun hHeld => ?_)
      refine wpAnyH_take (i := 0) (oi := { dst := some 50, op := Op.move (Operand.tmp 8), type := 23, pos := _, after := #[], guard := none }) (v := ?_) rfl (by kernel_rfl) (by kernel_rfl) (by kernel_rfl) (fun _ _ _ h => h) (Or.inl ⟨by rfl, ?_⟩) hHeld ?_
      rotate_left
      · (intro w hSw; (try dsimp only at hSw); first | (go_simp; done) | (go_simp; with_reducible rfl))
      try simp only [Act.put, List.setIfInBounds_toArray, List.set_cons_zero, List.set_cons_succ]
      refine wpAnyH_take (i := 1) (oi := { dst := some 51, op := Op.binOp BinOp.neq 23 (Operand.tmp 50) (Operand.const (Value.int IntKind.i64 0)) 23, type := 4, pos := _, after := #[{ on := 0, ground := Ground.data }], guard := none }) (v := ?_) rfl (by kernel_rfl) (by kernel_rfl) (by kernel_rfl) (fun _ _ _ h => h) (Or.inl ⟨by rfl, ?_⟩) hHeld ?_
      rotate_left
      · (intro w hSw; (try dsimp only at hSw); first | (go_simp; done) | (go_simp; with_reducible rfl))
      try simp only [Act.put, List.setIfInBounds_toArray, List.set_cons_zero, List.set_cons_succ]
      refine wpAnyH_take (i := 2) (oi := { dst := some 52, op := Op.move (Operand.tmp 51), type := 4, pos := _, after := #[{ on := 1, ground := Ground.data }], guard := none }) (v := ?_) rfl (by kernel_rfl) (by kernel_rfl) (by kernel_rfl) (fun _ _ _ h => h) (Or.inl ⟨by rfl, ?_⟩) hHeld ?_
      rotate_left
      · (intro w hSw; (try dsimp only at hSw); first | (go_simp; done) | (go_simp; with_reducible rfl))
      try simp only [Act.put, List.setIfInBounds_toArray, List.set_cons_zero, List.set_cons_succ]
      refine wpAnyH_take (i := 3) (oi := { dst := some 53, op := Op.move (Operand.tmp 10), type := 23, pos := _, after := #[{ on := 2, ground := Ground.guard }], guard := some (2, false) }) (v := ?_) rfl (by kernel_rfl) (by kernel_rfl) (by kernel_rfl) (fun _ _ _ h => h) (Or.inl ⟨by rfl, ?_⟩) hHeld ?_
      rotate_left
      · (intro w hSw; (try dsimp only at hSw); first | (go_simp; done) | (go_simp; with_reducible rfl))
      try simp only [Act.put, List.setIfInBounds_toArray, List.set_cons_zero, List.set_cons_succ]
      refine wpAnyH_take (i := 4) (oi := { dst := some 54, op := Op.binOp BinOp.neq 23 (Operand.tmp 53) (Operand.const (Value.int IntKind.i64 0)) 23, type := 4, pos := _, after := #[{ on := 3, ground := Ground.data }, { on := 2, ground := Ground.guard }], guard := some (2, false) }) (v := ?_) rfl (by kernel_rfl) (by kernel_rfl) (by kernel_rfl) (fun _ _ _ h => h) (Or.inl ⟨by rfl, ?_⟩) hHeld ?_
      rotate_left
      · (intro w hSw; (try dsimp only at hSw); first | (go_simp; done) | (go_simp; with_reducible rfl))
      try simp only [Act.put, List.setIfInBounds_toArray, List.set_cons_zero, List.set_cons_succ]
      refine wpAnyH_take (i := 5) (oi := { dst := some 55, op := Op.pick (Operand.tmp 52) (Operand.const (Value.bool true)) (Operand.tmp 54), type := 4, pos := _, after := #[{ on := 2, ground := Ground.data }, { on := 4, ground := Ground.data }], guard := none }) (v := ?_) rfl (by kernel_rfl) (by kernel_rfl) (by kernel_rfl) (fun _ _ _ h => h) (Or.inl ⟨by rfl, ?_⟩) hHeld ?_
      rotate_left
      · (intro w hSw; (try dsimp only at hSw); first | (go_simp; done) | (go_simp; with_reducible rfl))
      try simp only [Act.put, List.setIfInBounds_toArray, List.set_cons_zero, List.set_cons_succ]
      refine wpAnyH_take (i := 6) (oi := { dst := some 56, op := Op.move (Operand.tmp 55), type := 4, pos := _, after := #[{ on := 5, ground := Ground.data }, { on := 2, ground := Ground.chain }], guard := none }) (v := ?_) rfl (by kernel_rfl) (by kernel_rfl) (by kernel_rfl) (fun _ _ _ h => h) (Or.inl ⟨by rfl, ?_⟩) hHeld ?_
      rotate_left
      · (intro w hSw; (try dsimp only at hSw); first | (go_simp; done) | (go_simp; with_reducible rfl))
      try simp only [Act.put, List.setIfInBounds_toArray, List.set_cons_zero, List.set_cons_succ]
      refine wpAnyH_take (i := 7) (oi := { dst := some 57, op := Op.move (Operand.tmp 7), type := 22, pos := _, after := #[{ on := 6, ground := Ground.guard }], guard := some (6, false) }) (v := ?_) rfl (by kernel_rfl) (by kernel_rfl) (by kernel_rfl) (fun _ _ _ h => h) (Or.inl ⟨by rfl, ?_⟩) hHeld ?_
      rotate_left
      · (intro w hSw; (try dsimp only at hSw); first | (go_simp; done) | (go_simp; with_reducible rfl))
      try simp only [Act.put, List.setIfInBounds_toArray, List.set_cons_zero, List.set_cons_succ]
      refine wpAnyH_take (i := 8) (oi := { dst := some 58, op := Op.move (Operand.tmp 0), type := 3, pos := _, after := #[{ on := 6, ground := Ground.guard }], guard := some (6, false) }) (v := ?_) rfl (by kernel_rfl) (by kernel_rfl) (by kernel_rfl) (fun _ _ _ h => h) (Or.inl ⟨by rfl, ?_⟩) hHeld ?_
      rotate_left
      · (intro w hSw; (try dsimp only at hSw); first | (go_simp; done) | (go_simp; with_reducible rfl))
      try simp only [Act.put, List.setIfInBounds_toArray, List.set_cons_zero, List.set_cons_succ]
      refine wpAnyH_take (i := 9) (oi := { dst := some 59, op := Op.move (Operand.tmp 6), type := 35, pos := _, after := #[{ on := 6, ground := Ground.guard }], guard := some (6, false) }) (v := ?_) rfl (by kernel_rfl) (by kernel_rfl) (by kernel_rfl) (fun _ _ _ h => h) (Or.inl ⟨by rfl, ?_⟩) hHeld ?_
      rotate_left
      · (intro w hSw; (try dsimp only at hSw); first | (go_simp; done) | (go_simp; with_reducible rfl))
      try simp only [Act.put, List.setIfInBounds_toArray, List.set_cons_zero, List.set_cons_succ]
      refine wpAnyH_ready (rs := [10]) (by kernel_rfl) (by simp) (AllReadyH.cons (o := { dst := some 60, op := Op.call { callee := Callee.value (Operand.func 21), args := #[Operand.tmp 57, Operand.tmp 58, Operand.tmp 59], argTypes := #[22, 3, 35] }, type := 23, pos := _, after := #[{ on := 7, ground := Ground.data }, { on := 8, ground := Ground.data }, { on := 9, ground := Ground.data }, { on := 6, ground := Ground.chain }, { on := 6, ground := Ground.guard }], guard := some (6, false) }) rfl (fun K hK => ?_) AllReadyH.nil)
      go_simp
      refine HWX.out.mono ?_
      rintro e w7 ⟨rfl, HS7⟩
      have hK7 := HS7.out.conv HF.out
      have HWY := Lib.hid (HS7.out.writeY HF.out I)
      rw [HE2.out] at HWY
      go_simp
      refine hK.out _ _ (hK7) (fun hHeld => ?_)
      clear hK K
      try simp only [Act.put, List.setIfInBounds_toArray, List.set_cons_zero, List.set_cons_succ]
      refine wpAnyH_take (i := 11) (oi := { dst := some 61, op := Op.binOp BinOp.neq 23 (Operand.tmp 60) (Operand.const (Value.int IntKind.i64 0)) 23, type := 4, pos := _, after := #[{ on := 10, ground := Ground.data }, { on := 6, ground := Ground.guard }], guard := some (6, false) }) (v := ?_) rfl (by kernel_rfl) (by kernel_rfl) (by kernel_rfl) (fun _ _ _ h => h) (Or.inl ⟨by rfl, ?_⟩) hHeld ?_
      rotate_left
      · (intro w hSw; (try dsimp only at hSw); first | (go_simp; done) | (go_simp; with_reducible rfl))
      try simp only [Act.put, List.setIfInBounds_toArray, List.set_cons_zero, List.set_cons_succ]
      refine wpAnyH_take (i := 12) (oi := { dst := some 62, op := Op.pick (Operand.tmp 56) (Operand.const (Value.bool true)) (Operand.tmp 61), type := 4, pos := _, after := #[{ on := 6, ground := Ground.data }, { on := 11, ground := Ground.data }], guard := none }) (v := ?_) rfl (by kernel_rfl) (by kernel_rfl) (by kernel_rfl) (fun _ _ _ h => h) (Or.inl ⟨by rfl, ?_⟩) hHeld ?_
      rotate_left
      · (intro w hSw; (try dsimp only at hSw); first | (go_simp; done) | (go_simp; with_reducible rfl))
      try simp only [Act.put, List.setIfInBounds_toArray, List.set_cons_zero, List.set_cons_succ]
      refine wpAnyH_take (i := 13) (oi := { dst := some 63, op := Op.move (Operand.tmp 62), type := 4, pos := _, after := #[{ on := 12, ground := Ground.data }, { on := 10, ground := Ground.chain }], guard := none }) (v := ?_) rfl (by kernel_rfl) (by kernel_rfl) (by kernel_rfl) (fun _ _ _ h => h) (Or.inl ⟨by rfl, ?_⟩) hHeld ?_
      rotate_left
      · (intro w hSw; (try dsimp only at hSw); first | (go_simp; done) | (go_simp; with_reducible rfl))
      try simp only [Act.put, List.setIfInBounds_toArray, List.set_cons_zero, List.set_cons_succ]
      refine wpAnyH_take (i := 14) (oi := { dst := some 64, op := Op.move (Operand.tmp 9), type := 22, pos := _, after := #[{ on := 13, ground := Ground.guard }], guard := some (13, false) }) (v := ?_) rfl (by kernel_rfl) (by kernel_rfl) (by kernel_rfl) (fun _ _ _ h => h) (Or.inl ⟨by rfl, ?_⟩) hHeld ?_
      rotate_left
      · (intro w hSw; (try dsimp only at hSw); first | (go_simp; done) | (go_simp; with_reducible rfl))
      try simp only [Act.put, List.setIfInBounds_toArray, List.set_cons_zero, List.set_cons_succ]
      refine wpAnyH_take (i := 15) (oi := { dst := some 65, op := Op.move (Operand.tmp 0), type := 3, pos := _, after := #[{ on := 13, ground := Ground.guard }], guard := some (13, false) }) (v := ?_) rfl (by kernel_rfl) (by kernel_rfl) (by kernel_rfl) (fun _ _ _ h => h) (Or.inl ⟨by rfl, ?_⟩) hHeld ?_
      rotate_left
      · (intro w hSw; (try dsimp only at hSw); first | (go_simp; done) | (go_simp; with_reducible rfl))
      try simp only [Act.put, List.setIfInBounds_toArray, List.set_cons_zero, List.set_cons_succ]
      refine wpAnyH_take (i := 16) (oi := { dst := some 66, op := Op.move (Operand.tmp 6), type := 35, pos := _, after := #[{ on := 13, ground := Ground.guard }], guard := some (13, false) }) (v := ?_) rfl (by kernel_rfl) (by kernel_rfl) (by kernel_rfl) (fun _ _ _ h => h) (Or.inl ⟨by rfl, ?_⟩) hHeld ?_
      rotate_left
      · (intro w hSw; (try dsimp only at hSw); first | (go_simp; done) | (go_simp; with_reducible rfl))
      try simp only [Act.put, List.setIfInBounds_toArray, List.set_cons_zero, List.set_cons_succ]
      refine wpAnyH_ready (rs := [17]) (by kernel_rfl) (by simp) (AllReadyH.cons (o := { dst := some 67, op := Op.call { callee := Callee.value (Operand.func 21), args := #[Operand.tmp 64, Operand.tmp 65, Operand.tmp 66], argTypes := #[22, 3, 35] }, type := 23, pos := _, after := #[{ on := 14, ground := Ground.data }, { on := 15, ground := Ground.data }, { on := 16, ground := Ground.data }, { on := 13, ground := Ground.chain }, { on := 13, ground := Ground.guard }], guard := some (13, false) }) rfl (fun K hK => ?_) AllReadyH.nil)
      go_simp
      refine HWY.out.mono ?_
      rintro e w8 ⟨rfl, HS8⟩
      have hK8 := HS8.out.conv HF.out
      go_simp
      refine hK.out _ _ (hK8) (fun hHeld => ?_)
      clear hK K
      try simp only [Act.put, List.setIfInBounds_toArray, List.set_cons_zero, List.set_cons_succ]
      refine wpAnyH_take (i := 18) (oi := { dst := some 68, op := Op.binOp BinOp.neq 23 (Operand.tmp 67) (Operand.const (Value.int IntKind.i64 0)) 23, type := 4, pos := _, after := #[{ on := 17, ground := Ground.data }, { on := 13, ground := Ground.guard }], guard := some (13, false) }) (v := ?_) rfl (by kernel_rfl) (by kernel_rfl) (by kernel_rfl) (fun _ _ _ h => h) (Or.inl ⟨by rfl, ?_⟩) hHeld ?_
      rotate_left
      · (intro w hSw; (try dsimp only at hSw); first | (go_simp; done) | (go_simp; with_reducible rfl))
      try simp only [Act.put, List.setIfInBounds_toArray, List.set_cons_zero, List.set_cons_succ]
      refine wpAnyH_take (i := 19) (oi := { dst := some 69, op := Op.pick (Operand.tmp 63) (Operand.const (Value.bool true)) (Operand.tmp 68), type := 4, pos := _, after := #[{ on := 13, ground := Ground.data }, { on := 18, ground := Ground.data }], guard := none }) (v := ?_) rfl (by kernel_rfl) (by kernel_rfl) (by kernel_rfl) (fun _ _ _ h => h) (Or.inl ⟨by rfl, ?_⟩) hHeld ?_
      rotate_left
      · (intro w hSw; (try dsimp only at hSw); first | (go_simp; done) | (go_simp; with_reducible rfl))
      try simp only [Act.put, List.setIfInBounds_toArray, List.set_cons_zero, List.set_cons_succ]
      refine wpAnyH_take (i := 20) (oi := { dst := some 70, op := Op.move (Operand.tmp 69), type := 4, pos := _, after := #[{ on := 19, ground := Ground.data }, { on := 17, ground := Ground.chain }], guard := none }) (v := ?_) rfl (by kernel_rfl) (by kernel_rfl) (by kernel_rfl) (fun _ _ _ h => h) (Or.inl ⟨by rfl, ?_⟩) hHeld ?_
      rotate_left
      · (intro w hSw; (try dsimp only at hSw); first | (go_simp; done) | (go_simp; with_reducible rfl))
      try simp only [Act.put, List.setIfInBounds_toArray, List.set_cons_zero, List.set_cons_succ]
      refine wpAnyH_take (i := 21) (oi := { dst := some 71, op := Op.move (Operand.tmp 5), type := 35, pos := _, after := #[{ on := 20, ground := Ground.guard }], guard := some (20, false) }) (v := ?_) rfl (by kernel_rfl) (by kernel_rfl) (by kernel_rfl) (fun _ _ _ h => h) (Or.inl ⟨by rfl, ?_⟩) hHeld ?_
      rotate_left
      · (intro w hSw; (try dsimp only at hSw); first | (go_simp; done) | (go_simp; with_reducible rfl))
      try simp only [Act.put, List.setIfInBounds_toArray, List.set_cons_zero, List.set_cons_succ]
      refine wpAnyH_take (i := 22) (oi := { dst := some 72, op := Op.convert 35 9 (Operand.tmp 71), type := 9, pos := _, after := #[{ on := 21, ground := Ground.data }, { on := 20, ground := Ground.guard }], guard := some (20, false) }) (v := ?_) rfl (by kernel_rfl) (by kernel_rfl) (by kernel_rfl) (fun _ _ _ h => h) (Or.inl ⟨by rfl, ?_⟩) hHeld ?_
      rotate_left
      · (intro w hSw; (try dsimp only at hSw); first | (go_simp; done) | (go_simp; with_reducible rfl))
      try simp only [Act.put, List.setIfInBounds_toArray, List.set_cons_zero, List.set_cons_succ]
      refine wpAnyH_take (i := 23) (oi := { dst := some 73, op := Op.move (Operand.tmp 1), type := 5, pos := _, after := #[{ on := 20, ground := Ground.guard }], guard := some (20, false) }) (v := ?_) rfl (by kernel_rfl) (by kernel_rfl) (by kernel_rfl) (fun _ _ _ h => h) (Or.inl ⟨by rfl, ?_⟩) hHeld ?_
      rotate_left
      · (intro w hSw; (try dsimp only at hSw); first | (go_simp; done) | (go_simp; with_reducible rfl))
      try simp only [Act.put, List.setIfInBounds_toArray, List.set_cons_zero, List.set_cons_succ]
      refine wpAnyH_ready (rs := [24]) (by kernel_rfl) (by simp) (AllReadyH.cons (o := { dst := some 74, op := Op.call { callee := Callee.value (Operand.func 22), args := #[Operand.tmp 73, Operand.const (Value.int IntKind.i64 64)], argTypes := #[5, 3] }, type := 35, pos := _, after := #[{ on := 23, ground := Ground.data }, { on := 20, ground := Ground.chain }, { on := 20, ground := Ground.guard }], guard := some (20, false) }) rfl (fun K hK => ?_) AllReadyH.nil)
      go_simp
      refine (HFL.out w8).mono ?_
      rintro e w9 ⟨rfl, HW9, HB9⟩
      have HS9 := Lib.hid (HS8.out.on HB9.out)
      have hK9 := HS9.out.conv HF.out
      have hcv3 : (convert 35 9 (.slice (some ⟨w8.heap.size, 0, none⟩) 64 64)).run Try.prog w9 = .ok (.string ⟨F.toArray⟩) w9 := By.conv_of HF.out.symm (Whole.reads HW9.out)
      go_simp
      refine hK.out _ _ (hK9) (fun hHeld => ?_)
      clear hK K
      try simp only [Act.put, List.setIfInBounds_toArray, List.set_cons_zero, List.set_cons_succ]
      refine wpAnyH_ready (rs := [25]) (by kernel_rfl) (by simp) (AllReadyH.cons (o := { dst := some 75, op := Op.convert 35 9 (Operand.tmp 74), type := 9, pos := _, after := #[{ on := 24, ground := Ground.data }, { on := 20, ground := Ground.guard }], guard := some (20, false) }) rfl (fun K hK => ?_) AllReadyH.nil)
      go_simp
      refine hK.out _ _ (hHeld) (fun hHeld => ?_)
      clear hK K
      try simp only [Act.put, List.setIfInBounds_toArray, List.set_cons_zero, List.set_cons_succ]
      refine wpAnyH_take (i := 26) (oi := { dst := some 76, op := Op.binOp BinOp.add 9 (Operand.tmp 75) (Operand.const (Value.string { data := #[91, 92] })) 9, type := 9, pos := _, after := #[{ on := 25, ground := Ground.data }, { on := 20, ground := Ground.guard }], guard := some (20, false) }) (v := ?_) rfl (by kernel_rfl) (by kernel_rfl) (by kernel_rfl) (fun _ _ _ h => h) (Or.inl ⟨by rfl, ?_⟩) hHeld ?_
      rotate_left
      · (intro w hSw; (try dsimp only at hSw); first | (go_simp; done) | (go_simp; with_reducible rfl))
      try simp only [Act.put, List.setIfInBounds_toArray, List.set_cons_zero, List.set_cons_succ]
      refine wpAnyH_take (i := 27) (oi := { dst := some 77, op := Op.binOp BinOp.neq 9 (Operand.tmp 72) (Operand.tmp 76) 9, type := 4, pos := _, after := #[{ on := 22, ground := Ground.data }, { on := 26, ground := Ground.data }, { on := 20, ground := Ground.guard }], guard := some (20, false) }) (v := ?_) rfl (by kernel_rfl) (by kernel_rfl) (by kernel_rfl) (fun _ _ _ h => h) (Or.inl ⟨by rfl, ?_⟩) hHeld ?_
      rotate_left
      · (intro w hSw; (try dsimp only at hSw); first | (go_simp; done) | (go_simp; with_reducible rfl))
      try simp only [Act.put, List.setIfInBounds_toArray, List.set_cons_zero, List.set_cons_succ]
      refine wpAnyH_take (i := 28) (oi := { dst := some 78, op := Op.pick (Operand.tmp 70) (Operand.const (Value.bool true)) (Operand.tmp 77), type := 4, pos := _, after := #[{ on := 20, ground := Ground.data }, { on := 27, ground := Ground.data }], guard := none }) (v := ?_) rfl (by kernel_rfl) (by kernel_rfl) (by kernel_rfl) (fun _ _ _ h => h) (Or.inl ⟨by rfl, ?_⟩) hHeld ?_
      rotate_left
      · (intro w hSw; (try dsimp only at hSw); first | (go_simp; done) | (go_simp; with_reducible rfl))
      try simp only [Act.put, List.setIfInBounds_toArray, List.set_cons_zero, List.set_cons_succ]
      refine wpAnyH_done (by kernel_rfl) ?_ _
      refine NoPanic.normal ?_
      clear hfl
      go_wp2_with fail
      go_meet
      exact ⟨rfl, HS9⟩
      -- END
  case rest =>
    obtain ⟨rfl, HS⟩ := hcut
    clear hcat HSD HS6
    have hdx : DK.written (DK.of [F, F, F]) I F = ⟨[F, F, F], 1, false, -1⟩ := by
      rw [DK.written_ok rfl (by show ¬ ((I : Int) < 0 ∨ ((3 : Nat) : Int) ≤ (I : Int) ∨ F.length ≠ 64); rw [HF.out]; omega) (by show ¬ (-1 : Int) = 0; decide)]
      have e : [F, F, F].set I F = [F, F, F] := by
        match I, hI3 with
        | 0, _ => rfl
        | 1, _ => rfl
        | 2, _ => rfl
      rw [Int.toNat_natCast]
      show Dk.mk ([F, F, F].set I F) (IntKind.i64.wrap (0 + 1)) false (if (0 : Int) < -1 then -1 - 1 else -1) = _
      rw [e]
      rfl
    have hdy : ∃ dy : Dk, DK.written (DK.zero 3) I F = dy ∧ dy.off = false ∧ dy.ss[(I + 1) % 3]? = some (List.replicate 64 0) := by
      refine ⟨_, rfl, ?_, ?_⟩
      · rw [DK.written_ok rfl (by show ¬ ((I : Int) < 0 ∨ ((List.replicate 3 (List.replicate 64 0) : List (List UInt8)).length : Int) ≤ (I : Int) ∨ F.length ≠ 64); rw [List.length_replicate, HF.out]; omega) (by show ¬ (-1 : Int) = 0; decide)]
        rfl
      · rw [DK.written_ok rfl (by show ¬ ((I : Int) < 0 ∨ ((List.replicate 3 (List.replicate 64 0) : List (List UInt8)).length : Int) ≤ (I : Int) ∨ F.length ≠ 64); rw [List.length_replicate, HF.out]; omega) (by show ¬ (-1 : Int) = 0; decide)]
        rw [Int.toNat_natCast]
        show (List.set (List.replicate 3 (List.replicate 64 0)) I F)[(I + 1) % 3]? = _
        rw [List.getElem?_set_ne (by omega), List.getElem?_replicate, if_pos (by omega)]
    obtain ⟨dy, hdy, hdy2⟩ := hdy
    rw [hdx, hdy] at HS
    have HDY := Lib.hid hdy2
    clear hdx hdy hdy2 HE1 HE2
    have HNB := Lib.hid HS.out.nb
    go_wp2_with fail
    go_loopw [81] (fun i wx => ∃ (k : Nat) (ys : List Value), i = .int .i64 (k : Int) ∧ k ≤ 66 ∧ Hid (wx.ownsRow w.heap.size 5 1 (.slice (some ⟨b, 0, none⟩) 66 cap) 66 ys) ∧ Hid (Mod [b] wc wx)) (fun i _ => 66 - (intOf i).toNat)
    case atStart => exact ⟨0, _, rfl, by omega, Lib.hid HS.out.own, Lib.hid (Mod.refl _ _)⟩
    case round =>
      obtain ⟨k, ys, rfl, hk, HO, HM⟩ := hrel
      by_cases hlt : k < 66
      · have HYL := Lib.hid (show ys.length = 66 by have := HO.out.1; omega)
        have hcell := HO.out.cellAt k (by omega)
        obtain ⟨u, hu⟩ : ∃ u, ys[k]? = some u := ⟨ys[k]'(by have := HYL.out; omega), List.getElem?_eq_getElem _⟩
        rw [hu] at hcell
        have HU := Lib.hid hu
        clear hu
        have hfr := HO.out.frozenAt k
        have HST := Lib.hid (HO.out.stored k (.int .u8 120)).1
        have HM1 := Lib.hid (HM.out.store (p := ⟨b, k, none⟩) (.inl (by simp)) (.int .u8 120))
        clear HO HM
        go_wp2_with fail
        go_roundw
        case rel => exact ⟨k + 1, _, rfl, by omega, HST, HM1⟩
        case measure => simp only [intOf]; omega
      · obtain ⟨wa, rfl⟩ : ∃ y, y = wr := ⟨_, rfl⟩
        have HDX := Lib.hid (HS.out.x.mod HM.out (by simpa using HNB.out.1.symm))
        have HDYA := Lib.hid (HS.out.y.mod HM.out (by simpa using HNB.out.2.symm))
        have HBL := Lib.hid (HS.out.below.trans (HM.out.below HS.out.below.size (fun x hx => by rw [List.mem_singleton.1 hx]; exact (HS.out.own.lt b rfl).1)))
        have HGX := Lib.hid (show w.heap.size ≤ gx from HS.out.gex)
        have HGY := Lib.hid (show w.heap.size ≤ gy from HS.out.gey)
        have HIF := Lib.hid (show (Dk.mk [F, F, F] 1 false (-1)).ss[I]? = some F from by
          match I, hI3 with
          | 0, _ => rfl
          | 1, _ => rfl
          | 2, _ => rfl)
        clear HS HM HNB HO
        go_wp2_with fail
        refine (Read_ok HDX.out I F HIF.out rfl).mono ?_
        rintro e w7 ⟨rfl, hw7⟩
        have hal := (Below.refl wa.heap.size wa).alloc (Nat.le_refl _) (.cells (u8s F).toArray 56)
        rw [← hw7] at hal
        have HA7 := Lib.hid (show Whole w7 wa.heap.size 56 (u8s F).toArray by rw [hw7]; exact Whole.new wa _ _)
        have HX7 := Lib.hid (below_on HBL.out hal)
        have HDX7 := Lib.hid (HDX.out.below hal)
        have HDY7 := Lib.hid (HDYA.out.below hal)
        have HG7 := Lib.hid (show wa.heap.size < w7.heap.size ∧ gx < wa.heap.size ∧ gy < wa.heap.size ∧ w.heap.size ≤ wa.heap.size from ⟨HA7.out.lt, HDX.out.lt, HDYA.out.lt, HBL.out.size⟩)
        clear hw7 hal HBL HDX HDYA
        generalize wa.heap.size = ba at HA7 HG7 ⊢
        go_wp2_with fail
        refine (Read_ok HDX7.out I F HIF.out rfl).mono ?_
        rintro e w8 ⟨rfl, hw8⟩
        have hal := (Below.refl w7.heap.size w7).alloc (Nat.le_refl _) (.cells (u8s F).toArray 56)
        rw [← hw8] at hal
        have HB8 := Lib.hid (show Whole w8 w7.heap.size 56 (u8s F).toArray by rw [hw8]; exact Whole.new w7 _ _)
        have HA8 := Lib.hid ((Mod.of_below hal []).whole HA7.out (by simp))
        have HX8 := Lib.hid (below_on HX7.out hal)
        have HDX8 := Lib.hid (HDX7.out.below hal)
        have HDY8 := Lib.hid (HDY7.out.below hal)
        have HG8 := Lib.hid (show ba < w7.heap.size ∧ w7.heap.size < w8.heap.size ∧ gx < ba ∧ gy < ba ∧ w.heap.size ≤ ba from ⟨HG7.out.1, HB8.out.lt, HG7.out.2⟩)
        clear hw8 hal HX7 HDX7 HDY7 HA7 HG7
        generalize w7.heap.size = bb at HB8 HG8 ⊢
        go_wp2_with fail
        refine (Image_any HDX8.out).mono ?_
        rintro e w9 ⟨rfl, HI9⟩
        rw [show (Dk.mk [F, F, F] 1 false (-1)).ss.length = 3 from rfl]
        have HP9 := Lib.hid (show Rw w8.heap.size [F, F, F] w9 from Rw.of HI9.out)
        have HZ9 := Lib.hid (show w9.heap.size = w8.heap.size + 4 from HI9.out.size)
        have HA9 := Lib.hid ((Mod.of_below HI9.out.below []).whole HA8.out (by simp))
        have HB9 := Lib.hid ((Mod.of_below HI9.out.below []).whole HB8.out (by simp))
        have HX9 := Lib.hid (below_on HX8.out HI9.out.below)
        have HDX9 := Lib.hid (HDX8.out.below HI9.out.below)
        have HDY9 := Lib.hid (HDY8.out.below HI9.out.below)
        clear HI9 HX8 HDX8 HDY8 HA8 HB8
        generalize w8.heap.size = bp at HP9 HZ9 HG8 ⊢
        go_wp2_with fail
        refine (Image_any HDX9.out).mono ?_
        rintro e w10 ⟨rfl, HI10⟩
        rw [show (Dk.mk [F, F, F] 1 false (-1)).ss.length = 3 from rfl]
        have HQ := Lib.hid (show Rw w9.heap.size [F, F, F] w10 from Rw.of HI10.out)
        have HZ10 := Lib.hid (show w10.heap.size = w9.heap.size + 4 from HI10.out.size)
        have HP := Lib.hid (HP9.out.below HI10.out.below)
        have HA := Lib.hid ((Mod.of_below HI10.out.below []).whole HA9.out (by simp))
        have HB := Lib.hid ((Mod.of_below HI10.out.below []).whole HB9.out (by simp))
        have HX := Lib.hid (below_on HX9.out HI10.out.below)
        have HDYX := Lib.hid (HDY9.out.below HI10.out.below)
        clear HI10 HX9 HDX9 HDY9 HA9 HB9 HP9
        generalize w9.heap.size = bq at HQ HZ10 HZ9 ⊢
        obtain ⟨p0, p1, p2, HPN⟩ : ∃ p0 p1 p2 : Nat, Hid (p0 = bp + 1 ∧ p1 = bp + 2 ∧ p2 = bp + 3) := ⟨_, _, _, Lib.hid ⟨rfl, rfl, rfl⟩⟩
        have HPR := Lib.hid (show Whole w10 bp 35 #[.slice (some ⟨p0, 0, none⟩) 64 64, .slice (some ⟨p1, 0, none⟩) 64 64, .slice (some ⟨p2, 0, none⟩) 64 64] by
          obtain ⟨e0, e1, e2⟩ := HPN.out
          have h := HP.out.row
          rw [e0, e1, e2]
          exact h)
        have HP0 := Lib.hid (show Whole w10 p0 56 (u8s F).toArray by rw [HPN.out.1]; exact HP.out.each 0 F rfl)
        have HP1 := Lib.hid (show Whole w10 p1 56 (u8s F).toArray by rw [HPN.out.2.1]; exact HP.out.each 1 F rfl)
        have HP2 := Lib.hid (show Whole w10 p2 56 (u8s F).toArray by rw [HPN.out.2.2]; exact HP.out.each 2 F rfl)
        have HN := Lib.hid (show w.heap.size ≤ ba ∧ gy < ba ∧ ba < bb ∧ bb < bp ∧ bp < p0 ∧ p0 < p1 ∧ p1 < p2 ∧ p2 < bq ∧ bq + 4 ≤ w10.heap.size by
          have h1 := HG8.out
          have h2 := HPN.out
          have h3 := HZ9.out
          have h4 := HZ10.out
          omega)
        clear HP HPN HG8 HZ9 HZ10
        go_wp2_with fail
        go_loopw [114] (fun i wx => ∃ k : Nat, i = .int .i64 (k : Int) ∧ k ≤ 64 ∧ Hid (Mod [ba, p0, p1, p2] w10 wx) ∧ Hid (Holds w10 wx)) (fun i _ => 64 - (intOf i).toNat)
        case atStart => exact ⟨0, rfl, by omega, Lib.hid (Mod.refl _ _), Lib.hid (Holds.refl _)⟩
        case round =>
          obtain ⟨k, rfl, hk, HM, HH⟩ := hrel
          by_cases hlt : k < 64
          · have HSZ := Lib.hid (show (u8s F).toArray.size = 64 by rw [List.size_toArray, By.u8s_len, HF.out])
            obtain ⟨ua, z0, f0⟩ := HH.out.cellAt HA.out (k := k) (by rw [HSZ.out]; exact hlt)
            have HM1 := Lib.hid (HM.out.store (p := ⟨ba, k, none⟩) (.inl (by simp)) (.int .u8 97))
            have HH1 := Lib.hid (HH.out.trans (Holds.store wr ⟨ba, k, none⟩ rfl (.int .u8 97)))
            clear HM HH
            go_upto_region 24 with (fail)
            clear z0 f0
            generalize wr.setCell ⟨ba, k, none⟩ (.int .u8 97) = w11 at HM1 HH1 ⊢
            as_aux_lemma =>
              -- BEGIN
              obtain ⟨v0, z0, f0⟩ := HH1.out.cellAt HP0.out (k := k) (by rw [HSZ.out]; exact hlt)
              obtain ⟨v1, z1, f1⟩ := HH1.out.cellAt HP1.out (k := k) (by rw [HSZ.out]; exact hlt)
              obtain ⟨v2, z2, f2⟩ := HH1.out.cellAt HP2.out (k := k) (by rw [HSZ.out]; exact hlt)
              have y0 : w11.drew.cell? ⟨p0, k, none⟩ = some v0 := z0
              have y1 : w11.drew.cell? ⟨p1, k, none⟩ = some v1 := z1
              have y2 : w11.drew.cell? ⟨p2, k, none⟩ = some v2 := z2
              have HR1 := Lib.hid (HM1.out.whole HPR.out (by have := HN.out; simp; omega))
              have m0 : w11.cell? ⟨bp, 0, none⟩ = some (.slice (some ⟨p0, 0, none⟩) 64 64) := HR1.out.cell 0
              have m1 : w11.cell? ⟨bp, 1, none⟩ = some (.slice (some ⟨p1, 0, none⟩) 64 64) := HR1.out.cell 1
              have m2 : w11.cell? ⟨bp, 2, none⟩ = some (.slice (some ⟨p2, 0, none⟩) 64 64) := HR1.out.cell 2
              have m0' : w11.drew.cell? ⟨bp, 0, none⟩ = some (.slice (some ⟨p0, 0, none⟩) 64 64) := m0
              have m1' : w11.drew.cell? ⟨bp, 1, none⟩ = some (.slice (some ⟨p1, 0, none⟩) 64 64) := m1
              have m2' : w11.drew.cell? ⟨bp, 2, none⟩ = some (.slice (some ⟨p2, 0, none⟩) 64 64) := m2
              have n01 : p0 ≠ p1 := by have := HN.out; omega
              have n10 : p1 ≠ p0 := Ne.symm n01
              have n02 : p0 ≠ p2 := by have := HN.out; omega
              have n20 : p2 ≠ p0 := Ne.symm n02
              have n12 : p1 ≠ p2 := by have := HN.out; omega
              have n21 : p2 ≠ p1 := Ne.symm n12
              have nb0 : bp ≠ p0 := by have := HN.out; omega
              have nb0' : p0 ≠ bp := Ne.symm nb0
              have nb1 : bp ≠ p1 := by have := HN.out; omega
              have nb1' : p1 ≠ bp := Ne.symm nb1
              have nb2 : bp ≠ p2 := by have := HN.out; omega
              have nb2' : p2 ≠ bp := Ne.symm nb2
              go_region
              all_goals
                go_wp2_with fail
                go_roundw
                case rel => exact ⟨k + 1, rfl, hlt, Lib.hid (by repeat (first | with_reducible exact HM1.out | with_reducible refine Mod.store ?_ ?_ _ | with_reducible refine Mod.drew ?_ | (exact Or.inl (by simp)))), Lib.hid (by repeat (first | with_reducible exact HH1.out | with_reducible refine Holds.trans ?_ (Holds.store _ _ rfl _) | with_reducible refine Holds.trans ?_ (Holds.drew _)))⟩
                case measure => simp only [intOf]; omega
              -- END
          · obtain ⟨wa, rfl⟩ : ∃ y, y = wr := ⟨_, rfl⟩
            have HMA := Lib.hid (HM.out.mono (G := [ba, bp, p0, p1, p2]) (fun x hx => .inl (by simp at hx ⊢; omega)))
            have HSZ := Lib.hid (show (u8s F).toArray.size = 64 by rw [List.size_toArray, By.u8s_len, HF.out])
            have HBW := Lib.hid (show w10.heap.size ≤ wa.heap.size from HM.out.size)
            have hg : ∀ {x : Nat}, x ∈ [ba, bp, p0, p1, p2] → Whole w10 x 56 (u8s F).toArray → GwAt wa [ba, bp, p0, p1, p2] w10.heap.size x 64 64 := fun hx h => by
              obtain ⟨cs', k1, k2⟩ := HH.out _ _ _ h
              exact ⟨⟨cs', _, k1, by rw [k2, HSZ.out]; exact Nat.le_refl _, by decide⟩, .inl hx, Nat.le_refl _, by decide⟩
            have HGA := Lib.hid (hg (by simp) HA.out)
            have HG0 := Lib.hid (hg (by simp) HP0.out)
            have HG1 := Lib.hid (hg (by simp) HP1.out)
            have HG2 := Lib.hid (hg (by simp) HP2.out)
            have HPA := Lib.hid (HM.out.whole HPR.out (by have := HN.out; simp; omega))
            clear hg HM HH HA HP0 HP1 HP2 HPR
            go_wp2_with fail
            go_loopw [12, 19] (fun v i wx => ∃ (k ga ca g0 c0 g1 c1 g2 c2 : Nat), i = .int .i64 (k : Int) ∧ v = .slice (some ⟨ga, 0, none⟩) (64 + k) ca ∧ k ≤ 70 ∧ Hid (Mod [ba, bp, p0, p1, p2] w10 wx) ∧ Hid (GwAt wx [ba, bp, p0, p1, p2] w10.heap.size ga (64 + k) ca) ∧ Hid (GwAt wx [ba, bp, p0, p1, p2] w10.heap.size g0 (64 + k) c0) ∧ Hid (GwAt wx [ba, bp, p0, p1, p2] w10.heap.size g1 (64 + k) c1) ∧ Hid (GwAt wx [ba, bp, p0, p1, p2] w10.heap.size g2 (64 + k) c2) ∧ Hid (Whole wx bp 35 #[.slice (some ⟨g0, 0, none⟩) (64 + k) c0, .slice (some ⟨g1, 0, none⟩) (64 + k) c1, .slice (some ⟨g2, 0, none⟩) (64 + k) c2])) (fun _ i _ => 70 - (intOf i).toNat)
            case atStart => exact ⟨0, ba, 64, p0, 64, p1, 64, p2, 64, rfl, rfl, by omega, HMA, HGA, HG0, HG1, HG2, HPA⟩
            case round =>
              clear HMA HGA HG0 HG1 HG2 HPA
              obtain ⟨k, ga, ca, g0, c0, g1, c1, g2, c2, rfl, rfl, hk, HM, HGA, HG0, HG1, HG2, HP⟩ := hrel
              by_cases hlt : k < 70
              · have HN1 := Lib.hid (show 64 + k ≤ 1000 by omega)
                have HBS := Lib.hid (show w10.heap.size ≤ wr.heap.size from HM.out.size)
                have hal := Holds.alloc wr (.cells #[.int .u8 122] 5)
                have HGA1 := Lib.hid (HGA.out.holds hal)
                have HAL := Lib.hid hal
                have HMAL := Lib.hid (HM.out.alloc (.cells #[.int .u8 122] 5))
                have HPAL := Lib.hid (HP.out.alloc (.cells #[.int .u8 122] 5))
                clear hal
                go_wp2_with (first
                  | (refine list_app_gw rfl (.tmp 140) (.tmp 141) rfl HGA1.out wr.heap.size (.int .u8 122) rfl (Whole.new wr _ _) HN1.out (by have := HBS.out; rw [World.size_alloc]; omega) rfl rfl ?_
                     intro gb cb w11 k1 k2 k3
                     have HGB := Lib.hid k1
                     have HMB := Lib.hid k2
                     have HHB := Lib.hid k3
                     clear k1 k2 k3)
                  | fail)
                have HT0 := Lib.hid (show T30 [ba, bp, p0, p1, p2] w10 w11 bp #[.slice (some ⟨g0, 0, none⟩) (64 + k) c0, .slice (some ⟨g1, 0, none⟩) (64 + k) c1, .slice (some ⟨g2, 0, none⟩) (64 + k) c2] w11.drew from
                  ⟨(HMAL.out.trans HMB.out (fun x hx => by rw [List.mem_singleton.1 hx]; exact HGA.out.ge)).drew, HMB.out.whole HPAL.out (fun hx => HGA1.out.ne HPAL.out (List.mem_singleton.1 hx).symm), Nat.le_refl _, Holds.drew w11⟩)
                have HX0 := Lib.hid (HG0.out.holds (HAL.out.trans HHB.out))
                have HX1 := Lib.hid (HG1.out.holds (HAL.out.trans HHB.out))
                have HX2 := Lib.hid (HG2.out.holds (HAL.out.trans HHB.out))
                have HGB' := Lib.hid (show GwAt w11 [ba, bp, p0, p1, p2] w10.heap.size gb (64 + (k + 1)) cb from HGB.out)
                rw [show 64 + k + 1 = 64 + (k + 1) from rfl]
                clear HG0 HG1 HG2 HGA HGA1 HAL HMAL HPAL HMB HHB HM HP HGB HBS
                as_aux_lemma =>
                  -- BEGIN
                  go_upto_region 30 with (fail)
                  refine wp_region_noPanic ?_
                  refine region_late (fun y : World => y.cell? ⟨bp, 0, none⟩ = some (.slice (some ⟨g0, 0, none⟩) (64 + k) c0) ∧ y.cell? ⟨bp, 1, none⟩ = some (.slice (some ⟨g1, 0, none⟩) (64 + k) c1) ∧ y.cell? ⟨bp, 2, none⟩ = some (.slice (some ⟨g2, 0, none⟩) (64 + k) c2)) [19, 21, 23] (by kernel_rfl) ?_
                  generalize w11.drew = v0 at HT0 ⊢
                  refine AnyL.pure (i := 0) (oi := { dst := some 143, op := Op.move (Operand.tmp 16), type := 42, pos := _, after := _, guard := none }) (v := ?_) rfl (by kernel_rfl) (by kernel_rfl) (by kernel_rfl) (fun _ _ _ h => h) (Or.inl ⟨by rfl, ?_⟩) ?_
                  rotate_left
                  · (intro w hSw; first | (go_simp; done) | (go_simp; with_reducible rfl))
                  try simp only [Act.put, List.setIfInBounds_toArray, List.set_cons_zero, List.set_cons_succ]
                  refine AnyL.pure (i := 1) (oi := { dst := some 144, op := Op.move (Operand.tmp 16), type := 42, pos := _, after := _, guard := none }) (v := ?_) rfl (by kernel_rfl) (by kernel_rfl) (by kernel_rfl) (fun _ _ _ h => h) (Or.inl ⟨by rfl, ?_⟩) ?_
                  rotate_left
                  · (intro w hSw; first | (go_simp; done) | (go_simp; with_reducible rfl))
                  try simp only [Act.put, List.setIfInBounds_toArray, List.set_cons_zero, List.set_cons_succ]
                  refine AnyL.pure (i := 2) (oi := { dst := some 145, op := Op.move (Operand.tmp 16), type := 42, pos := _, after := _, guard := none }) (v := ?_) rfl (by kernel_rfl) (by kernel_rfl) (by kernel_rfl) (fun _ _ _ h => h) (Or.inl ⟨by rfl, ?_⟩) ?_
                  rotate_left
                  · (intro w hSw; first | (go_simp; done) | (go_simp; with_reducible rfl))
                  try simp only [Act.put, List.setIfInBounds_toArray, List.set_cons_zero, List.set_cons_succ]
                  refine AnyL.pure (i := 3) (oi := { dst := some 146, op := Op.move (Operand.tmp 16), type := 42, pos := _, after := _, guard := none }) (v := ?_) rfl (by kernel_rfl) (by kernel_rfl) (by kernel_rfl) (fun _ _ _ h => h) (Or.inl ⟨by rfl, ?_⟩) ?_
                  rotate_left
                  · (intro w hSw; first | (go_simp; done) | (go_simp; with_reducible rfl))
                  try simp only [Act.put, List.setIfInBounds_toArray, List.set_cons_zero, List.set_cons_succ]
                  refine AnyL.pure (i := 4) (oi := { dst := some 147, op := Op.indexAddr 42 (Operand.tmp 146) (Operand.const (Value.int IntKind.i64 0)), type := 0, pos := _, after := _, guard := none }) (v := ?_) rfl (by kernel_rfl) (by kernel_rfl) (by kernel_rfl) (fun _ _ _ h => h) (Or.inl ⟨by rfl, ?_⟩) ?_
                  rotate_left
                  · (intro w hSw; first | (go_simp; done) | (go_simp; with_reducible rfl))
                  try simp only [Act.put, List.setIfInBounds_toArray, List.set_cons_zero, List.set_cons_succ]
                  refine AnyL.load (i := 5) (oi := { dst := some 148, op := Op.load 35 (Operand.tmp 147), type := 35, pos := _, after := _, guard := none }) (v := ?_) rfl (by kernel_rfl) (by kernel_rfl) (by kernel_rfl) (by kernel_rfl) (fun _ _ _ h => h) (Or.inl ⟨by rfl, ?_⟩) HT0.out.held ?_
                  rotate_left
                  · (intro w hSw; (try dsimp only at hSw); obtain ⟨hS0, hS1, hS2⟩ := hSw; first | (go_simp; done) | (go_simp; with_reducible rfl))
                  try simp only [Act.put, List.setIfInBounds_toArray, List.set_cons_zero, List.set_cons_succ]
                  refine AnyL.pure (i := 8) (oi := { dst := some 151, op := Op.move (Operand.tmp 16), type := 42, pos := _, after := _, guard := none }) (v := ?_) rfl (by kernel_rfl) (by kernel_rfl) (by kernel_rfl) (fun _ _ _ h => h) (Or.inl ⟨by rfl, ?_⟩) ?_
                  rotate_left
                  · (intro w hSw; first | (go_simp; done) | (go_simp; with_reducible rfl))
                  try simp only [Act.put, List.setIfInBounds_toArray, List.set_cons_zero, List.set_cons_succ]
                  refine AnyL.pure (i := 9) (oi := { dst := some 152, op := Op.indexAddr 42 (Operand.tmp 151) (Operand.const (Value.int IntKind.i64 1)), type := 0, pos := _, after := _, guard := none }) (v := ?_) rfl (by kernel_rfl) (by kernel_rfl) (by kernel_rfl) (fun _ _ _ h => h) (Or.inl ⟨by rfl, ?_⟩) ?_
                  rotate_left
                  · (intro w hSw; first | (go_simp; done) | (go_simp; with_reducible rfl))
                  try simp only [Act.put, List.setIfInBounds_toArray, List.set_cons_zero, List.set_cons_succ]
                  refine AnyL.load (i := 10) (oi := { dst := some 153, op := Op.load 35 (Operand.tmp 152), type := 35, pos := _, after := _, guard := none }) (v := ?_) rfl (by kernel_rfl) (by kernel_rfl) (by kernel_rfl) (by kernel_rfl) (fun _ _ _ h => h) (Or.inl ⟨by rfl, ?_⟩) HT0.out.held ?_
                  rotate_left
                  · (intro w hSw; (try dsimp only at hSw); obtain ⟨hS0, hS1, hS2⟩ := hSw; first | (go_simp; done) | (go_simp; with_reducible rfl))
                  try simp only [Act.put, List.setIfInBounds_toArray, List.set_cons_zero, List.set_cons_succ]
                  refine AnyL.pure (i := 13) (oi := { dst := some 156, op := Op.move (Operand.tmp 16), type := 42, pos := _, after := _, guard := none }) (v := ?_) rfl (by kernel_rfl) (by kernel_rfl) (by kernel_rfl) (fun _ _ _ h => h) (Or.inl ⟨by rfl, ?_⟩) ?_
                  rotate_left
                  · (intro w hSw; first | (go_simp; done) | (go_simp; with_reducible rfl))
                  try simp only [Act.put, List.setIfInBounds_toArray, List.set_cons_zero, List.set_cons_succ]
                  refine AnyL.pure (i := 14) (oi := { dst := some 157, op := Op.indexAddr 42 (Operand.tmp 156) (Operand.const (Value.int IntKind.i64 2)), type := 0, pos := _, after := _, guard := none }) (v := ?_) rfl (by kernel_rfl) (by kernel_rfl) (by kernel_rfl) (fun _ _ _ h => h) (Or.inl ⟨by rfl, ?_⟩) ?_
                  rotate_left
                  · (intro w hSw; first | (go_simp; done) | (go_simp; with_reducible rfl))
                  try simp only [Act.put, List.setIfInBounds_toArray, List.set_cons_zero, List.set_cons_succ]
                  refine AnyL.load (i := 15) (oi := { dst := some 158, op := Op.load 35 (Operand.tmp 157), type := 35, pos := _, after := _, guard := none }) (v := ?_) rfl (by kernel_rfl) (by kernel_rfl) (by kernel_rfl) (by kernel_rfl) (fun _ _ _ h => h) (Or.inl ⟨by rfl, ?_⟩) HT0.out.held ?_
                  rotate_left
                  · (intro w hSw; (try dsimp only at hSw); obtain ⟨hS0, hS1, hS2⟩ := hSw; first | (go_simp; done) | (go_simp; with_reducible rfl))
                  try simp only [Act.put, List.setIfInBounds_toArray, List.set_cons_zero, List.set_cons_succ]
                  refine AnyL.ready (rs := [6, 11, 16]) (by kernel_rfl) (by simp) ?_
                  refine AllL.cons (o := { dst := some 149, op := Op.buildSlice 35 1 #[(0, Operand.const (Value.int IntKind.u8 122))], type := 35, pos := _, after := _, guard := none }) rfl (fun K hK => ?_) (AllL.cons (o := { dst := some 154, op := Op.buildSlice 35 1 #[(0, Operand.const (Value.int IntKind.u8 122))], type := 35, pos := _, after := _, guard := none }) rfl (fun K hK => ?_) (AllL.cons (o := { dst := some 159, op := Op.buildSlice 35 1 #[(0, Operand.const (Value.int IntKind.u8 122))], type := 35, pos := _, after := _, guard := none }) rfl (fun K hK => ?_) (AllL.nil)))
                  · skip
                    go_simp
                    have HT1 := Lib.hid (HT0.out.alloc (.cells #[.int .u8 122] 5))
                    have HF1 := Lib.hid (Whole.new v0 5 #[.int .u8 122])
                    have HL1 := Lib.hid HT0.out.size
                    generalize v0.alloc (.cells #[.int .u8 122] 5) = v1 at HT1 HF1 ⊢
                    generalize v0.heap.size = p1 at HF1 HL1 ⊢
                    refine hK.out _ _ (fun _ => HT1.out.held) ?_
                    clear hK K
                    try simp only [Act.put, List.setIfInBounds_toArray, List.set_cons_zero, List.set_cons_succ]
                    refine AnyL.ready (rs := [7, 11, 16]) (by kernel_rfl) (by simp) ?_
                    refine AllL.cons (o := { dst := some 150, op := Op.call { callee := Callee.builtin Builtin.append, args := #[Operand.tmp 148, Operand.tmp 149], argTypes := #[35, 35] }, type := 35, pos := _, after := _, guard := none }) rfl (fun K hK => ?_) (AllL.cons (o := { dst := some 154, op := Op.buildSlice 35 1 #[(0, Operand.const (Value.int IntKind.u8 122))], type := 35, pos := _, after := _, guard := none }) rfl (fun K hK => ?_) (AllL.cons (o := { dst := some 159, op := Op.buildSlice 35 1 #[(0, Operand.const (Value.int IntKind.u8 122))], type := 35, pos := _, after := _, guard := none }) rfl (fun K hK => ?_) (AllL.nil)))
                    · skip
                      refine step_app_gw (HX0.out.holds HT1.out.hol) p1 (.int .u8 122) rfl HF1.out HN1.out HT1.out.big rfl rfl ?_
                      intro e2 d2 v2 q1 q2 q3
                      have HT2 := Lib.hid (HT1.out.app HX0.out q2 q3)
                      have HE2 := Lib.hid q1
                      clear q1 q2 q3
                      refine hK.out _ _ (fun _ => HT2.out.held) ?_
                      clear hK K
                      try simp only [Act.put, List.setIfInBounds_toArray, List.set_cons_zero, List.set_cons_succ]
                      refine AnyL.ready (rs := [11, 16]) (by kernel_rfl) (by simp) ?_
                      refine AllL.cons (o := { dst := some 154, op := Op.buildSlice 35 1 #[(0, Operand.const (Value.int IntKind.u8 122))], type := 35, pos := _, after := _, guard := none }) rfl (fun K hK => ?_) (AllL.cons (o := { dst := some 159, op := Op.buildSlice 35 1 #[(0, Operand.const (Value.int IntKind.u8 122))], type := 35, pos := _, after := _, guard := none }) rfl (fun K hK => ?_) (AllL.nil))
                      · skip
                        go_simp
                        have HT3 := Lib.hid (HT2.out.alloc (.cells #[.int .u8 122] 5))
                        have HF3 := Lib.hid (Whole.new v2 5 #[.int .u8 122])
                        have HL3 := Lib.hid HT2.out.size
                        have HG3_0 := Lib.hid (HE2.out.holds (Holds.alloc v2 (.cells #[.int .u8 122] 5)))
                        generalize v2.alloc (.cells #[.int .u8 122] 5) = v3 at HT3 HF3 HG3_0 ⊢
                        generalize v2.heap.size = p3 at HF3 HL3 ⊢
                        refine hK.out _ _ (fun _ => HT3.out.held) ?_
                        clear hK K
                        try simp only [Act.put, List.setIfInBounds_toArray, List.set_cons_zero, List.set_cons_succ]
                        refine AnyL.ready (rs := [12, 16]) (by kernel_rfl) (by simp) ?_
                        refine AllL.cons (o := { dst := some 155, op := Op.call { callee := Callee.builtin Builtin.append, args := #[Operand.tmp 153, Operand.tmp 154], argTypes := #[35, 35] }, type := 35, pos := _, after := _, guard := none }) rfl (fun K hK => ?_) (AllL.cons (o := { dst := some 159, op := Op.buildSlice 35 1 #[(0, Operand.const (Value.int IntKind.u8 122))], type := 35, pos := _, after := _, guard := none }) rfl (fun K hK => ?_) (AllL.nil))
                        · skip
                          refine step_app_gw (HX1.out.holds HT3.out.hol) p3 (.int .u8 122) rfl HF3.out HN1.out HT3.out.big rfl rfl ?_
                          intro e4 d4 v4 q1 q2 q3
                          have HT4 := Lib.hid (HT3.out.app HX1.out q2 q3)
                          have HE4 := Lib.hid q1
                          have HG4_0 := Lib.hid (HG3_0.out.holds q3)
                          clear q1 q2 q3
                          refine hK.out _ _ (fun _ => HT4.out.held) ?_
                          clear hK K
                          try simp only [Act.put, List.setIfInBounds_toArray, List.set_cons_zero, List.set_cons_succ]
                          refine AnyL.ready (rs := [16]) (by kernel_rfl) (by simp) ?_
                          refine AllL.cons (o := { dst := some 159, op := Op.buildSlice 35 1 #[(0, Operand.const (Value.int IntKind.u8 122))], type := 35, pos := _, after := _, guard := none }) rfl (fun K hK => ?_) (AllL.nil)
                          · skip
                            go_simp
                            have HT5 := Lib.hid (HT4.out.alloc (.cells #[.int .u8 122] 5))
                            have HF5 := Lib.hid (Whole.new v4 5 #[.int .u8 122])
                            have HL5 := Lib.hid HT4.out.size
                            have HG5_0 := Lib.hid (HG4_0.out.holds (Holds.alloc v4 (.cells #[.int .u8 122] 5)))
                            have HG5_1 := Lib.hid (HE4.out.holds (Holds.alloc v4 (.cells #[.int .u8 122] 5)))
                            generalize v4.alloc (.cells #[.int .u8 122] 5) = v5 at HT5 HF5 HG5_0 HG5_1 ⊢
                            generalize v4.heap.size = p5 at HF5 HL5 ⊢
                            refine hK.out _ _ (fun _ => HT5.out.held) ?_
                            clear hK K
                            try simp only [Act.put, List.setIfInBounds_toArray, List.set_cons_zero, List.set_cons_succ]
                            refine AnyL.ready (rs := [17]) (by kernel_rfl) (by simp) ?_
                            refine AllL.cons (o := { dst := some 160, op := Op.call { callee := Callee.builtin Builtin.append, args := #[Operand.tmp 158, Operand.tmp 159], argTypes := #[35, 35] }, type := 35, pos := _, after := _, guard := none }) rfl (fun K hK => ?_) (AllL.nil)
                            · skip
                              refine step_app_gw (HX2.out.holds HT5.out.hol) p5 (.int .u8 122) rfl HF5.out HN1.out HT5.out.big rfl rfl ?_
                              intro e6 d6 v6 q1 q2 q3
                              have HT6 := Lib.hid (HT5.out.app HX2.out q2 q3)
                              have HE6 := Lib.hid q1
                              have HG6_0 := Lib.hid (HG5_0.out.holds q3)
                              have HG6_1 := Lib.hid (HG5_1.out.holds q3)
                              clear q1 q2 q3
                              refine hK.out _ _ (fun _ => HT6.out.held) ?_
                              clear hK K
                              try simp only [Act.put, List.setIfInBounds_toArray, List.set_cons_zero, List.set_cons_succ]
                              obtain ⟨m0, m1, m2⟩ := HT6.out.held
                              have f0 := HT6.out.hp.frozen 0
                              have f1 := HT6.out.hp.frozen 1
                              have f2 := HT6.out.hp.frozen 2
                              refine AnyL.pure (i := 18) (oi := { dst := some 161, op := Op.indexAddr 42 (Operand.tmp 143) (Operand.const (Value.int IntKind.i64 0)), type := 0, pos := _, after := _, guard := none }) (v := ?_) rfl (by kernel_rfl) (by kernel_rfl) (by kernel_rfl) (fun _ _ _ h => h) (Or.inl ⟨by rfl, ?_⟩) ?_
                              rotate_left
                              · (intro w hSw; first | (go_simp; done) | (go_simp; with_reducible rfl))
                              try simp only [Act.put, List.setIfInBounds_toArray, List.set_cons_zero, List.set_cons_succ]
                              refine AnyL.ready (rs := [19]) (by kernel_rfl) (by simp) (AllL.cons (o := { dst := none, op := Op.store 35 (Operand.tmp 161) (Operand.tmp 150), type := 0, pos := _, after := _, guard := none }) rfl (fun K hK => ?_) AllL.nil)
                              go_simp
                              refine hK.out _ _ (fun h => absurd (by simp) h) ?_
                              clear hK K
                              try simp only [Act.put, List.setIfInBounds_toArray, List.set_cons_zero, List.set_cons_succ]
                              refine AnyL.pure (i := 20) (oi := { dst := some 162, op := Op.indexAddr 42 (Operand.tmp 144) (Operand.const (Value.int IntKind.i64 1)), type := 0, pos := _, after := _, guard := none }) (v := ?_) rfl (by kernel_rfl) (by kernel_rfl) (by kernel_rfl) (fun _ _ _ h => h) (Or.inl ⟨by rfl, ?_⟩) ?_
                              rotate_left
                              · (intro w hSw; first | (go_simp; done) | (go_simp; with_reducible rfl))
                              try simp only [Act.put, List.setIfInBounds_toArray, List.set_cons_zero, List.set_cons_succ]
                              refine AnyL.ready (rs := [21]) (by kernel_rfl) (by simp) (AllL.cons (o := { dst := none, op := Op.store 35 (Operand.tmp 162) (Operand.tmp 155), type := 0, pos := _, after := _, guard := none }) rfl (fun K hK => ?_) AllL.nil)
                              go_simp
                              refine hK.out _ _ (fun h => absurd (by simp) h) ?_
                              clear hK K
                              try simp only [Act.put, List.setIfInBounds_toArray, List.set_cons_zero, List.set_cons_succ]
                              refine AnyL.pure (i := 22) (oi := { dst := some 163, op := Op.indexAddr 42 (Operand.tmp 145) (Operand.const (Value.int IntKind.i64 2)), type := 0, pos := _, after := _, guard := none }) (v := ?_) rfl (by kernel_rfl) (by kernel_rfl) (by kernel_rfl) (fun _ _ _ h => h) (Or.inl ⟨by rfl, ?_⟩) ?_
                              rotate_left
                              · (intro w hSw; first | (go_simp; done) | (go_simp; with_reducible rfl))
                              try simp only [Act.put, List.setIfInBounds_toArray, List.set_cons_zero, List.set_cons_succ]
                              refine AnyL.ready (rs := [23]) (by kernel_rfl) (by simp) (AllL.cons (o := { dst := none, op := Op.store 35 (Operand.tmp 163) (Operand.tmp 160), type := 0, pos := _, after := _, guard := none }) rfl (fun K hK => ?_) AllL.nil)
                              go_simp
                              refine hK.out _ _ (fun h => absurd (by simp) h) ?_
                              clear hK K
                              try simp only [Act.put, List.setIfInBounds_toArray, List.set_cons_zero, List.set_cons_succ]
                              refine AnyL.done (by kernel_rfl) ?_ _
                              refine NoPanic.normal ?_
                              have hst := HT6.out.stored (by simp) (.slice (some ⟨e2, 0, none⟩) (64 + k + 1) d2) (.slice (some ⟨e4, 0, none⟩) (64 + k + 1) d4) (.slice (some ⟨e6, 0, none⟩) (64 + k + 1) d6)
                              have HFM := Lib.hid hst.1
                              have HFH := Lib.hid hst.2.1
                              have HFW := Lib.hid hst.2.2
                              have HFA := Lib.hid (HGB'.out.holds (HT6.out.hol.trans HFH.out))
                              have HF_0 := Lib.hid (HG6_0.out.holds HFH.out)
                              have HF_1 := Lib.hid (HG6_1.out.holds HFH.out)
                              have HF_2 := Lib.hid (HE6.out.holds HFH.out)
                              clear hst m0 m1 m2 f0 f1 f2
                              go_wp2_with fail
                              go_roundw
                              case rel => exact ⟨k + 1, gb, cb, e2, d2, e4, d4, e6, d6, rfl, rfl, hlt, HFM, HFA, HF_0, HF_1, HF_2, HFW⟩
                              case measure => simp only [intOf]; omega
                        · skip
                          go_simp
                          have HT7 := Lib.hid (HT3.out.alloc (.cells #[.int .u8 122] 5))
                          have HF7 := Lib.hid (Whole.new v3 5 #[.int .u8 122])
                          have HL7 := Lib.hid HT3.out.size
                          have HQ7_1 := Lib.hid (HF3.out.alloc (.cells #[.int .u8 122] 5))
                          have HG7_0 := Lib.hid (HG3_0.out.holds (Holds.alloc v3 (.cells #[.int .u8 122] 5)))
                          generalize v3.alloc (.cells #[.int .u8 122] 5) = v7 at HT7 HF7 HQ7_1 HG7_0 ⊢
                          generalize v3.heap.size = p7 at HF7 HL7 ⊢
                          refine hK.out _ _ (fun _ => HT7.out.held) ?_
                          clear hK K
                          try simp only [Act.put, List.setIfInBounds_toArray, List.set_cons_zero, List.set_cons_succ]
                          refine AnyL.ready (rs := [12]) (by kernel_rfl) (by simp) ?_
                          refine AllL.cons (o := { dst := some 155, op := Op.call { callee := Callee.builtin Builtin.append, args := #[Operand.tmp 153, Operand.tmp 154], argTypes := #[35, 35] }, type := 35, pos := _, after := _, guard := none }) rfl (fun K hK => ?_) (AllL.nil)
                          · skip
                            refine step_app_gw (HX1.out.holds HT7.out.hol) p3 (.int .u8 122) rfl HQ7_1.out HN1.out HT7.out.big rfl rfl ?_
                            intro e8 d8 v8 q1 q2 q3
                            have HT8 := Lib.hid (HT7.out.app HX1.out q2 q3)
                            have HE8 := Lib.hid q1
                            have HQ8_2 := Lib.hid (HT7.out.fresh HX1.out q2 HF7.out HL7.out)
                            have HG8_0 := Lib.hid (HG7_0.out.holds q3)
                            clear q1 q2 q3
                            refine hK.out _ _ (fun _ => HT8.out.held) ?_
                            clear hK K
                            try simp only [Act.put, List.setIfInBounds_toArray, List.set_cons_zero, List.set_cons_succ]
                            refine AnyL.ready (rs := [17]) (by kernel_rfl) (by simp) ?_
                            refine AllL.cons (o := { dst := some 160, op := Op.call { callee := Callee.builtin Builtin.append, args := #[Operand.tmp 158, Operand.tmp 159], argTypes := #[35, 35] }, type := 35, pos := _, after := _, guard := none }) rfl (fun K hK => ?_) (AllL.nil)
                            · skip
                              refine step_app_gw (HX2.out.holds HT8.out.hol) p7 (.int .u8 122) rfl HQ8_2.out HN1.out HT8.out.big rfl rfl ?_
                              intro e9 d9 v9 q1 q2 q3
                              have HT9 := Lib.hid (HT8.out.app HX2.out q2 q3)
                              have HE9 := Lib.hid q1
                              have HG9_0 := Lib.hid (HG8_0.out.holds q3)
                              have HG9_1 := Lib.hid (HE8.out.holds q3)
                              clear q1 q2 q3
                              refine hK.out _ _ (fun _ => HT9.out.held) ?_
                              clear hK K
                              try simp only [Act.put, List.setIfInBounds_toArray, List.set_cons_zero, List.set_cons_succ]
                              obtain ⟨m0, m1, m2⟩ := HT9.out.held
                              have f0 := HT9.out.hp.frozen 0
                              have f1 := HT9.out.hp.frozen 1
                              have f2 := HT9.out.hp.frozen 2
                              refine AnyL.pure (i := 18) (oi := { dst := some 161, op := Op.indexAddr 42 (Operand.tmp 143) (Operand.const (Value.int IntKind.i64 0)), type := 0, pos := _, after := _, guard := none }) (v := ?_) rfl (by kernel_rfl) (by kernel_rfl) (by kernel_rfl) (fun _ _ _ h => h) (Or.inl ⟨by rfl, ?_⟩) ?_
                              rotate_left
                              · (intro w hSw; first | (go_simp; done) | (go_simp; with_reducible rfl))
                              try simp only [Act.put, List.setIfInBounds_toArray, List.set_cons_zero, List.set_cons_succ]
                              refine AnyL.ready (rs := [19]) (by kernel_rfl) (by simp) (AllL.cons (o := { dst := none, op := Op.store 35 (Operand.tmp 161) (Operand.tmp 150), type := 0, pos := _, after := _, guard := none }) rfl (fun K hK => ?_) AllL.nil)
                              go_simp
                              refine hK.out _ _ (fun h => absurd (by simp) h) ?_
                              clear hK K
                              try simp only [Act.put, List.setIfInBounds_toArray, List.set_cons_zero, List.set_cons_succ]
                              refine AnyL.pure (i := 20) (oi := { dst := some 162, op := Op.indexAddr 42 (Operand.tmp 144) (Operand.const (Value.int IntKind.i64 1)), type := 0, pos := _, after := _, guard := none }) (v := ?_) rfl (by kernel_rfl) (by kernel_rfl) (by kernel_rfl) (fun _ _ _ h => h) (Or.inl ⟨by rfl, ?_⟩) ?_
                              rotate_left
                              · (intro w hSw; first | (go_simp; done) | (go_simp; with_reducible rfl))
                              try simp only [Act.put, List.setIfInBounds_toArray, List.set_cons_zero, List.set_cons_succ]
                              refine AnyL.ready (rs := [21]) (by kernel_rfl) (by simp) (AllL.cons (o := { dst := none, op := Op.store 35 (Operand.tmp 162) (Operand.tmp 155), type := 0, pos := _, after := _, guard := none }) rfl (fun K hK => ?_) AllL.nil)
                              go_simp
                              refine hK.out _ _ (fun h => absurd (by simp) h) ?_
                              clear hK K
                              try simp only [Act.put, List.setIfInBounds_toArray, List.set_cons_zero, List.set_cons_succ]
                              refine AnyL.pure (i := 22) (oi := { dst := some 163, op := Op.indexAddr 42 (Operand.tmp 145) (Operand.const (Value.int IntKind.i64 2)), type := 0, pos := _, after := _, guard := none }) (v := ?_) rfl (by kernel_rfl) (by kernel_rfl) (by kernel_rfl) (fun _ _ _ h => h) (Or.inl ⟨by rfl, ?_⟩) ?_
                              rotate_left
                              · (intro w hSw; first | (go_simp; done) | (go_simp; with_reducible rfl))
                              try simp only [Act.put, List.setIfInBounds_toArray, List.set_cons_zero, List.set_cons_succ]
                              refine AnyL.ready (rs := [23]) (by kernel_rfl) (by simp) (AllL.cons (o := { dst := none, op := Op.store 35 (Operand.tmp 163) (Operand.tmp 160), type := 0, pos := _, after := _, guard := none }) rfl (fun K hK => ?_) AllL.nil)
                              go_simp
                              refine hK.out _ _ (fun h => absurd (by simp) h) ?_
                              clear hK K
                              try simp only [Act.put, List.setIfInBounds_toArray, List.set_cons_zero, List.set_cons_succ]
                              refine AnyL.done (by kernel_rfl) ?_ _
                              refine NoPanic.normal ?_
                              have hst := HT9.out.stored (by simp) (.slice (some ⟨e2, 0, none⟩) (64 + k + 1) d2) (.slice (some ⟨e8, 0, none⟩) (64 + k + 1) d8) (.slice (some ⟨e9, 0, none⟩) (64 + k + 1) d9)
                              have HFM := Lib.hid hst.1
                              have HFH := Lib.hid hst.2.1
                              have HFW := Lib.hid hst.2.2
                              have HFA := Lib.hid (HGB'.out.holds (HT9.out.hol.trans HFH.out))
                              have HF_0 := Lib.hid (HG9_0.out.holds HFH.out)
                              have HF_1 := Lib.hid (HG9_1.out.holds HFH.out)
                              have HF_2 := Lib.hid (HE9.out.holds HFH.out)
                              clear hst m0 m1 m2 f0 f1 f2
                              go_wp2_with fail
                              go_roundw
                              case rel => exact ⟨k + 1, gb, cb, e2, d2, e8, d8, e9, d9, rfl, rfl, hlt, HFM, HFA, HF_0, HF_1, HF_2, HFW⟩
                              case measure => simp only [intOf]; omega
                      · skip
                        go_simp
                        have HT10 := Lib.hid (HT2.out.alloc (.cells #[.int .u8 122] 5))
                        have HF10 := Lib.hid (Whole.new v2 5 #[.int .u8 122])
                        have HL10 := Lib.hid HT2.out.size
                        have HG10_0 := Lib.hid (HE2.out.holds (Holds.alloc v2 (.cells #[.int .u8 122] 5)))
                        generalize v2.alloc (.cells #[.int .u8 122] 5) = v10 at HT10 HF10 HG10_0 ⊢
                        generalize v2.heap.size = p10 at HF10 HL10 ⊢
                        refine hK.out _ _ (fun _ => HT10.out.held) ?_
                        clear hK K
                        try simp only [Act.put, List.setIfInBounds_toArray, List.set_cons_zero, List.set_cons_succ]
                        refine AnyL.ready (rs := [11]) (by kernel_rfl) (by simp) ?_
                        refine AllL.cons (o := { dst := some 154, op := Op.buildSlice 35 1 #[(0, Operand.const (Value.int IntKind.u8 122))], type := 35, pos := _, after := _, guard := none }) rfl (fun K hK => ?_) (AllL.nil)
                        · skip
                          go_simp
                          have HT11 := Lib.hid (HT10.out.alloc (.cells #[.int .u8 122] 5))
                          have HF11 := Lib.hid (Whole.new v10 5 #[.int .u8 122])
                          have HL11 := Lib.hid HT10.out.size
                          have HQ11_2 := Lib.hid (HF10.out.alloc (.cells #[.int .u8 122] 5))
                          have HG11_0 := Lib.hid (HG10_0.out.holds (Holds.alloc v10 (.cells #[.int .u8 122] 5)))
                          generalize v10.alloc (.cells #[.int .u8 122] 5) = v11 at HT11 HF11 HQ11_2 HG11_0 ⊢
                          generalize v10.heap.size = p11 at HF11 HL11 ⊢
                          refine hK.out _ _ (fun _ => HT11.out.held) ?_
                          clear hK K
                          try simp only [Act.put, List.setIfInBounds_toArray, List.set_cons_zero, List.set_cons_succ]
                          refine AnyL.ready (rs := [12]) (by kernel_rfl) (by simp) ?_
                          refine AllL.cons (o := { dst := some 155, op := Op.call { callee := Callee.builtin Builtin.append, args := #[Operand.tmp 153, Operand.tmp 154], argTypes := #[35, 35] }, type := 35, pos := _, after := _, guard := none }) rfl (fun K hK => ?_) (AllL.nil)
                          · skip
                            refine step_app_gw (HX1.out.holds HT11.out.hol) p11 (.int .u8 122) rfl HF11.out HN1.out HT11.out.big rfl rfl ?_
                            intro e12 d12 v12 q1 q2 q3
                            have HT12 := Lib.hid (HT11.out.app HX1.out q2 q3)
                            have HE12 := Lib.hid q1
                            have HQ12_2 := Lib.hid (HT11.out.fresh HX1.out q2 HQ11_2.out HL10.out)
                            have HG12_0 := Lib.hid (HG11_0.out.holds q3)
                            clear q1 q2 q3
                            refine hK.out _ _ (fun _ => HT12.out.held) ?_
                            clear hK K
                            try simp only [Act.put, List.setIfInBounds_toArray, List.set_cons_zero, List.set_cons_succ]
                            refine AnyL.ready (rs := [17]) (by kernel_rfl) (by simp) ?_
                            refine AllL.cons (o := { dst := some 160, op := Op.call { callee := Callee.builtin Builtin.append, args := #[Operand.tmp 158, Operand.tmp 159], argTypes := #[35, 35] }, type := 35, pos := _, after := _, guard := none }) rfl (fun K hK => ?_) (AllL.nil)
                            · skip
                              refine step_app_gw (HX2.out.holds HT12.out.hol) p10 (.int .u8 122) rfl HQ12_2.out HN1.out HT12.out.big rfl rfl ?_
                              intro e13 d13 v13 q1 q2 q3
                              have HT13 := Lib.hid (HT12.out.app HX2.out q2 q3)
                              have HE13 := Lib.hid q1
                              have HG13_0 := Lib.hid (HG12_0.out.holds q3)
                              have HG13_1 := Lib.hid (HE12.out.holds q3)
                              clear q1 q2 q3
                              refine hK.out _ _ (fun _ => HT13.out.held) ?_
                              clear hK K
                              try simp only [Act.put, List.setIfInBounds_toArray, List.set_cons_zero, List.set_cons_succ]
                              obtain ⟨m0, m1, m2⟩ := HT13.out.held
                              have f0 := HT13.out.hp.frozen 0
                              have f1 := HT13.out.hp.frozen 1
                              have f2 := HT13.out.hp.frozen 2
                              refine AnyL.pure (i := 18) (oi := { dst := some 161, op := Op.indexAddr 42 (Operand.tmp 143) (Operand.const (Value.int IntKind.i64 0)), type := 0, pos := _, after := _, guard := none }) (v := ?_) rfl (by kernel_rfl) (by kernel_rfl) (by kernel_rfl) (fun _ _ _ h => h) (Or.inl ⟨by rfl, ?_⟩) ?_
                              rotate_left
                              · (intro w hSw; first | (go_simp; done) | (go_simp; with_reducible rfl))
                              try simp only [Act.put, List.setIfInBounds_toArray, List.set_cons_zero, List.set_cons_succ]
                              refine AnyL.ready (rs := [19]) (by kernel_rfl) (by simp) (AllL.cons (o := { dst := none, op := Op.store 35 (Operand.tmp 161) (Operand.tmp 150), type := 0, pos := _, after := _, guard := none }) rfl (fun K hK => ?_) AllL.nil)
                              go_simp
                              refine hK.out _ _ (fun h => absurd (by simp) h) ?_
                              clear hK K
                              try simp only [Act.put, List.setIfInBounds_toArray, List.set_cons_zero, List.set_cons_succ]
                              refine AnyL.pure (i := 20) (oi := { dst := some 162, op := Op.indexAddr 42 (Operand.tmp 144) (Operand.const (Value.int IntKind.i64 1)), type := 0, pos := _, after := _, guard := none }) (v := ?_) rfl (by kernel_rfl) (by kernel_rfl) (by kernel_rfl) (fun _ _ _ h => h) (Or.inl ⟨by rfl, ?_⟩) ?_
                              rotate_left
                              · (intro w hSw; first | (go_simp; done) | (go_simp; with_reducible rfl))
                              try simp only [Act.put, List.setIfInBounds_toArray, List.set_cons_zero, List.set_cons_succ]
                              refine AnyL.ready (rs := [21]) (by kernel_rfl) (by simp) (AllL.cons (o := { dst := none, op := Op.store 35 (Operand.tmp 162) (Operand.tmp 155), type := 0, pos := _, after := _, guard := none }) rfl (fun K hK => ?_) AllL.nil)
                              go_simp
                              refine hK.out _ _ (fun h => absurd (by simp) h) ?_
                              clear hK K
                              try simp only [Act.put, List.setIfInBounds_toArray, List.set_cons_zero, List.set_cons_succ]
                              refine AnyL.pure (i := 22) (oi := { dst := some 163, op := Op.indexAddr 42 (Operand.tmp 145) (Operand.const (Value.int IntKind.i64 2)), type := 0, pos := _, after := _, guard := none }) (v := ?_) rfl (by kernel_rfl) (by kernel_rfl) (by kernel_rfl) (fun _ _ _ h => h) (Or.inl ⟨by rfl, ?_⟩) ?_
                              rotate_left
                              · (intro w hSw; first | (go_simp; done) | (go_simp; with_reducible rfl))
                              try simp only [Act.put, List.setIfInBounds_toArray, List.set_cons_zero, List.set_cons_succ]
                              refine AnyL.ready (rs := [23]) (by kernel_rfl) (by simp) (AllL.cons (o := { dst := none, op := Op.store 35 (Operand.tmp 163) (Operand.tmp 160), type := 0, pos := _, after := _, guard := none }) rfl (fun K hK => ?_) AllL.nil)
                              go_simp
                              refine hK.out _ _ (fun h => absurd (by simp) h) ?_
                              clear hK K
                              try simp only [Act.put, List.setIfInBounds_toArray, List.set_cons_zero, List.set_cons_succ]
                              refine AnyL.done (by kernel_rfl) ?_ _
                              refine NoPanic.normal ?_
                              have hst := HT13.out.stored (by simp) (.slice (some ⟨e2, 0, none⟩) (64 + k + 1) d2) (.slice (some ⟨e12, 0, none⟩) (64 + k + 1) d12) (.slice (some ⟨e13, 0, none⟩) (64 + k + 1) d13)
                              have HFM := Lib.hid hst.1
                              have HFH := Lib.hid hst.2.1
                              have HFW := Lib.hid hst.2.2
                              have HFA := Lib.hid (HGB'.out.holds (HT13.out.hol.trans HFH.out))
                              have HF_0 := Lib.hid (HG13_0.out.holds HFH.out)
                              have HF_1 := Lib.hid (HG13_1.out.holds HFH.out)
                              have HF_2 := Lib.hid (HE13.out.holds HFH.out)
                              clear hst m0 m1 m2 f0 f1 f2
                              go_wp2_with fail
                              go_roundw
                              case rel => exact ⟨k + 1, gb, cb, e2, d2, e12, d12, e13, d13, rfl, rfl, hlt, HFM, HFA, HF_0, HF_1, HF_2, HFW⟩
                              case measure => simp only [intOf]; omega
                    · skip
                      go_simp
                      have HT14 := Lib.hid (HT1.out.alloc (.cells #[.int .u8 122] 5))
                      have HF14 := Lib.hid (Whole.new v1 5 #[.int .u8 122])
                      have HL14 := Lib.hid HT1.out.size
                      have HQ14_0 := Lib.hid (HF1.out.alloc (.cells #[.int .u8 122] 5))
                      generalize v1.alloc (.cells #[.int .u8 122] 5) = v14 at HT14 HF14 HQ14_0 ⊢
                      generalize v1.heap.size = p14 at HF14 HL14 ⊢
                      refine hK.out _ _ (fun _ => HT14.out.held) ?_
                      clear hK K
                      try simp only [Act.put, List.setIfInBounds_toArray, List.set_cons_zero, List.set_cons_succ]
                      refine AnyL.ready (rs := [7, 16]) (by kernel_rfl) (by simp) ?_
                      refine AllL.cons (o := { dst := some 150, op := Op.call { callee := Callee.builtin Builtin.append, args := #[Operand.tmp 148, Operand.tmp 149], argTypes := #[35, 35] }, type := 35, pos := _, after := _, guard := none }) rfl (fun K hK => ?_) (AllL.cons (o := { dst := some 159, op := Op.buildSlice 35 1 #[(0, Operand.const (Value.int IntKind.u8 122))], type := 35, pos := _, after := _, guard := none }) rfl (fun K hK => ?_) (AllL.nil))
                      · skip
                        refine step_app_gw (HX0.out.holds HT14.out.hol) p1 (.int .u8 122) rfl HQ14_0.out HN1.out HT14.out.big rfl rfl ?_
                        intro e15 d15 v15 q1 q2 q3
                        have HT15 := Lib.hid (HT14.out.app HX0.out q2 q3)
                        have HE15 := Lib.hid q1
                        have HQ15_1 := Lib.hid (HT14.out.fresh HX0.out q2 HF14.out HL14.out)
                        clear q1 q2 q3
                        refine hK.out _ _ (fun _ => HT15.out.held) ?_
                        clear hK K
                        try simp only [Act.put, List.setIfInBounds_toArray, List.set_cons_zero, List.set_cons_succ]
                        refine AnyL.ready (rs := [12, 16]) (by kernel_rfl) (by simp) ?_
                        refine AllL.cons (o := { dst := some 155, op := Op.call { callee := Callee.builtin Builtin.append, args := #[Operand.tmp 153, Operand.tmp 154], argTypes := #[35, 35] }, type := 35, pos := _, after := _, guard := none }) rfl (fun K hK => ?_) (AllL.cons (o := { dst := some 159, op := Op.buildSlice 35 1 #[(0, Operand.const (Value.int IntKind.u8 122))], type := 35, pos := _, after := _, guard := none }) rfl (fun K hK => ?_) (AllL.nil))
                        · skip
                          refine step_app_gw (HX1.out.holds HT15.out.hol) p14 (.int .u8 122) rfl HQ15_1.out HN1.out HT15.out.big rfl rfl ?_
                          intro e16 d16 v16 q1 q2 q3
                          have HT16 := Lib.hid (HT15.out.app HX1.out q2 q3)
                          have HE16 := Lib.hid q1
                          have HG16_0 := Lib.hid (HE15.out.holds q3)
                          clear q1 q2 q3
                          refine hK.out _ _ (fun _ => HT16.out.held) ?_
                          clear hK K
                          try simp only [Act.put, List.setIfInBounds_toArray, List.set_cons_zero, List.set_cons_succ]
                          refine AnyL.ready (rs := [16]) (by kernel_rfl) (by simp) ?_
                          refine AllL.cons (o := { dst := some 159, op := Op.buildSlice 35 1 #[(0, Operand.const (Value.int IntKind.u8 122))], type := 35, pos := _, after := _, guard := none }) rfl (fun K hK => ?_) (AllL.nil)
                          · skip
                            go_simp
                            have HT17 := Lib.hid (HT16.out.alloc (.cells #[.int .u8 122] 5))
                            have HF17 := Lib.hid (Whole.new v16 5 #[.int .u8 122])
                            have HL17 := Lib.hid HT16.out.size
                            have HG17_0 := Lib.hid (HG16_0.out.holds (Holds.alloc v16 (.cells #[.int .u8 122] 5)))
                            have HG17_1 := Lib.hid (HE16.out.holds (Holds.alloc v16 (.cells #[.int .u8 122] 5)))
                            generalize v16.alloc (.cells #[.int .u8 122] 5) = v17 at HT17 HF17 HG17_0 HG17_1 ⊢
                            generalize v16.heap.size = p17 at HF17 HL17 ⊢
                            refine hK.out _ _ (fun _ => HT17.out.held) ?_
                            clear hK K
                            try simp only [Act.put, List.setIfInBounds_toArray, List.set_cons_zero, List.set_cons_succ]
                            refine AnyL.ready (rs := [17]) (by kernel_rfl) (by simp) ?_
                            refine AllL.cons (o := { dst := some 160, op := Op.call { callee := Callee.builtin Builtin.append, args := #[Operand.tmp 158, Operand.tmp 159], argTypes := #[35, 35] }, type := 35, pos := _, after := _, guard := none }) rfl (fun K hK => ?_) (AllL.nil)
                            · skip
                              refine step_app_gw (HX2.out.holds HT17.out.hol) p17 (.int .u8 122) rfl HF17.out HN1.out HT17.out.big rfl rfl ?_
                              intro e18 d18 v18 q1 q2 q3
                              have HT18 := Lib.hid (HT17.out.app HX2.out q2 q3)
                              have HE18 := Lib.hid q1
                              have HG18_0 := Lib.hid (HG17_0.out.holds q3)
                              have HG18_1 := Lib.hid (HG17_1.out.holds q3)
                              clear q1 q2 q3
                              refine hK.out _ _ (fun _ => HT18.out.held) ?_
                              clear hK K
                              try simp only [Act.put, List.setIfInBounds_toArray, List.set_cons_zero, List.set_cons_succ]
                              obtain ⟨m0, m1, m2⟩ := HT18.out.held
                              have f0 := HT18.out.hp.frozen 0
                              have f1 := HT18.out.hp.frozen 1
                              have f2 := HT18.out.hp.frozen 2
                              refine AnyL.pure (i := 18) (oi := { dst := some 161, op := Op.indexAddr 42 (Operand.tmp 143) (Operand.const (Value.int IntKind.i64 0)), type := 0, pos := _, after := _, guard := none }) (v := ?_) rfl (by kernel_rfl) (by kernel_rfl) (by kernel_rfl) (fun _ _ _ h => h) (Or.inl ⟨by rfl, ?_⟩) ?_
                              rotate_left
                              · (intro w hSw; first | (go_simp; done) | (go_simp; with_reducible rfl))
                              try simp only [Act.put, List.setIfInBounds_toArray, List.set_cons_zero, List.set_cons_succ]
                              refine AnyL.ready (rs := [19]) (by kernel_rfl) (by simp) (AllL.cons (o := { dst := none, op := Op.store 35 (Operand.tmp 161) (Operand.tmp 150), type := 0, pos := _, after := _, guard := none }) rfl (fun K hK => ?_) AllL.nil)
                              go_simp
                              refine hK.out _ _ (fun h => absurd (by simp) h) ?_
                              clear hK K
                              try simp only [Act.put, List.setIfInBounds_toArray, List.set_cons_zero, List.set_cons_succ]
                              refine AnyL.pure (i := 20) (oi := { dst := some 162, op := Op.indexAddr 42 (Operand.tmp 144) (Operand.const (Value.int IntKind.i64 1)), type := 0, pos := _, after := _, guard := none }) (v := ?_) rfl (by kernel_rfl) (by kernel_rfl) (by kernel_rfl) (fun _ _ _ h => h) (Or.inl ⟨by rfl, ?_⟩) ?_
                              rotate_left
                              · (intro w hSw; first | (go_simp; done) | (go_simp; with_reducible rfl))
                              try simp only [Act.put, List.setIfInBounds_toArray, List.set_cons_zero, List.set_cons_succ]
                              refine AnyL.ready (rs := [21]) (by kernel_rfl) (by simp) (AllL.cons (o := { dst := none, op := Op.store 35 (Operand.tmp 162) (Operand.tmp 155), type := 0, pos := _, after := _, guard := none }) rfl (fun K hK => ?_) AllL.nil)
                              go_simp
                              refine hK.out _ _ (fun h => absurd (by simp) h) ?_
                              clear hK K
                              try simp only [Act.put, List.setIfInBounds_toArray, List.set_cons_zero, List.set_cons_succ]
                              refine AnyL.pure (i := 22) (oi := { dst := some 163, op := Op.indexAddr 42 (Operand.tmp 145) (Operand.const (Value.int IntKind.i64 2)), type := 0, pos := _, after := _, guard := none }) (v := ?_) rfl (by kernel_rfl) (by kernel_rfl) (by kernel_rfl) (fun _ _ _ h => h) (Or.inl ⟨by rfl, ?_⟩) ?_
                              rotate_left
                              · (intro w hSw; first | (go_simp; done) | (go_simp; with_reducible rfl))
                              try simp only [Act.put, List.setIfInBounds_toArray, List.set_cons_zero, List.set_cons_succ]
                              refine AnyL.ready (rs := [23]) (by kernel_rfl) (by simp) (AllL.cons (o := { dst := none, op := Op.store 35 (Operand.tmp 163) (Operand.tmp 160), type := 0, pos := _, after := _, guard := none }) rfl (fun K hK => ?_) AllL.nil)
                              go_simp
                              refine hK.out _ _ (fun h => absurd (by simp) h) ?_
                              clear hK K
                              try simp only [Act.put, List.setIfInBounds_toArray, List.set_cons_zero, List.set_cons_succ]
                              refine AnyL.done (by kernel_rfl) ?_ _
                              refine NoPanic.normal ?_
                              have hst := HT18.out.stored (by simp) (.slice (some ⟨e15, 0, none⟩) (64 + k + 1) d15) (.slice (some ⟨e16, 0, none⟩) (64 + k + 1) d16) (.slice (some ⟨e18, 0, none⟩) (64 + k + 1) d18)
                              have HFM := Lib.hid hst.1
                              have HFH := Lib.hid hst.2.1
                              have HFW := Lib.hid hst.2.2
                              have HFA := Lib.hid (HGB'.out.holds (HT18.out.hol.trans HFH.out))
                              have HF_0 := Lib.hid (HG18_0.out.holds HFH.out)
                              have HF_1 := Lib.hid (HG18_1.out.holds HFH.out)
                              have HF_2 := Lib.hid (HE18.out.holds HFH.out)
                              clear hst m0 m1 m2 f0 f1 f2
                              go_wp2_with fail
                              go_roundw
                              case rel => exact ⟨k + 1, gb, cb, e15, d15, e16, d16, e18, d18, rfl, rfl, hlt, HFM, HFA, HF_0, HF_1, HF_2, HFW⟩
                              case measure => simp only [intOf]; omega
                        · skip
                          go_simp
                          have HT19 := Lib.hid (HT15.out.alloc (.cells #[.int .u8 122] 5))
                          have HF19 := Lib.hid (Whole.new v15 5 #[.int .u8 122])
                          have HL19 := Lib.hid HT15.out.size
                          have HQ19_1 := Lib.hid (HQ15_1.out.alloc (.cells #[.int .u8 122] 5))
                          have HG19_0 := Lib.hid (HE15.out.holds (Holds.alloc v15 (.cells #[.int .u8 122] 5)))
                          generalize v15.alloc (.cells #[.int .u8 122] 5) = v19 at HT19 HF19 HQ19_1 HG19_0 ⊢
                          generalize v15.heap.size = p19 at HF19 HL19 ⊢
                          refine hK.out _ _ (fun _ => HT19.out.held) ?_
                          clear hK K
                          try simp only [Act.put, List.setIfInBounds_toArray, List.set_cons_zero, List.set_cons_succ]
                          refine AnyL.ready (rs := [12]) (by kernel_rfl) (by simp) ?_
                          refine AllL.cons (o := { dst := some 155, op := Op.call { callee := Callee.builtin Builtin.append, args := #[Operand.tmp 153, Operand.tmp 154], argTypes := #[35, 35] }, type := 35, pos := _, after := _, guard := none }) rfl (fun K hK => ?_) (AllL.nil)
                          · skip
                            refine step_app_gw (HX1.out.holds HT19.out.hol) p14 (.int .u8 122) rfl HQ19_1.out HN1.out HT19.out.big rfl rfl ?_
                            intro e20 d20 v20 q1 q2 q3
                            have HT20 := Lib.hid (HT19.out.app HX1.out q2 q3)
                            have HE20 := Lib.hid q1
                            have HQ20_2 := Lib.hid (HT19.out.fresh HX1.out q2 HF19.out HL19.out)
                            have HG20_0 := Lib.hid (HG19_0.out.holds q3)
                            clear q1 q2 q3
                            refine hK.out _ _ (fun _ => HT20.out.held) ?_
                            clear hK K
                            try simp only [Act.put, List.setIfInBounds_toArray, List.set_cons_zero, List.set_cons_succ]
                            refine AnyL.ready (rs := [17]) (by kernel_rfl) (by simp) ?_
                            refine AllL.cons (o := { dst := some 160, op := Op.call { callee := Callee.builtin Builtin.append, args := #[Operand.tmp 158, Operand.tmp 159], argTypes := #[35, 35] }, type := 35, pos := _, after := _, guard := none }) rfl (fun K hK => ?_) (AllL.nil)
                            · skip
                              refine step_app_gw (HX2.out.holds HT20.out.hol) p19 (.int .u8 122) rfl HQ20_2.out HN1.out HT20.out.big rfl rfl ?_
                              intro e21 d21 v21 q1 q2 q3
                              have HT21 := Lib.hid (HT20.out.app HX2.out q2 q3)
                              have HE21 := Lib.hid q1
                              have HG21_0 := Lib.hid (HG20_0.out.holds q3)
                              have HG21_1 := Lib.hid (HE20.out.holds q3)
                              clear q1 q2 q3
                              refine hK.out _ _ (fun _ => HT21.out.held) ?_
                              clear hK K
                              try simp only [Act.put, List.setIfInBounds_toArray, List.set_cons_zero, List.set_cons_succ]
                              obtain ⟨m0, m1, m2⟩ := HT21.out.held
                              have f0 := HT21.out.hp.frozen 0
                              have f1 := HT21.out.hp.frozen 1
                              have f2 := HT21.out.hp.frozen 2
                              refine AnyL.pure (i := 18) (oi := { dst := some 161, op := Op.indexAddr 42 (Operand.tmp 143) (Operand.const (Value.int IntKind.i64 0)), type := 0, pos := _, after := _, guard := none }) (v := ?_) rfl (by kernel_rfl) (by kernel_rfl) (by kernel_rfl) (fun _ _ _ h => h) (Or.inl ⟨by rfl, ?_⟩) ?_
                              rotate_left
                              · (intro w hSw; first | (go_simp; done) | (go_simp; with_reducible rfl))
                              try simp only [Act.put, List.setIfInBounds_toArray, List.set_cons_zero, List.set_cons_succ]
                              refine AnyL.ready (rs := [19]) (by kernel_rfl) (by simp) (AllL.cons (o := { dst := none, op := Op.store 35 (Operand.tmp 161) (Operand.tmp 150), type := 0, pos := _, after := _, guard := none }) rfl (fun K hK => ?_) AllL.nil)
                              go_simp
                              refine hK.out _ _ (fun h => absurd (by simp) h) ?_
                              clear hK K
                              try simp only [Act.put, List.setIfInBounds_toArray, List.set_cons_zero, List.set_cons_succ]
                              refine AnyL.pure (i := 20) (oi := { dst := some 162, op := Op.indexAddr 42 (Operand.tmp 144) (Operand.const (Value.int IntKind.i64 1)), type := 0, pos := _, after := _, guard := none }) (v := ?_) rfl (by kernel_rfl) (by kernel_rfl) (by kernel_rfl) (fun _ _ _ h => h) (Or.inl ⟨by rfl, ?_⟩) ?_
                              rotate_left
                              · (intro w hSw; first | (go_simp; done) | (go_simp; with_reducible rfl))
                              try simp only [Act.put, List.setIfInBounds_toArray, List.set_cons_zero, List.set_cons_succ]
                              refine AnyL.ready (rs := [21]) (by kernel_rfl) (by simp) (AllL.cons (o := { dst := none, op := Op.store 35 (Operand.tmp 162) (Operand.tmp 155), type := 0, pos := _, after := _, guard := none }) rfl (fun K hK => ?_) AllL.nil)
                              go_simp
                              refine hK.out _ _ (fun h => absurd (by simp) h) ?_
                              clear hK K
                              try simp only [Act.put, List.setIfInBounds_toArray, List.set_cons_zero, List.set_cons_succ]
                              refine AnyL.pure (i := 22) (oi := { dst := some 163, op := Op.indexAddr 42 (Operand.tmp 145) (Operand.const (Value.int IntKind.i64 2)), type := 0, pos := _, after := _, guard := none }) (v := ?_) rfl (by kernel_rfl) (by kernel_rfl) (by kernel_rfl) (fun _ _ _ h => h) (Or.inl ⟨by rfl, ?_⟩) ?_
                              rotate_left
                              · (intro w hSw; first | (go_simp; done) | (go_simp; with_reducible rfl))
                              try simp only [Act.put, List.setIfInBounds_toArray, List.set_cons_zero, List.set_cons_succ]
                              refine AnyL.ready (rs := [23]) (by kernel_rfl) (by simp) (AllL.cons (o := { dst := none, op := Op.store 35 (Operand.tmp 163) (Operand.tmp 160), type := 0, pos := _, after := _, guard := none }) rfl (fun K hK => ?_) AllL.nil)
                              go_simp
                              refine hK.out _ _ (fun h => absurd (by simp) h) ?_
                              clear hK K
                              try simp only [Act.put, List.setIfInBounds_toArray, List.set_cons_zero, List.set_cons_succ]
                              refine AnyL.done (by kernel_rfl) ?_ _
                              refine NoPanic.normal ?_
                              have hst := HT21.out.stored (by simp) (.slice (some ⟨e15, 0, none⟩) (64 + k + 1) d15) (.slice (some ⟨e20, 0, none⟩) (64 + k + 1) d20) (.slice (some ⟨e21, 0, none⟩) (64 + k + 1) d21)
                              have HFM := Lib.hid hst.1
                              have HFH := Lib.hid hst.2.1
                              have HFW := Lib.hid hst.2.2
                              have HFA := Lib.hid (HGB'.out.holds (HT21.out.hol.trans HFH.out))
                              have HF_0 := Lib.hid (HG21_0.out.holds HFH.out)
                              have HF_1 := Lib.hid (HG21_1.out.holds HFH.out)
                              have HF_2 := Lib.hid (HE21.out.holds HFH.out)
                              clear hst m0 m1 m2 f0 f1 f2
                              go_wp2_with fail
                              go_roundw
                              case rel => exact ⟨k + 1, gb, cb, e15, d15, e20, d20, e21, d21, rfl, rfl, hlt, HFM, HFA, HF_0, HF_1, HF_2, HFW⟩
                              case measure => simp only [intOf]; omega
                      · skip
                        go_simp
                        have HT22 := Lib.hid (HT14.out.alloc (.cells #[.int .u8 122] 5))
                        have HF22 := Lib.hid (Whole.new v14 5 #[.int .u8 122])
                        have HL22 := Lib.hid HT14.out.size
                        have HQ22_0 := Lib.hid (HQ14_0.out.alloc (.cells #[.int .u8 122] 5))
                        have HQ22_1 := Lib.hid (HF14.out.alloc (.cells #[.int .u8 122] 5))
                        generalize v14.alloc (.cells #[.int .u8 122] 5) = v22 at HT22 HF22 HQ22_0 HQ22_1 ⊢
                        generalize v14.heap.size = p22 at HF22 HL22 ⊢
                        refine hK.out _ _ (fun _ => HT22.out.held) ?_
                        clear hK K
                        try simp only [Act.put, List.setIfInBounds_toArray, List.set_cons_zero, List.set_cons_succ]
                        refine AnyL.ready (rs := [7]) (by kernel_rfl) (by simp) ?_
                        refine AllL.cons (o := { dst := some 150, op := Op.call { callee := Callee.builtin Builtin.append, args := #[Operand.tmp 148, Operand.tmp 149], argTypes := #[35, 35] }, type := 35, pos := _, after := _, guard := none }) rfl (fun K hK => ?_) (AllL.nil)
                        · skip
                          refine step_app_gw (HX0.out.holds HT22.out.hol) p1 (.int .u8 122) rfl HQ22_0.out HN1.out HT22.out.big rfl rfl ?_
                          intro e23 d23 v23 q1 q2 q3
                          have HT23 := Lib.hid (HT22.out.app HX0.out q2 q3)
                          have HE23 := Lib.hid q1
                          have HQ23_1 := Lib.hid (HT22.out.fresh HX0.out q2 HQ22_1.out HL14.out)
                          have HQ23_2 := Lib.hid (HT22.out.fresh HX0.out q2 HF22.out HL22.out)
                          clear q1 q2 q3
                          refine hK.out _ _ (fun _ => HT23.out.held) ?_
                          clear hK K
                          try simp only [Act.put, List.setIfInBounds_toArray, List.set_cons_zero, List.set_cons_succ]
                          refine AnyL.ready (rs := [12]) (by kernel_rfl) (by simp) ?_
                          refine AllL.cons (o := { dst := some 155, op := Op.call { callee := Callee.builtin Builtin.append, args := #[Operand.tmp 153, Operand.tmp 154], argTypes := #[35, 35] }, type := 35, pos := _, after := _, guard := none }) rfl (fun K hK => ?_) (AllL.nil)
                          · skip
                            refine step_app_gw (HX1.out.holds HT23.out.hol) p14 (.int .u8 122) rfl HQ23_1.out HN1.out HT23.out.big rfl rfl ?_
                            intro e24 d24 v24 q1 q2 q3
                            have HT24 := Lib.hid (HT23.out.app HX1.out q2 q3)
                            have HE24 := Lib.hid q1
                            have HQ24_2 := Lib.hid (HT23.out.fresh HX1.out q2 HQ23_2.out HL22.out)
                            have HG24_0 := Lib.hid (HE23.out.holds q3)
                            clear q1 q2 q3
                            refine hK.out _ _ (fun _ => HT24.out.held) ?_
                            clear hK K
                            try simp only [Act.put, List.setIfInBounds_toArray, List.set_cons_zero, List.set_cons_succ]
                            refine AnyL.ready (rs := [17]) (by kernel_rfl) (by simp) ?_
                            refine AllL.cons (o := { dst := some 160, op := Op.call { callee := Callee.builtin Builtin.append, args := #[Operand.tmp 158, Operand.tmp 159], argTypes := #[35, 35] }, type := 35, pos := _, after := _, guard := none }) rfl (fun K hK => ?_) (AllL.nil)
                            · skip
                              refine step_app_gw (HX2.out.holds HT24.out.hol) p22 (.int .u8 122) rfl HQ24_2.out HN1.out HT24.out.big rfl rfl ?_
                              intro e25 d25 v25 q1 q2 q3
                              have HT25 := Lib.hid (HT24.out.app HX2.out q2 q3)
                              have HE25 := Lib.hid q1
                              have HG25_0 := Lib.hid (HG24_0.out.holds q3)
                              have HG25_1 := Lib.hid (HE24.out.holds q3)
                              clear q1 q2 q3
                              refine hK.out _ _ (fun _ => HT25.out.held) ?_
                              clear hK K
                              try simp only [Act.put, List.setIfInBounds_toArray, List.set_cons_zero, List.set_cons_succ]
                              obtain ⟨m0, m1, m2⟩ := HT25.out.held
                              have f0 := HT25.out.hp.frozen 0
                              have f1 := HT25.out.hp.frozen 1
                              have f2 := HT25.out.hp.frozen 2
                              refine AnyL.pure (i := 18) (oi := { dst := some 161, op := Op.indexAddr 42 (Operand.tmp 143) (Operand.const (Value.int IntKind.i64 0)), type := 0, pos := _, after := _, guard := none }) (v := ?_) rfl (by kernel_rfl) (by kernel_rfl) (by kernel_rfl) (fun _ _ _ h => h) (Or.inl ⟨by rfl, ?_⟩) ?_
                              rotate_left
                              · (intro w hSw; first | (go_simp; done) | (go_simp; with_reducible rfl))
                              try simp only [Act.put, List.setIfInBounds_toArray, List.set_cons_zero, List.set_cons_succ]
                              refine AnyL.ready (rs := [19]) (by kernel_rfl) (by simp) (AllL.cons (o := { dst := none, op := Op.store 35 (Operand.tmp 161) (Operand.tmp 150), type := 0, pos := _, after := _, guard := none }) rfl (fun K hK => ?_) AllL.nil)
                              go_simp
                              refine hK.out _ _ (fun h => absurd (by simp) h) ?_
                              clear hK K
                              try simp only [Act.put, List.setIfInBounds_toArray, List.set_cons_zero, List.set_cons_succ]
                              refine AnyL.pure (i := 20) (oi := { dst := some 162, op := Op.indexAddr 42 (Operand.tmp 144) (Operand.const (Value.int IntKind.i64 1)), type := 0, pos := _, after := _, guard := none }) (v := ?_) rfl (by kernel_rfl) (by kernel_rfl) (by kernel_rfl) (fun _ _ _ h => h) (Or.inl ⟨by rfl, ?_⟩) ?_
                              rotate_left
                              · (intro w hSw; first | (go_simp; done) | (go_simp; with_reducible rfl))
                              try simp only [Act.put, List.setIfInBounds_toArray, List.set_cons_zero, List.set_cons_succ]
                              refine AnyL.ready (rs := [21]) (by kernel_rfl) (by simp) (AllL.cons (o := { dst := none, op := Op.store 35 (Operand.tmp 162) (Operand.tmp 155), type := 0, pos := _, after := _, guard := none }) rfl (fun K hK => ?_) AllL.nil)
                              go_simp
                              refine hK.out _ _ (fun h => absurd (by simp) h) ?_
                              clear hK K
                              try simp only [Act.put, List.setIfInBounds_toArray, List.set_cons_zero, List.set_cons_succ]
                              refine AnyL.pure (i := 22) (oi := { dst := some 163, op := Op.indexAddr 42 (Operand.tmp 145) (Operand.const (Value.int IntKind.i64 2)), type := 0, pos := _, after := _, guard := none }) (v := ?_) rfl (by kernel_rfl) (by kernel_rfl) (by kernel_rfl) (fun _ _ _ h => h) (Or.inl ⟨by rfl, ?_⟩) ?_
                              rotate_left
                              · (intro w hSw; first | (go_simp; done) | (go_simp; with_reducible rfl))
                              try simp only [Act.put, List.setIfInBounds_toArray, List.set_cons_zero, List.set_cons_succ]
                              refine AnyL.ready (rs := [23]) (by kernel_rfl) (by simp) (AllL.cons (o := { dst := none, op := Op.store 35 (Operand.tmp 163) (Operand.tmp 160), type := 0, pos := _, after := _, guard := none }) rfl (fun K hK => ?_) AllL.nil)
                              go_simp
                              refine hK.out _ _ (fun h => absurd (by simp) h) ?_
                              clear hK K
                              try simp only [Act.put, List.setIfInBounds_toArray, List.set_cons_zero, List.set_cons_succ]
                              refine AnyL.done (by kernel_rfl) ?_ _
                              refine NoPanic.normal ?_
                              have hst := HT25.out.stored (by simp) (.slice (some ⟨e23, 0, none⟩) (64 + k + 1) d23) (.slice (some ⟨e24, 0, none⟩) (64 + k + 1) d24) (.slice (some ⟨e25, 0, none⟩) (64 + k + 1) d25)
                              have HFM := Lib.hid hst.1
                              have HFH := Lib.hid hst.2.1
                              have HFW := Lib.hid hst.2.2
                              have HFA := Lib.hid (HGB'.out.holds (HT25.out.hol.trans HFH.out))
                              have HF_0 := Lib.hid (HG25_0.out.holds HFH.out)
                              have HF_1 := Lib.hid (HG25_1.out.holds HFH.out)
                              have HF_2 := Lib.hid (HE25.out.holds HFH.out)
                              clear hst m0 m1 m2 f0 f1 f2
                              go_wp2_with fail
                              go_roundw
                              case rel => exact ⟨k + 1, gb, cb, e23, d23, e24, d24, e25, d25, rfl, rfl, hlt, HFM, HFA, HF_0, HF_1, HF_2, HFW⟩
                              case measure => simp only [intOf]; omega
                    · skip
                      go_simp
                      have HT26 := Lib.hid (HT1.out.alloc (.cells #[.int .u8 122] 5))
                      have HF26 := Lib.hid (Whole.new v1 5 #[.int .u8 122])
                      have HL26 := Lib.hid HT1.out.size
                      have HQ26_0 := Lib.hid (HF1.out.alloc (.cells #[.int .u8 122] 5))
                      generalize v1.alloc (.cells #[.int .u8 122] 5) = v26 at HT26 HF26 HQ26_0 ⊢
                      generalize v1.heap.size = p26 at HF26 HL26 ⊢
                      refine hK.out _ _ (fun _ => HT26.out.held) ?_
                      clear hK K
                      try simp only [Act.put, List.setIfInBounds_toArray, List.set_cons_zero, List.set_cons_succ]
                      refine AnyL.ready (rs := [7, 11]) (by kernel_rfl) (by simp) ?_
                      refine AllL.cons (o := { dst := some 150, op := Op.call { callee := Callee.builtin Builtin.append, args := #[Operand.tmp 148, Operand.tmp 149], argTypes := #[35, 35] }, type := 35, pos := _, after := _, guard := none }) rfl (fun K hK => ?_) (AllL.cons (o := { dst := some 154, op := Op.buildSlice 35 1 #[(0, Operand.const (Value.int IntKind.u8 122))], type := 35, pos := _, after := _, guard := none }) rfl (fun K hK => ?_) (AllL.nil))
                      · skip
                        refine step_app_gw (HX0.out.holds HT26.out.hol) p1 (.int .u8 122) rfl HQ26_0.out HN1.out HT26.out.big rfl rfl ?_
                        intro e27 d27 v27 q1 q2 q3
                        have HT27 := Lib.hid (HT26.out.app HX0.out q2 q3)
                        have HE27 := Lib.hid q1
                        have HQ27_2 := Lib.hid (HT26.out.fresh HX0.out q2 HF26.out HL26.out)
                        clear q1 q2 q3
                        refine hK.out _ _ (fun _ => HT27.out.held) ?_
                        clear hK K
                        try simp only [Act.put, List.setIfInBounds_toArray, List.set_cons_zero, List.set_cons_succ]
                        refine AnyL.ready (rs := [11]) (by kernel_rfl) (by simp) ?_
                        refine AllL.cons (o := { dst := some 154, op := Op.buildSlice 35 1 #[(0, Operand.const (Value.int IntKind.u8 122))], type := 35, pos := _, after := _, guard := none }) rfl (fun K hK => ?_) (AllL.nil)
                        · skip
                          go_simp
                          have HT28 := Lib.hid (HT27.out.alloc (.cells #[.int .u8 122] 5))
                          have HF28 := Lib.hid (Whole.new v27 5 #[.int .u8 122])
                          have HL28 := Lib.hid HT27.out.size
                          have HQ28_2 := Lib.hid (HQ27_2.out.alloc (.cells #[.int .u8 122] 5))
                          have HG28_0 := Lib.hid (HE27.out.holds (Holds.alloc v27 (.cells #[.int .u8 122] 5)))
                          generalize v27.alloc (.cells #[.int .u8 122] 5) = v28 at HT28 HF28 HQ28_2 HG28_0 ⊢
                          generalize v27.heap.size = p28 at HF28 HL28 ⊢
                          refine hK.out _ _ (fun _ => HT28.out.held) ?_
                          clear hK K
                          try simp only [Act.put, List.setIfInBounds_toArray, List.set_cons_zero, List.set_cons_succ]
                          refine AnyL.ready (rs := [12]) (by kernel_rfl) (by simp) ?_
                          refine AllL.cons (o := { dst := some 155, op := Op.call { callee := Callee.builtin Builtin.append, args := #[Operand.tmp 153, Operand.tmp 154], argTypes := #[35, 35] }, type := 35, pos := _, after := _, guard := none }) rfl (fun K hK => ?_) (AllL.nil)
                          · skip
                            refine step_app_gw (HX1.out.holds HT28.out.hol) p28 (.int .u8 122) rfl HF28.out HN1.out HT28.out.big rfl rfl ?_
                            intro e29 d29 v29 q1 q2 q3
                            have HT29 := Lib.hid (HT28.out.app HX1.out q2 q3)
                            have HE29 := Lib.hid q1
                            have HQ29_2 := Lib.hid (HT28.out.fresh HX1.out q2 HQ28_2.out HL26.out)
                            have HG29_0 := Lib.hid (HG28_0.out.holds q3)
                            clear q1 q2 q3
                            refine hK.out _ _ (fun _ => HT29.out.held) ?_
                            clear hK K
                            try simp only [Act.put, List.setIfInBounds_toArray, List.set_cons_zero, List.set_cons_succ]
                            refine AnyL.ready (rs := [17]) (by kernel_rfl) (by simp) ?_
                            refine AllL.cons (o := { dst := some 160, op := Op.call { callee := Callee.builtin Builtin.append, args := #[Operand.tmp 158, Operand.tmp 159], argTypes := #[35, 35] }, type := 35, pos := _, after := _, guard := none }) rfl (fun K hK => ?_) (AllL.nil)
                            · skip
                              refine step_app_gw (HX2.out.holds HT29.out.hol) p26 (.int .u8 122) rfl HQ29_2.out HN1.out HT29.out.big rfl rfl ?_
                              intro e30 d30 v30 q1 q2 q3
                              have HT30 := Lib.hid (HT29.out.app HX2.out q2 q3)
                              have HE30 := Lib.hid q1
                              have HG30_0 := Lib.hid (HG29_0.out.holds q3)
                              have HG30_1 := Lib.hid (HE29.out.holds q3)
                              clear q1 q2 q3
                              refine hK.out _ _ (fun _ => HT30.out.held) ?_
                              clear hK K
                              try simp only [Act.put, List.setIfInBounds_toArray, List.set_cons_zero, List.set_cons_succ]
                              obtain ⟨m0, m1, m2⟩ := HT30.out.held
                              have f0 := HT30.out.hp.frozen 0
                              have f1 := HT30.out.hp.frozen 1
                              have f2 := HT30.out.hp.frozen 2
                              refine AnyL.pure (i := 18) (oi := { dst := some 161, op := Op.indexAddr 42 (Operand.tmp 143) (Operand.const (Value.int IntKind.i64 0)), type := 0, pos := _, after := _, guard := none }) (v := ?_) rfl (by kernel_rfl) (by kernel_rfl) (by kernel_rfl) (fun _ _ _ h => h) (Or.inl ⟨by rfl, ?_⟩) ?_
                              rotate_left
                              · (intro w hSw; first | (go_simp; done) | (go_simp; with_reducible rfl))
                              try simp only [Act.put, List.setIfInBounds_toArray, List.set_cons_zero, List.set_cons_succ]
                              refine AnyL.ready (rs := [19]) (by kernel_rfl) (by simp) (AllL.cons (o := { dst := none, op := Op.store 35 (Operand.tmp 161) (Operand.tmp 150), type := 0, pos := _, after := _, guard := none }) rfl (fun K hK => ?_) AllL.nil)
                              go_simp
                              refine hK.out _ _ (fun h => absurd (by simp) h) ?_
                              clear hK K
                              try simp only [Act.put, List.setIfInBounds_toArray, List.set_cons_zero, List.set_cons_succ]
                              refine AnyL.pure (i := 20) (oi := { dst := some 162, op := Op.indexAddr 42 (Operand.tmp 144) (Operand.const (Value.int IntKind.i64 1)), type := 0, pos := _, after := _, guard := none }) (v := ?_) rfl (by kernel_rfl) (by kernel_rfl) (by kernel_rfl) (fun _ _ _ h => h) (Or.inl ⟨by rfl, ?_⟩) ?_
                              rotate_left
                              · (intro w hSw; first | (go_simp; done) | (go_simp; with_reducible rfl))
                              try simp only [Act.put, List.setIfInBounds_toArray, List.set_cons_zero, List.set_cons_succ]
                              refine AnyL.ready (rs := [21]) (by kernel_rfl) (by simp) (AllL.cons (o := { dst := none, op := Op.store 35 (Operand.tmp 162) (Operand.tmp 155), type := 0, pos := _, after := _, guard := none }) rfl (fun K hK => ?_) AllL.nil)
                              go_simp
                              refine hK.out _ _ (fun h => absurd (by simp) h) ?_
                              clear hK K
                              try simp only [Act.put, List.setIfInBounds_toArray, List.set_cons_zero, List.set_cons_succ]
                              refine AnyL.pure (i := 22) (oi := { dst := some 163, op := Op.indexAddr 42 (Operand.tmp 145) (Operand.const (Value.int IntKind.i64 2)), type := 0, pos := _, after := _, guard := none }) (v := ?_) rfl (by kernel_rfl) (by kernel_rfl) (by kernel_rfl) (fun _ _ _ h => h) (Or.inl ⟨by rfl, ?_⟩) ?_
                              rotate_left
                              · (intro w hSw; first | (go_simp; done) | (go_simp; with_reducible rfl))
                              try simp only [Act.put, List.setIfInBounds_toArray, List.set_cons_zero, List.set_cons_succ]
                              refine AnyL.ready (rs := [23]) (by kernel_rfl) (by simp) (AllL.cons (o := { dst := none, op := Op.store 35 (Operand.tmp 163) (Operand.tmp 160), type := 0, pos := _, after := _, guard := none }) rfl (fun K hK => ?_) AllL.nil)
                              go_simp
                              refine hK.out _ _ (fun h => absurd (by simp) h) ?_
                              clear hK K
                              try simp only [Act.put, List.setIfInBounds_toArray, List.set_cons_zero, List.set_cons_succ]
                              refine AnyL.done (by kernel_rfl) ?_ _
                              refine NoPanic.normal ?_
                              have hst := HT30.out.stored (by simp) (.slice (some ⟨e27, 0, none⟩) (64 + k + 1) d27) (.slice (some ⟨e29, 0, none⟩) (64 + k + 1) d29) (.slice (some ⟨e30, 0, none⟩) (64 + k + 1) d30)
                              have HFM := Lib.hid hst.1
                              have HFH := Lib.hid hst.2.1
                              have HFW := Lib.hid hst.2.2
                              have HFA := Lib.hid (HGB'.out.holds (HT30.out.hol.trans HFH.out))
                              have HF_0 := Lib.hid (HG30_0.out.holds HFH.out)
                              have HF_1 := Lib.hid (HG30_1.out.holds HFH.out)
                              have HF_2 := Lib.hid (HE30.out.holds HFH.out)
                              clear hst m0 m1 m2 f0 f1 f2
                              go_wp2_with fail
                              go_roundw
                              case rel => exact ⟨k + 1, gb, cb, e27, d27, e29, d29, e30, d30, rfl, rfl, hlt, HFM, HFA, HF_0, HF_1, HF_2, HFW⟩
                              case measure => simp only [intOf]; omega
                      · skip
                        go_simp
                        have HT31 := Lib.hid (HT26.out.alloc (.cells #[.int .u8 122] 5))
                        have HF31 := Lib.hid (Whole.new v26 5 #[.int .u8 122])
                        have HL31 := Lib.hid HT26.out.size
                        have HQ31_0 := Lib.hid (HQ26_0.out.alloc (.cells #[.int .u8 122] 5))
                        have HQ31_2 := Lib.hid (HF26.out.alloc (.cells #[.int .u8 122] 5))
                        generalize v26.alloc (.cells #[.int .u8 122] 5) = v31 at HT31 HF31 HQ31_0 HQ31_2 ⊢
                        generalize v26.heap.size = p31 at HF31 HL31 ⊢
                        refine hK.out _ _ (fun _ => HT31.out.held) ?_
                        clear hK K
                        try simp only [Act.put, List.setIfInBounds_toArray, List.set_cons_zero, List.set_cons_succ]
                        refine AnyL.ready (rs := [7]) (by kernel_rfl) (by simp) ?_
                        refine AllL.cons (o := { dst := some 150, op := Op.call { callee := Callee.builtin Builtin.append, args := #[Operand.tmp 148, Operand.tmp 149], argTypes := #[35, 35] }, type := 35, pos := _, after := _, guard := none }) rfl (fun K hK => ?_) (AllL.nil)
                        · skip
                          refine step_app_gw (HX0.out.holds HT31.out.hol) p1 (.int .u8 122) rfl HQ31_0.out HN1.out HT31.out.big rfl rfl ?_
                          intro e32 d32 v32 q1 q2 q3
                          have HT32 := Lib.hid (HT31.out.app HX0.out q2 q3)
                          have HE32 := Lib.hid q1
                          have HQ32_1 := Lib.hid (HT31.out.fresh HX0.out q2 HF31.out HL31.out)
                          have HQ32_2 := Lib.hid (HT31.out.fresh HX0.out q2 HQ31_2.out HL26.out)
                          clear q1 q2 q3
                          refine hK.out _ _ (fun _ => HT32.out.held) ?_
                          clear hK K
                          try simp only [Act.put, List.setIfInBounds_toArray, List.set_cons_zero, List.set_cons_succ]
                          refine AnyL.ready (rs := [12]) (by kernel_rfl) (by simp) ?_
                          refine AllL.cons (o := { dst := some 155, op := Op.call { callee := Callee.builtin Builtin.append, args := #[Operand.tmp 153, Operand.tmp 154], argTypes := #[35, 35] }, type := 35, pos := _, after := _, guard := none }) rfl (fun K hK => ?_) (AllL.nil)
                          · skip
                            refine step_app_gw (HX1.out.holds HT32.out.hol) p31 (.int .u8 122) rfl HQ32_1.out HN1.out HT32.out.big rfl rfl ?_
                            intro e33 d33 v33 q1 q2 q3
                            have HT33 := Lib.hid (HT32.out.app HX1.out q2 q3)
                            have HE33 := Lib.hid q1
                            have HQ33_2 := Lib.hid (HT32.out.fresh HX1.out q2 HQ32_2.out HL26.out)
                            have HG33_0 := Lib.hid (HE32.out.holds q3)
                            clear q1 q2 q3
                            refine hK.out _ _ (fun _ => HT33.out.held) ?_
                            clear hK K
                            try simp only [Act.put, List.setIfInBounds_toArray, List.set_cons_zero, List.set_cons_succ]
                            refine AnyL.ready (rs := [17]) (by kernel_rfl) (by simp) ?_
                            refine AllL.cons (o := { dst := some 160, op := Op.call { callee := Callee.builtin Builtin.append, args := #[Operand.tmp 158, Operand.tmp 159], argTypes := #[35, 35] }, type := 35, pos := _, after := _, guard := none }) rfl (fun K hK => ?_) (AllL.nil)
                            · skip
                              refine step_app_gw (HX2.out.holds HT33.out.hol) p26 (.int .u8 122) rfl HQ33_2.out HN1.out HT33.out.big rfl rfl ?_
                              intro e34 d34 v34 q1 q2 q3
                              have HT34 := Lib.hid (HT33.out.app HX2.out q2 q3)
                              have HE34 := Lib.hid q1
                              have HG34_0 := Lib.hid (HG33_0.out.holds q3)
                              have HG34_1 := Lib.hid (HE33.out.holds q3)
                              clear q1 q2 q3
                              refine hK.out _ _ (fun _ => HT34.out.held) ?_
                              clear hK K
                              try simp only [Act.put, List.setIfInBounds_toArray, List.set_cons_zero, List.set_cons_succ]
                              obtain ⟨m0, m1, m2⟩ := HT34.out.held
                              have f0 := HT34.out.hp.frozen 0
                              have f1 := HT34.out.hp.frozen 1
                              have f2 := HT34.out.hp.frozen 2
                              refine AnyL.pure (i := 18) (oi := { dst := some 161, op := Op.indexAddr 42 (Operand.tmp 143) (Operand.const (Value.int IntKind.i64 0)), type := 0, pos := _, after := _, guard := none }) (v := ?_) rfl (by kernel_rfl) (by kernel_rfl) (by kernel_rfl) (fun _ _ _ h => h) (Or.inl ⟨by rfl, ?_⟩) ?_
                              rotate_left
                              · (intro w hSw; first | (go_simp; done) | (go_simp; with_reducible rfl))
                              try simp only [Act.put, List.setIfInBounds_toArray, List.set_cons_zero, List.set_cons_succ]
                              refine AnyL.ready (rs := [19]) (by kernel_rfl) (by simp) (AllL.cons (o := { dst := none, op := Op.store 35 (Operand.tmp 161) (Operand.tmp 150), type := 0, pos := _, after := _, guard := none }) rfl (fun K hK => ?_) AllL.nil)
                              go_simp
                              refine hK.out _ _ (fun h => absurd (by simp) h) ?_
                              clear hK K
                              try simp only [Act.put, List.setIfInBounds_toArray, List.set_cons_zero, List.set_cons_succ]
                              refine AnyL.pure (i := 20) (oi := { dst := some 162, op := Op.indexAddr 42 (Operand.tmp 144) (Operand.const (Value.int IntKind.i64 1)), type := 0, pos := _, after := _, guard := none }) (v := ?_) rfl (by kernel_rfl) (by kernel_rfl) (by kernel_rfl) (fun _ _ _ h => h) (Or.inl ⟨by rfl, ?_⟩) ?_
                              rotate_left
                              · (intro w hSw; first | (go_simp; done) | (go_simp; with_reducible rfl))
                              try simp only [Act.put, List.setIfInBounds_toArray, List.set_cons_zero, List.set_cons_succ]
                              refine AnyL.ready (rs := [21]) (by kernel_rfl) (by simp) (AllL.cons (o := { dst := none, op := Op.store 35 (Operand.tmp 162) (Operand.tmp 155), type := 0, pos := _, after := _, guard := none }) rfl (fun K hK => ?_) AllL.nil)
                              go_simp
                              refine hK.out _ _ (fun h => absurd (by simp) h) ?_
                              clear hK K
                              try simp only [Act.put, List.setIfInBounds_toArray, List.set_cons_zero, List.set_cons_succ]
                              refine AnyL.pure (i := 22) (oi := { dst := some 163, op := Op.indexAddr 42 (Operand.tmp 145) (Operand.const (Value.int IntKind.i64 2)), type := 0, pos := _, after := _, guard := none }) (v := ?_) rfl (by kernel_rfl) (by kernel_rfl) (by kernel_rfl) (fun _ _ _ h => h) (Or.inl ⟨by rfl, ?_⟩) ?_
                              rotate_left
                              · (intro w hSw; first | (go_simp; done) | (go_simp; with_reducible rfl))
                              try simp only [Act.put, List.setIfInBounds_toArray, List.set_cons_zero, List.set_cons_succ]
                              refine AnyL.ready (rs := [23]) (by kernel_rfl) (by simp) (AllL.cons (o := { dst := none, op := Op.store 35 (Operand.tmp 163) (Operand.tmp 160), type := 0, pos := _, after := _, guard := none }) rfl (fun K hK => ?_) AllL.nil)
                              go_simp
                              refine hK.out _ _ (fun h => absurd (by simp) h) ?_
                              clear hK K
                              try simp only [Act.put, List.setIfInBounds_toArray, List.set_cons_zero, List.set_cons_succ]
                              refine AnyL.done (by kernel_rfl) ?_ _
                              refine NoPanic.normal ?_
                              have hst := HT34.out.stored (by simp) (.slice (some ⟨e32, 0, none⟩) (64 + k + 1) d32) (.slice (some ⟨e33, 0, none⟩) (64 + k + 1) d33) (.slice (some ⟨e34, 0, none⟩) (64 + k + 1) d34)
                              have HFM := Lib.hid hst.1
                              have HFH := Lib.hid hst.2.1
                              have HFW := Lib.hid hst.2.2
                              have HFA := Lib.hid (HGB'.out.holds (HT34.out.hol.trans HFH.out))
                              have HF_0 := Lib.hid (HG34_0.out.holds HFH.out)
                              have HF_1 := Lib.hid (HG34_1.out.holds HFH.out)
                              have HF_2 := Lib.hid (HE34.out.holds HFH.out)
                              clear hst m0 m1 m2 f0 f1 f2
                              go_wp2_with fail
                              go_roundw
                              case rel => exact ⟨k + 1, gb, cb, e32, d32, e33, d33, e34, d34, rfl, rfl, hlt, HFM, HFA, HF_0, HF_1, HF_2, HFW⟩
                              case measure => simp only [intOf]; omega
                  · skip
                    go_simp
                    have HT35 := Lib.hid (HT0.out.alloc (.cells #[.int .u8 122] 5))
                    have HF35 := Lib.hid (Whole.new v0 5 #[.int .u8 122])
                    have HL35 := Lib.hid HT0.out.size
                    generalize v0.alloc (.cells #[.int .u8 122] 5) = v35 at HT35 HF35 ⊢
                    generalize v0.heap.size = p35 at HF35 HL35 ⊢
                    refine hK.out _ _ (fun _ => HT35.out.held) ?_
                    clear hK K
                    try simp only [Act.put, List.setIfInBounds_toArray, List.set_cons_zero, List.set_cons_succ]
                    refine AnyL.ready (rs := [6, 16]) (by kernel_rfl) (by simp) ?_
                    refine AllL.cons (o := { dst := some 149, op := Op.buildSlice 35 1 #[(0, Operand.const (Value.int IntKind.u8 122))], type := 35, pos := _, after := _, guard := none }) rfl (fun K hK => ?_) (AllL.cons (o := { dst := some 159, op := Op.buildSlice 35 1 #[(0, Operand.const (Value.int IntKind.u8 122))], type := 35, pos := _, after := _, guard := none }) rfl (fun K hK => ?_) (AllL.nil))
                    · skip
                      go_simp
                      have HT36 := Lib.hid (HT35.out.alloc (.cells #[.int .u8 122] 5))
                      have HF36 := Lib.hid (Whole.new v35 5 #[.int .u8 122])
                      have HL36 := Lib.hid HT35.out.size
                      have HQ36_1 := Lib.hid (HF35.out.alloc (.cells #[.int .u8 122] 5))
                      generalize v35.alloc (.cells #[.int .u8 122] 5) = v36 at HT36 HF36 HQ36_1 ⊢
                      generalize v35.heap.size = p36 at HF36 HL36 ⊢
                      refine hK.out _ _ (fun _ => HT36.out.held) ?_
                      clear hK K
                      try simp only [Act.put, List.setIfInBounds_toArray, List.set_cons_zero, List.set_cons_succ]
                      refine AnyL.ready (rs := [7, 16]) (by kernel_rfl) (by simp) ?_
                      refine AllL.cons (o := { dst := some 150, op := Op.call { callee := Callee.builtin Builtin.append, args := #[Operand.tmp 148, Operand.tmp 149], argTypes := #[35, 35] }, type := 35, pos := _, after := _, guard := none }) rfl (fun K hK => ?_) (AllL.cons (o := { dst := some 159, op := Op.buildSlice 35 1 #[(0, Operand.const (Value.int IntKind.u8 122))], type := 35, pos := _, after := _, guard := none }) rfl (fun K hK => ?_) (AllL.nil))
                      · skip
                        refine step_app_gw (HX0.out.holds HT36.out.hol) p36 (.int .u8 122) rfl HF36.out HN1.out HT36.out.big rfl rfl ?_
                        intro e37 d37 v37 q1 q2 q3
                        have HT37 := Lib.hid (HT36.out.app HX0.out q2 q3)
                        have HE37 := Lib.hid q1
                        have HQ37_1 := Lib.hid (HT36.out.fresh HX0.out q2 HQ36_1.out HL35.out)
                        clear q1 q2 q3
                        refine hK.out _ _ (fun _ => HT37.out.held) ?_
                        clear hK K
                        try simp only [Act.put, List.setIfInBounds_toArray, List.set_cons_zero, List.set_cons_succ]
                        refine AnyL.ready (rs := [12, 16]) (by kernel_rfl) (by simp) ?_
                        refine AllL.cons (o := { dst := some 155, op := Op.call { callee := Callee.builtin Builtin.append, args := #[Operand.tmp 153, Operand.tmp 154], argTypes := #[35, 35] }, type := 35, pos := _, after := _, guard := none }) rfl (fun K hK => ?_) (AllL.cons (o := { dst := some 159, op := Op.buildSlice 35 1 #[(0, Operand.const (Value.int IntKind.u8 122))], type := 35, pos := _, after := _, guard := none }) rfl (fun K hK => ?_) (AllL.nil))
                        · skip
                          refine step_app_gw (HX1.out.holds HT37.out.hol) p35 (.int .u8 122) rfl HQ37_1.out HN1.out HT37.out.big rfl rfl ?_
                          intro e38 d38 v38 q1 q2 q3
                          have HT38 := Lib.hid (HT37.out.app HX1.out q2 q3)
                          have HE38 := Lib.hid q1
                          have HG38_0 := Lib.hid (HE37.out.holds q3)
                          clear q1 q2 q3
                          refine hK.out _ _ (fun _ => HT38.out.held) ?_
                          clear hK K
                          try simp only [Act.put, List.setIfInBounds_toArray, List.set_cons_zero, List.set_cons_succ]
                          refine AnyL.ready (rs := [16]) (by kernel_rfl) (by simp) ?_
                          refine AllL.cons (o := { dst := some 159, op := Op.buildSlice 35 1 #[(0, Operand.const (Value.int IntKind.u8 122))], type := 35, pos := _, after := _, guard := none }) rfl (fun K hK => ?_) (AllL.nil)
                          · skip
                            go_simp
                            have HT39 := Lib.hid (HT38.out.alloc (.cells #[.int .u8 122] 5))
                            have HF39 := Lib.hid (Whole.new v38 5 #[.int .u8 122])
                            have HL39 := Lib.hid HT38.out.size
                            have HG39_0 := Lib.hid (HG38_0.out.holds (Holds.alloc v38 (.cells #[.int .u8 122] 5)))
                            have HG39_1 := Lib.hid (HE38.out.holds (Holds.alloc v38 (.cells #[.int .u8 122] 5)))
                            generalize v38.alloc (.cells #[.int .u8 122] 5) = v39 at HT39 HF39 HG39_0 HG39_1 ⊢
                            generalize v38.heap.size = p39 at HF39 HL39 ⊢
                            refine hK.out _ _ (fun _ => HT39.out.held) ?_
                            clear hK K
                            try simp only [Act.put, List.setIfInBounds_toArray, List.set_cons_zero, List.set_cons_succ]
                            refine AnyL.ready (rs := [17]) (by kernel_rfl) (by simp) ?_
                            refine AllL.cons (o := { dst := some 160, op := Op.call { callee := Callee.builtin Builtin.append, args := #[Operand.tmp 158, Operand.tmp 159], argTypes := #[35, 35] }, type := 35, pos := _, after := _, guard := none }) rfl (fun K hK => ?_) (AllL.nil)
                            · skip
                              refine step_app_gw (HX2.out.holds HT39.out.hol) p39 (.int .u8 122) rfl HF39.out HN1.out HT39.out.big rfl rfl ?_
                              intro e40 d40 v40 q1 q2 q3
                              have HT40 := Lib.hid (HT39.out.app HX2.out q2 q3)
                              have HE40 := Lib.hid q1
                              have HG40_0 := Lib.hid (HG39_0.out.holds q3)
                              have HG40_1 := Lib.hid (HG39_1.out.holds q3)
                              clear q1 q2 q3
                              refine hK.out _ _ (fun _ => HT40.out.held) ?_
                              clear hK K
                              try simp only [Act.put, List.setIfInBounds_toArray, List.set_cons_zero, List.set_cons_succ]
                              obtain ⟨m0, m1, m2⟩ := HT40.out.held
                              have f0 := HT40.out.hp.frozen 0
                              have f1 := HT40.out.hp.frozen 1
                              have f2 := HT40.out.hp.frozen 2
                              refine AnyL.pure (i := 18) (oi := { dst := some 161, op := Op.indexAddr 42 (Operand.tmp 143) (Operand.const (Value.int IntKind.i64 0)), type := 0, pos := _, after := _, guard := none }) (v := ?_) rfl (by kernel_rfl) (by kernel_rfl) (by kernel_rfl) (fun _ _ _ h => h) (Or.inl ⟨by rfl, ?_⟩) ?_
                              rotate_left
                              · (intro w hSw; first | (go_simp; done) | (go_simp; with_reducible rfl))
                              try simp only [Act.put, List.setIfInBounds_toArray, List.set_cons_zero, List.set_cons_succ]
                              refine AnyL.ready (rs := [19]) (by kernel_rfl) (by simp) (AllL.cons (o := { dst := none, op := Op.store 35 (Operand.tmp 161) (Operand.tmp 150), type := 0, pos := _, after := _, guard := none }) rfl (fun K hK => ?_) AllL.nil)
                              go_simp
                              refine hK.out _ _ (fun h => absurd (by simp) h) ?_
                              clear hK K
                              try simp only [Act.put, List.setIfInBounds_toArray, List.set_cons_zero, List.set_cons_succ]
                              refine AnyL.pure (i := 20) (oi := { dst := some 162, op := Op.indexAddr 42 (Operand.tmp 144) (Operand.const (Value.int IntKind.i64 1)), type := 0, pos := _, after := _, guard := none }) (v := ?_) rfl (by kernel_rfl) (by kernel_rfl) (by kernel_rfl) (fun _ _ _ h => h) (Or.inl ⟨by rfl, ?_⟩) ?_
                              rotate_left
                              · (intro w hSw; first | (go_simp; done) | (go_simp; with_reducible rfl))
                              try simp only [Act.put, List.setIfInBounds_toArray, List.set_cons_zero, List.set_cons_succ]
                              refine AnyL.ready (rs := [21]) (by kernel_rfl) (by simp) (AllL.cons (o := { dst := none, op := Op.store 35 (Operand.tmp 162) (Operand.tmp 155), type := 0, pos := _, after := _, guard := none }) rfl (fun K hK => ?_) AllL.nil)
                              go_simp
                              refine hK.out _ _ (fun h => absurd (by simp) h) ?_
                              clear hK K
                              try simp only [Act.put, List.setIfInBounds_toArray, List.set_cons_zero, List.set_cons_succ]
                              refine AnyL.pure (i := 22) (oi := { dst := some 163, op := Op.indexAddr 42 (Operand.tmp 145) (Operand.const (Value.int IntKind.i64 2)), type := 0, pos := _, after := _, guard := none }) (v := ?_) rfl (by kernel_rfl) (by kernel_rfl) (by kernel_rfl) (fun _ _ _ h => h) (Or.inl ⟨by rfl, ?_⟩) ?_
                              rotate_left
                              · (intro w hSw; first | (go_simp; done) | (go_simp; with_reducible rfl))
                              try simp only [Act.put, List.setIfInBounds_toArray, List.set_cons_zero, List.set_cons_succ]
                              refine AnyL.ready (rs := [23]) (by kernel_rfl) (by simp) (AllL.cons (o := { dst := none, op := Op.store 35 (Operand.tmp 163) (Operand.tmp 160), type := 0, pos := _, after := _, guard := none }) rfl (fun K hK => ?_) AllL.nil)
                              go_simp
                              refine hK.out _ _ (fun h => absurd (by simp) h) ?_
                              clear hK K
                              try simp only [Act.put, List.setIfInBounds_toArray, List.set_cons_zero, List.set_cons_succ]
                              refine AnyL.done (by kernel_rfl) ?_ _
                              refine NoPanic.normal ?_
                              have hst := HT40.out.stored (by simp) (.slice (some ⟨e37, 0, none⟩) (64 + k + 1) d37) (.slice (some ⟨e38, 0, none⟩) (64 + k + 1) d38) (.slice (some ⟨e40, 0, none⟩) (64 + k + 1) d40)
                              have HFM := Lib.hid hst.1
                              have HFH := Lib.hid hst.2.1
                              have HFW := Lib.hid hst.2.2
                              have HFA := Lib.hid (HGB'.out.holds (HT40.out.hol.trans HFH.out))
                              have HF_0 := Lib.hid (HG40_0.out.holds HFH.out)
                              have HF_1 := Lib.hid (HG40_1.out.holds HFH.out)
                              have HF_2 := Lib.hid (HE40.out.holds HFH.out)
                              clear hst m0 m1 m2 f0 f1 f2
                              go_wp2_with fail
                              go_roundw
                              case rel => exact ⟨k + 1, gb, cb, e37, d37, e38, d38, e40, d40, rfl, rfl, hlt, HFM, HFA, HF_0, HF_1, HF_2, HFW⟩
                              case measure => simp only [intOf]; omega
                        · skip
                          go_simp
                          have HT41 := Lib.hid (HT37.out.alloc (.cells #[.int .u8 122] 5))
                          have HF41 := Lib.hid (Whole.new v37 5 #[.int .u8 122])
                          have HL41 := Lib.hid HT37.out.size
                          have HQ41_1 := Lib.hid (HQ37_1.out.alloc (.cells #[.int .u8 122] 5))
                          have HG41_0 := Lib.hid (HE37.out.holds (Holds.alloc v37 (.cells #[.int .u8 122] 5)))
                          generalize v37.alloc (.cells #[.int .u8 122] 5) = v41 at HT41 HF41 HQ41_1 HG41_0 ⊢
                          generalize v37.heap.size = p41 at HF41 HL41 ⊢
                          refine hK.out _ _ (fun _ => HT41.out.held) ?_
                          clear hK K
                          try simp only [Act.put, List.setIfInBounds_toArray, List.set_cons_zero, List.set_cons_succ]
                          refine AnyL.ready (rs := [12]) (by kernel_rfl) (by simp) ?_
                          refine AllL.cons (o := { dst := some 155, op := Op.call { callee := Callee.builtin Builtin.append, args := #[Operand.tmp 153, Operand.tmp 154], argTypes := #[35, 35] }, type := 35, pos := _, after := _, guard := none }) rfl (fun K hK => ?_) (AllL.nil)
                          · skip
                            refine step_app_gw (HX1.out.holds HT41.out.hol) p35 (.int .u8 122) rfl HQ41_1.out HN1.out HT41.out.big rfl rfl ?_
                            intro e42 d42 v42 q1 q2 q3
                            have HT42 := Lib.hid (HT41.out.app HX1.out q2 q3)
                            have HE42 := Lib.hid q1
                            have HQ42_2 := Lib.hid (HT41.out.fresh HX1.out q2 HF41.out HL41.out)
                            have HG42_0 := Lib.hid (HG41_0.out.holds q3)
                            clear q1 q2 q3
                            refine hK.out _ _ (fun _ => HT42.out.held) ?_
                            clear hK K
                            try simp only [Act.put, List.setIfInBounds_toArray, List.set_cons_zero, List.set_cons_succ]
                            refine AnyL.ready (rs := [17]) (by kernel_rfl) (by simp) ?_
                            refine AllL.cons (o := { dst := some 160, op := Op.call { callee := Callee.builtin Builtin.append, args := #[Operand.tmp 158, Operand.tmp 159], argTypes := #[35, 35] }, type := 35, pos := _, after := _, guard := none }) rfl (fun K hK => ?_) (AllL.nil)
                            · skip
                              refine step_app_gw (HX2.out.holds HT42.out.hol) p41 (.int .u8 122) rfl HQ42_2.out HN1.out HT42.out.big rfl rfl ?_
                              intro e43 d43 v43 q1 q2 q3
                              have HT43 := Lib.hid (HT42.out.app HX2.out q2 q3)
                              have HE43 := Lib.hid q1
                              have HG43_0 := Lib.hid (HG42_0.out.holds q3)
                              have HG43_1 := Lib.hid (HE42.out.holds q3)
                              clear q1 q2 q3
                              refine hK.out _ _ (fun _ => HT43.out.held) ?_
                              clear hK K
                              try simp only [Act.put, List.setIfInBounds_toArray, List.set_cons_zero, List.set_cons_succ]
                              obtain ⟨m0, m1, m2⟩ := HT43.out.held
                              have f0 := HT43.out.hp.frozen 0
                              have f1 := HT43.out.hp.frozen 1
                              have f2 := HT43.out.hp.frozen 2
                              refine AnyL.pure (i := 18) (oi := { dst := some 161, op := Op.indexAddr 42 (Operand.tmp 143) (Operand.const (Value.int IntKind.i64 0)), type := 0, pos := _, after := _, guard := none }) (v := ?_) rfl (by kernel_rfl) (by kernel_rfl) (by kernel_rfl) (fun _ _ _ h => h) (Or.inl ⟨by rfl, ?_⟩) ?_
                              rotate_left
                              · (intro w hSw; first | (go_simp; done) | (go_simp; with_reducible rfl))
                              try simp only [Act.put, List.setIfInBounds_toArray, List.set_cons_zero, List.set_cons_succ]
                              refine AnyL.ready (rs := [19]) (by kernel_rfl) (by simp) (AllL.cons (o := { dst := none, op := Op.store 35 (Operand.tmp 161) (Operand.tmp 150), type := 0, pos := _, after := _, guard := none }) rfl (fun K hK => ?_) AllL.nil)
                              go_simp
                              refine hK.out _ _ (fun h => absurd (by simp) h) ?_
                              clear hK K
                              try simp only [Act.put, List.setIfInBounds_toArray, List.set_cons_zero, List.set_cons_succ]
                              refine AnyL.pure (i := 20) (oi := { dst := some 162, op := Op.indexAddr 42 (Operand.tmp 144) (Operand.const (Value.int IntKind.i64 1)), type := 0, pos := _, after := _, guard := none }) (v := ?_) rfl (by kernel_rfl) (by kernel_rfl) (by kernel_rfl) (fun _ _ _ h => h) (Or.inl ⟨by rfl, ?_⟩) ?_
                              rotate_left
                              · (intro w hSw; first | (go_simp; done) | (go_simp; with_reducible rfl))
                              try simp only [Act.put, List.setIfInBounds_toArray, List.set_cons_zero, List.set_cons_succ]
                              refine AnyL.ready (rs := [21]) (by kernel_rfl) (by simp) (AllL.cons (o := { dst := none, op := Op.store 35 (Operand.tmp 162) (Operand.tmp 155), type := 0, pos := _, after := _, guard := none }) rfl (fun K hK => ?_) AllL.nil)
                              go_simp
                              refine hK.out _ _ (fun h => absurd (by simp) h) ?_
                              clear hK K
                              try simp only [Act.put, List.setIfInBounds_toArray, List.set_cons_zero, List.set_cons_succ]
                              refine AnyL.pure (i := 22) (oi := { dst := some 163, op := Op.indexAddr 42 (Operand.tmp 145) (Operand.const (Value.int IntKind.i64 2)), type := 0, pos := _, after := _, guard := none }) (v := ?_) rfl (by kernel_rfl) (by kernel_rfl) (by kernel_rfl) (fun _ _ _ h => h) (Or.inl ⟨by rfl, ?_⟩) ?_
                              rotate_left
                              · (intro w hSw; first | (go_simp; done) | (go_simp; with_reducible rfl))
                              try simp only [Act.put, List.setIfInBounds_toArray, List.set_cons_zero, List.set_cons_succ]
                              refine AnyL.ready (rs := [23]) (by kernel_rfl) (by simp) (AllL.cons (o := { dst := none, op := Op.store 35 (Operand.tmp 163) (Operand.tmp 160), type := 0, pos := _, after := _, guard := none }) rfl (fun K hK => ?_) AllL.nil)
                              go_simp
                              refine hK.out _ _ (fun h => absurd (by simp) h) ?_
                              clear hK K
                              try simp only [Act.put, List.setIfInBounds_toArray, List.set_cons_zero, List.set_cons_succ]
                              refine AnyL.done (by kernel_rfl) ?_ _
                              refine NoPanic.normal ?_
                              have hst := HT43.out.stored (by simp) (.slice (some ⟨e37, 0, none⟩) (64 + k + 1) d37) (.slice (some ⟨e42, 0, none⟩) (64 + k + 1) d42) (.slice (some ⟨e43, 0, none⟩) (64 + k + 1) d43)
                              have HFM := Lib.hid hst.1
                              have HFH := Lib.hid hst.2.1
                              have HFW := Lib.hid hst.2.2
                              have HFA := Lib.hid (HGB'.out.holds (HT43.out.hol.trans HFH.out))
                              have HF_0 := Lib.hid (HG43_0.out.holds HFH.out)
                              have HF_1 := Lib.hid (HG43_1.out.holds HFH.out)
                              have HF_2 := Lib.hid (HE43.out.holds HFH.out)
                              clear hst m0 m1 m2 f0 f1 f2
                              go_wp2_with fail
                              go_roundw
                              case rel => exact ⟨k + 1, gb, cb, e37, d37, e42, d42, e43, d43, rfl, rfl, hlt, HFM, HFA, HF_0, HF_1, HF_2, HFW⟩
                              case measure => simp only [intOf]; omega
                      · skip
                        go_simp
                        have HT44 := Lib.hid (HT36.out.alloc (.cells #[.int .u8 122] 5))
                        have HF44 := Lib.hid (Whole.new v36 5 #[.int .u8 122])
                        have HL44 := Lib.hid HT36.out.size
                        have HQ44_0 := Lib.hid (HF36.out.alloc (.cells #[.int .u8 122] 5))
                        have HQ44_1 := Lib.hid (HQ36_1.out.alloc (.cells #[.int .u8 122] 5))
                        generalize v36.alloc (.cells #[.int .u8 122] 5) = v44 at HT44 HF44 HQ44_0 HQ44_1 ⊢
                        generalize v36.heap.size = p44 at HF44 HL44 ⊢
                        refine hK.out _ _ (fun _ => HT44.out.held) ?_
                        clear hK K
                        try simp only [Act.put, List.setIfInBounds_toArray, List.set_cons_zero, List.set_cons_succ]
                        refine AnyL.ready (rs := [7]) (by kernel_rfl) (by simp) ?_
                        refine AllL.cons (o := { dst := some 150, op := Op.call { callee := Callee.builtin Builtin.append, args := #[Operand.tmp 148, Operand.tmp 149], argTypes := #[35, 35] }, type := 35, pos := _, after := _, guard := none }) rfl (fun K hK => ?_) (AllL.nil)
                        · skip
                          refine step_app_gw (HX0.out.holds HT44.out.hol) p36 (.int .u8 122) rfl HQ44_0.out HN1.out HT44.out.big rfl rfl ?_
                          intro e45 d45 v45 q1 q2 q3
                          have HT45 := Lib.hid (HT44.out.app HX0.out q2 q3)
                          have HE45 := Lib.hid q1
                          have HQ45_1 := Lib.hid (HT44.out.fresh HX0.out q2 HQ44_1.out HL35.out)
                          have HQ45_2 := Lib.hid (HT44.out.fresh HX0.out q2 HF44.out HL44.out)
                          clear q1 q2 q3
                          refine hK.out _ _ (fun _ => HT45.out.held) ?_
                          clear hK K
                          try simp only [Act.put, List.setIfInBounds_toArray, List.set_cons_zero, List.set_cons_succ]
                          refine AnyL.ready (rs := [12]) (by kernel_rfl) (by simp) ?_
                          refine AllL.cons (o := { dst := some 155, op := Op.call { callee := Callee.builtin Builtin.append, args := #[Operand.tmp 153, Operand.tmp 154], argTypes := #[35, 35] }, type := 35, pos := _, after := _, guard := none }) rfl (fun K hK => ?_) (AllL.nil)
                          · skip
                            refine step_app_gw (HX1.out.holds HT45.out.hol) p35 (.int .u8 122) rfl HQ45_1.out HN1.out HT45.out.big rfl rfl ?_
                            intro e46 d46 v46 q1 q2 q3
                            have HT46 := Lib.hid (HT45.out.app HX1.out q2 q3)
                            have HE46 := Lib.hid q1
                            have HQ46_2 := Lib.hid (HT45.out.fresh HX1.out q2 HQ45_2.out HL44.out)
                            have HG46_0 := Lib.hid (HE45.out.holds q3)
                            clear q1 q2 q3
                            refine hK.out _ _ (fun _ => HT46.out.held) ?_
                            clear hK K
                            try simp only [Act.put, List.setIfInBounds_toArray, List.set_cons_zero, List.set_cons_succ]
                            refine AnyL.ready (rs := [17]) (by kernel_rfl) (by simp) ?_
                            refine AllL.cons (o := { dst := some 160, op := Op.call { callee := Callee.builtin Builtin.append, args := #[Operand.tmp 158, Operand.tmp 159], argTypes := #[35, 35] }, type := 35, pos := _, after := _, guard := none }) rfl (fun K hK => ?_) (AllL.nil)
                            · skip
                              refine step_app_gw (HX2.out.holds HT46.out.hol) p44 (.int .u8 122) rfl HQ46_2.out HN1.out HT46.out.big rfl rfl ?_
                              intro e47 d47 v47 q1 q2 q3
                              have HT47 := Lib.hid (HT46.out.app HX2.out q2 q3)
                              have HE47 := Lib.hid q1
                              have HG47_0 := Lib.hid (HG46_0.out.holds q3)
                              have HG47_1 := Lib.hid (HE46.out.holds q3)
                              clear q1 q2 q3
                              refine hK.out _ _ (fun _ => HT47.out.held) ?_
                              clear hK K
                              try simp only [Act.put, List.setIfInBounds_toArray, List.set_cons_zero, List.set_cons_succ]
                              obtain ⟨m0, m1, m2⟩ := HT47.out.held
                              have f0 := HT47.out.hp.frozen 0
                              have f1 := HT47.out.hp.frozen 1
                              have f2 := HT47.out.hp.frozen 2
                              refine AnyL.pure (i := 18) (oi := { dst := some 161, op := Op.indexAddr 42 (Operand.tmp 143) (Operand.const (Value.int IntKind.i64 0)), type := 0, pos := _, after := _, guard := none }) (v := ?_) rfl (by kernel_rfl) (by kernel_rfl) (by kernel_rfl) (fun _ _ _ h => h) (Or.inl ⟨by rfl, ?_⟩) ?_
                              rotate_left
                              · (intro w hSw; first | (go_simp; done) | (go_simp; with_reducible rfl))
                              try simp only [Act.put, List.setIfInBounds_toArray, List.set_cons_zero, List.set_cons_succ]
                              refine AnyL.ready (rs := [19]) (by kernel_rfl) (by simp) (AllL.cons (o := { dst := none, op := Op.store 35 (Operand.tmp 161) (Operand.tmp 150), type := 0, pos := _, after := _, guard := none }) rfl (fun K hK => ?_) AllL.nil)
                              go_simp
                              refine hK.out _ _ (fun h => absurd (by simp) h) ?_
                              clear hK K
                              try simp only [Act.put, List.setIfInBounds_toArray, List.set_cons_zero, List.set_cons_succ]
                              refine AnyL.pure (i := 20) (oi := { dst := some 162, op := Op.indexAddr 42 (Operand.tmp 144) (Operand.const (Value.int IntKind.i64 1)), type := 0, pos := _, after := _, guard := none }) (v := ?_) rfl (by kernel_rfl) (by kernel_rfl) (by kernel_rfl) (fun _ _ _ h => h) (Or.inl ⟨by rfl, ?_⟩) ?_
                              rotate_left
                              · (intro w hSw; first | (go_simp; done) | (go_simp; with_reducible rfl))
                              try simp only [Act.put, List.setIfInBounds_toArray, List.set_cons_zero, List.set_cons_succ]
                              refine AnyL.ready (rs := [21]) (by kernel_rfl) (by simp) (AllL.cons (o := { dst := none, op := Op.store 35 (Operand.tmp 162) (Operand.tmp 155), type := 0, pos := _, after := _, guard := none }) rfl (fun K hK => ?_) AllL.nil)
                              go_simp
                              refine hK.out _ _ (fun h => absurd (by simp) h) ?_
                              clear hK K
                              try simp only [Act.put, List.setIfInBounds_toArray, List.set_cons_zero, List.set_cons_succ]
                              refine AnyL.pure (i := 22) (oi := { dst := some 163, op := Op.indexAddr 42 (Operand.tmp 145) (Operand.const (Value.int IntKind.i64 2)), type := 0, pos := _, after := _, guard := none }) (v := ?_) rfl (by kernel_rfl) (by kernel_rfl) (by kernel_rfl) (fun _ _ _ h => h) (Or.inl ⟨by rfl, ?_⟩) ?_
                              rotate_left
                              · (intro w hSw; first | (go_simp; done) | (go_simp; with_reducible rfl))
                              try simp only [Act.put, List.setIfInBounds_toArray, List.set_cons_zero, List.set_cons_succ]
                              refine AnyL.ready (rs := [23]) (by kernel_rfl) (by simp) (AllL.cons (o := { dst := none, op := Op.store 35 (Operand.tmp 163) (Operand.tmp 160), type := 0, pos := _, after := _, guard := none }) rfl (fun K hK => ?_) AllL.nil)
                              go_simp
                              refine hK.out _ _ (fun h => absurd (by simp) h) ?_
                              clear hK K
                              try simp only [Act.put, List.setIfInBounds_toArray, List.set_cons_zero, List.set_cons_succ]
                              refine AnyL.done (by kernel_rfl) ?_ _
                              refine NoPanic.normal ?_
                              have hst := HT47.out.stored (by simp) (.slice (some ⟨e45, 0, none⟩) (64 + k + 1) d45) (.slice (some ⟨e46, 0, none⟩) (64 + k + 1) d46) (.slice (some ⟨e47, 0, none⟩) (64 + k + 1) d47)
                              have HFM := Lib.hid hst.1
                              have HFH := Lib.hid hst.2.1
                              have HFW := Lib.hid hst.2.2
                              have HFA := Lib.hid (HGB'.out.holds (HT47.out.hol.trans HFH.out))
                              have HF_0 := Lib.hid (HG47_0.out.holds HFH.out)
                              have HF_1 := Lib.hid (HG47_1.out.holds HFH.out)
                              have HF_2 := Lib.hid (HE47.out.holds HFH.out)
                              clear hst m0 m1 m2 f0 f1 f2
                              go_wp2_with fail
                              go_roundw
                              case rel => exact ⟨k + 1, gb, cb, e45, d45, e46, d46, e47, d47, rfl, rfl, hlt, HFM, HFA, HF_0, HF_1, HF_2, HFW⟩
                              case measure => simp only [intOf]; omega
                    · skip
                      go_simp
                      have HT48 := Lib.hid (HT35.out.alloc (.cells #[.int .u8 122] 5))
                      have HF48 := Lib.hid (Whole.new v35 5 #[.int .u8 122])
                      have HL48 := Lib.hid HT35.out.size
                      have HQ48_1 := Lib.hid (HF35.out.alloc (.cells #[.int .u8 122] 5))
                      generalize v35.alloc (.cells #[.int .u8 122] 5) = v48 at HT48 HF48 HQ48_1 ⊢
                      generalize v35.heap.size = p48 at HF48 HL48 ⊢
                      refine hK.out _ _ (fun _ => HT48.out.held) ?_
                      clear hK K
                      try simp only [Act.put, List.setIfInBounds_toArray, List.set_cons_zero, List.set_cons_succ]
                      refine AnyL.ready (rs := [6]) (by kernel_rfl) (by simp) ?_
                      refine AllL.cons (o := { dst := some 149, op := Op.buildSlice 35 1 #[(0, Operand.const (Value.int IntKind.u8 122))], type := 35, pos := _, after := _, guard := none }) rfl (fun K hK => ?_) (AllL.nil)
                      · skip
                        go_simp
                        have HT49 := Lib.hid (HT48.out.alloc (.cells #[.int .u8 122] 5))
                        have HF49 := Lib.hid (Whole.new v48 5 #[.int .u8 122])
                        have HL49 := Lib.hid HT48.out.size
                        have HQ49_1 := Lib.hid (HQ48_1.out.alloc (.cells #[.int .u8 122] 5))
                        have HQ49_2 := Lib.hid (HF48.out.alloc (.cells #[.int .u8 122] 5))
                        generalize v48.alloc (.cells #[.int .u8 122] 5) = v49 at HT49 HF49 HQ49_1 HQ49_2 ⊢
                        generalize v48.heap.size = p49 at HF49 HL49 ⊢
                        refine hK.out _ _ (fun _ => HT49.out.held) ?_
                        clear hK K
                        try simp only [Act.put, List.setIfInBounds_toArray, List.set_cons_zero, List.set_cons_succ]
                        refine AnyL.ready (rs := [7]) (by kernel_rfl) (by simp) ?_
                        refine AllL.cons (o := { dst := some 150, op := Op.call { callee := Callee.builtin Builtin.append, args := #[Operand.tmp 148, Operand.tmp 149], argTypes := #[35, 35] }, type := 35, pos := _, after := _, guard := none }) rfl (fun K hK => ?_) (AllL.nil)
                        · skip
                          refine step_app_gw (HX0.out.holds HT49.out.hol) p49 (.int .u8 122) rfl HF49.out HN1.out HT49.out.big rfl rfl ?_
                          intro e50 d50 v50 q1 q2 q3
                          have HT50 := Lib.hid (HT49.out.app HX0.out q2 q3)
                          have HE50 := Lib.hid q1
                          have HQ50_1 := Lib.hid (HT49.out.fresh HX0.out q2 HQ49_1.out HL35.out)
                          have HQ50_2 := Lib.hid (HT49.out.fresh HX0.out q2 HQ49_2.out HL48.out)
                          clear q1 q2 q3
                          refine hK.out _ _ (fun _ => HT50.out.held) ?_
                          clear hK K
                          try simp only [Act.put, List.setIfInBounds_toArray, List.set_cons_zero, List.set_cons_succ]
                          refine AnyL.ready (rs := [12]) (by kernel_rfl) (by simp) ?_
                          refine AllL.cons (o := { dst := some 155, op := Op.call { callee := Callee.builtin Builtin.append, args := #[Operand.tmp 153, Operand.tmp 154], argTypes := #[35, 35] }, type := 35, pos := _, after := _, guard := none }) rfl (fun K hK => ?_) (AllL.nil)
                          · skip
                            refine step_app_gw (HX1.out.holds HT50.out.hol) p35 (.int .u8 122) rfl HQ50_1.out HN1.out HT50.out.big rfl rfl ?_
                            intro e51 d51 v51 q1 q2 q3
                            have HT51 := Lib.hid (HT50.out.app HX1.out q2 q3)
                            have HE51 := Lib.hid q1
                            have HQ51_2 := Lib.hid (HT50.out.fresh HX1.out q2 HQ50_2.out HL48.out)
                            have HG51_0 := Lib.hid (HE50.out.holds q3)
                            clear q1 q2 q3
                            refine hK.out _ _ (fun _ => HT51.out.held) ?_
                            clear hK K
                            try simp only [Act.put, List.setIfInBounds_toArray, List.set_cons_zero, List.set_cons_succ]
                            refine AnyL.ready (rs := [17]) (by kernel_rfl) (by simp) ?_
                            refine AllL.cons (o := { dst := some 160, op := Op.call { callee := Callee.builtin Builtin.append, args := #[Operand.tmp 158, Operand.tmp 159], argTypes := #[35, 35] }, type := 35, pos := _, after := _, guard := none }) rfl (fun K hK => ?_) (AllL.nil)
                            · skip
                              refine step_app_gw (HX2.out.holds HT51.out.hol) p48 (.int .u8 122) rfl HQ51_2.out HN1.out HT51.out.big rfl rfl ?_
                              intro e52 d52 v52 q1 q2 q3
                              have HT52 := Lib.hid (HT51.out.app HX2.out q2 q3)
                              have HE52 := Lib.hid q1
                              have HG52_0 := Lib.hid (HG51_0.out.holds q3)
                              have HG52_1 := Lib.hid (HE51.out.holds q3)
                              clear q1 q2 q3
                              refine hK.out _ _ (fun _ => HT52.out.held) ?_
                              clear hK K
                              try simp only [Act.put, List.setIfInBounds_toArray, List.set_cons_zero, List.set_cons_succ]
                              obtain ⟨m0, m1, m2⟩ := HT52.out.held
                              have f0 := HT52.out.hp.frozen 0
                              have f1 := HT52.out.hp.frozen 1
                              have f2 := HT52.out.hp.frozen 2
                              refine AnyL.pure (i := 18) (oi := { dst := some 161, op := Op.indexAddr 42 (Operand.tmp 143) (Operand.const (Value.int IntKind.i64 0)), type := 0, pos := _, after := _, guard := none }) (v := ?_) rfl (by kernel_rfl) (by kernel_rfl) (by kernel_rfl) (fun _ _ _ h => h) (Or.inl ⟨by rfl, ?_⟩) ?_
                              rotate_left
                              · (intro w hSw; first | (go_simp; done) | (go_simp; with_reducible rfl))
                              try simp only [Act.put, List.setIfInBounds_toArray, List.set_cons_zero, List.set_cons_succ]
                              refine AnyL.ready (rs := [19]) (by kernel_rfl) (by simp) (AllL.cons (o := { dst := none, op := Op.store 35 (Operand.tmp 161) (Operand.tmp 150), type := 0, pos := _, after := _, guard := none }) rfl (fun K hK => ?_) AllL.nil)
                              go_simp
                              refine hK.out _ _ (fun h => absurd (by simp) h) ?_
                              clear hK K
                              try simp only [Act.put, List.setIfInBounds_toArray, List.set_cons_zero, List.set_cons_succ]
                              refine AnyL.pure (i := 20) (oi := { dst := some 162, op := Op.indexAddr 42 (Operand.tmp 144) (Operand.const (Value.int IntKind.i64 1)), type := 0, pos := _, after := _, guard := none }) (v := ?_) rfl (by kernel_rfl) (by kernel_rfl) (by kernel_rfl) (fun _ _ _ h => h) (Or.inl ⟨by rfl, ?_⟩) ?_
                              rotate_left
                              · (intro w hSw; first | (go_simp; done) | (go_simp; with_reducible rfl))
                              try simp only [Act.put, List.setIfInBounds_toArray, List.set_cons_zero, List.set_cons_succ]
                              refine AnyL.ready (rs := [21]) (by kernel_rfl) (by simp) (AllL.cons (o := { dst := none, op := Op.store 35 (Operand.tmp 162) (Operand.tmp 155), type := 0, pos := _, after := _, guard := none }) rfl (fun K hK => ?_) AllL.nil)
                              go_simp
                              refine hK.out _ _ (fun h => absurd (by simp) h) ?_
                              clear hK K
                              try simp only [Act.put, List.setIfInBounds_toArray, List.set_cons_zero, List.set_cons_succ]
                              refine AnyL.pure (i := 22) (oi := { dst := some 163, op := Op.indexAddr 42 (Operand.tmp 145) (Operand.const (Value.int IntKind.i64 2)), type := 0, pos := _, after := _, guard := none }) (v := ?_) rfl (by kernel_rfl) (by kernel_rfl) (by kernel_rfl) (fun _ _ _ h => h) (Or.inl ⟨by rfl, ?_⟩) ?_
                              rotate_left
                              · (intro w hSw; first | (go_simp; done) | (go_simp; with_reducible rfl))
                              try simp only [Act.put, List.setIfInBounds_toArray, List.set_cons_zero, List.set_cons_succ]
                              refine AnyL.ready (rs := [23]) (by kernel_rfl) (by simp) (AllL.cons (o := { dst := none, op := Op.store 35 (Operand.tmp 163) (Operand.tmp 160), type := 0, pos := _, after := _, guard := none }) rfl (fun K hK => ?_) AllL.nil)
                              go_simp
                              refine hK.out _ _ (fun h => absurd (by simp) h) ?_
                              clear hK K
                              try simp only [Act.put, List.setIfInBounds_toArray, List.set_cons_zero, List.set_cons_succ]
                              refine AnyL.done (by kernel_rfl) ?_ _
                              refine NoPanic.normal ?_
                              have hst := HT52.out.stored (by simp) (.slice (some ⟨e50, 0, none⟩) (64 + k + 1) d50) (.slice (some ⟨e51, 0, none⟩) (64 + k + 1) d51) (.slice (some ⟨e52, 0, none⟩) (64 + k + 1) d52)
                              have HFM := Lib.hid hst.1
                              have HFH := Lib.hid hst.2.1
                              have HFW := Lib.hid hst.2.2
                              have HFA := Lib.hid (HGB'.out.holds (HT52.out.hol.trans HFH.out))
                              have HF_0 := Lib.hid (HG52_0.out.holds HFH.out)
                              have HF_1 := Lib.hid (HG52_1.out.holds HFH.out)
                              have HF_2 := Lib.hid (HE52.out.holds HFH.out)
                              clear hst m0 m1 m2 f0 f1 f2
                              go_wp2_with fail
                              go_roundw
                              case rel => exact ⟨k + 1, gb, cb, e50, d50, e51, d51, e52, d52, rfl, rfl, hlt, HFM, HFA, HF_0, HF_1, HF_2, HFW⟩
                              case measure => simp only [intOf]; omega
                  · skip
                    go_simp
                    have HT53 := Lib.hid (HT0.out.alloc (.cells #[.int .u8 122] 5))
                    have HF53 := Lib.hid (Whole.new v0 5 #[.int .u8 122])
                    have HL53 := Lib.hid HT0.out.size
                    generalize v0.alloc (.cells #[.int .u8 122] 5) = v53 at HT53 HF53 ⊢
                    generalize v0.heap.size = p53 at HF53 HL53 ⊢
                    refine hK.out _ _ (fun _ => HT53.out.held) ?_
                    clear hK K
                    try simp only [Act.put, List.setIfInBounds_toArray, List.set_cons_zero, List.set_cons_succ]
                    refine AnyL.ready (rs := [6, 11]) (by kernel_rfl) (by simp) ?_
                    refine AllL.cons (o := { dst := some 149, op := Op.buildSlice 35 1 #[(0, Operand.const (Value.int IntKind.u8 122))], type := 35, pos := _, after := _, guard := none }) rfl (fun K hK => ?_) (AllL.cons (o := { dst := some 154, op := Op.buildSlice 35 1 #[(0, Operand.const (Value.int IntKind.u8 122))], type := 35, pos := _, after := _, guard := none }) rfl (fun K hK => ?_) (AllL.nil))
                    · skip
                      go_simp
                      have HT54 := Lib.hid (HT53.out.alloc (.cells #[.int .u8 122] 5))
                      have HF54 := Lib.hid (Whole.new v53 5 #[.int .u8 122])
                      have HL54 := Lib.hid HT53.out.size
                      have HQ54_2 := Lib.hid (HF53.out.alloc (.cells #[.int .u8 122] 5))
                      generalize v53.alloc (.cells #[.int .u8 122] 5) = v54 at HT54 HF54 HQ54_2 ⊢
                      generalize v53.heap.size = p54 at HF54 HL54 ⊢
                      refine hK.out _ _ (fun _ => HT54.out.held) ?_
                      clear hK K
                      try simp only [Act.put, List.setIfInBounds_toArray, List.set_cons_zero, List.set_cons_succ]
                      refine AnyL.ready (rs := [7, 11]) (by kernel_rfl) (by simp) ?_
                      refine AllL.cons (o := { dst := some 150, op := Op.call { callee := Callee.builtin Builtin.append, args := #[Operand.tmp 148, Operand.tmp 149], argTypes := #[35, 35] }, type := 35, pos := _, after := _, guard := none }) rfl (fun K hK => ?_) (AllL.cons (o := { dst := some 154, op := Op.buildSlice 35 1 #[(0, Operand.const (Value.int IntKind.u8 122))], type := 35, pos := _, after := _, guard := none }) rfl (fun K hK => ?_) (AllL.nil))
                      · skip
                        refine step_app_gw (HX0.out.holds HT54.out.hol) p54 (.int .u8 122) rfl HF54.out HN1.out HT54.out.big rfl rfl ?_
                        intro e55 d55 v55 q1 q2 q3
                        have HT55 := Lib.hid (HT54.out.app HX0.out q2 q3)
                        have HE55 := Lib.hid q1
                        have HQ55_2 := Lib.hid (HT54.out.fresh HX0.out q2 HQ54_2.out HL53.out)
                        clear q1 q2 q3
                        refine hK.out _ _ (fun _ => HT55.out.held) ?_
                        clear hK K
                        try simp only [Act.put, List.setIfInBounds_toArray, List.set_cons_zero, List.set_cons_succ]
                        refine AnyL.ready (rs := [11]) (by kernel_rfl) (by simp) ?_
                        refine AllL.cons (o := { dst := some 154, op := Op.buildSlice 35 1 #[(0, Operand.const (Value.int IntKind.u8 122))], type := 35, pos := _, after := _, guard := none }) rfl (fun K hK => ?_) (AllL.nil)
                        · skip
                          go_simp
                          have HT56 := Lib.hid (HT55.out.alloc (.cells #[.int .u8 122] 5))
                          have HF56 := Lib.hid (Whole.new v55 5 #[.int .u8 122])
                          have HL56 := Lib.hid HT55.out.size
                          have HQ56_2 := Lib.hid (HQ55_2.out.alloc (.cells #[.int .u8 122] 5))
                          have HG56_0 := Lib.hid (HE55.out.holds (Holds.alloc v55 (.cells #[.int .u8 122] 5)))
                          generalize v55.alloc (.cells #[.int .u8 122] 5) = v56 at HT56 HF56 HQ56_2 HG56_0 ⊢
                          generalize v55.heap.size = p56 at HF56 HL56 ⊢
                          refine hK.out _ _ (fun _ => HT56.out.held) ?_
                          clear hK K
                          try simp only [Act.put, List.setIfInBounds_toArray, List.set_cons_zero, List.set_cons_succ]
                          refine AnyL.ready (rs := [12]) (by kernel_rfl) (by simp) ?_
                          refine AllL.cons (o := { dst := some 155, op := Op.call { callee := Callee.builtin Builtin.append, args := #[Operand.tmp 153, Operand.tmp 154], argTypes := #[35, 35] }, type := 35, pos := _, after := _, guard := none }) rfl (fun K hK => ?_) (AllL.nil)
                          · skip
                            refine step_app_gw (HX1.out.holds HT56.out.hol) p56 (.int .u8 122) rfl HF56.out HN1.out HT56.out.big rfl rfl ?_
                            intro e57 d57 v57 q1 q2 q3
                            have HT57 := Lib.hid (HT56.out.app HX1.out q2 q3)
                            have HE57 := Lib.hid q1
                            have HQ57_2 := Lib.hid (HT56.out.fresh HX1.out q2 HQ56_2.out HL53.out)
                            have HG57_0 := Lib.hid (HG56_0.out.holds q3)
                            clear q1 q2 q3
                            refine hK.out _ _ (fun _ => HT57.out.held) ?_
                            clear hK K
                            try simp only [Act.put, List.setIfInBounds_toArray, List.set_cons_zero, List.set_cons_succ]
                            refine AnyL.ready (rs := [17]) (by kernel_rfl) (by simp) ?_
                            refine AllL.cons (o := { dst := some 160, op := Op.call { callee := Callee.builtin Builtin.append, args := #[Operand.tmp 158, Operand.tmp 159], argTypes := #[35, 35] }, type := 35, pos := _, after := _, guard := none }) rfl (fun K hK => ?_) (AllL.nil)
                            · skip
                              refine step_app_gw (HX2.out.holds HT57.out.hol) p53 (.int .u8 122) rfl HQ57_2.out HN1.out HT57.out.big rfl rfl ?_
                              intro e58 d58 v58 q1 q2 q3
                              have HT58 := Lib.hid (HT57.out.app HX2.out q2 q3)
                              have HE58 := Lib.hid q1
                              have HG58_0 := Lib.hid (HG57_0.out.holds q3)
                              have HG58_1 := Lib.hid (HE57.out.holds q3)
                              clear q1 q2 q3
                              refine hK.out _ _ (fun _ => HT58.out.held) ?_
                              clear hK K
                              try simp only [Act.put, List.setIfInBounds_toArray, List.set_cons_zero, List.set_cons_succ]
                              obtain ⟨m0, m1, m2⟩ := HT58.out.held
                              have f0 := HT58.out.hp.frozen 0
                              have f1 := HT58.out.hp.frozen 1
                              have f2 := HT58.out.hp.frozen 2
                              refine AnyL.pure (i := 18) (oi := { dst := some 161, op := Op.indexAddr 42 (Operand.tmp 143) (Operand.const (Value.int IntKind.i64 0)), type := 0, pos := _, after := _, guard := none }) (v := ?_) rfl (by kernel_rfl) (by kernel_rfl) (by kernel_rfl) (fun _ _ _ h => h) (Or.inl ⟨by rfl, ?_⟩) ?_
                              rotate_left
                              · (intro w hSw; first | (go_simp; done) | (go_simp; with_reducible rfl))
                              try simp only [Act.put, List.setIfInBounds_toArray, List.set_cons_zero, List.set_cons_succ]
                              refine AnyL.ready (rs := [19]) (by kernel_rfl) (by simp) (AllL.cons (o := { dst := none, op := Op.store 35 (Operand.tmp 161) (Operand.tmp 150), type := 0, pos := _, after := _, guard := none }) rfl (fun K hK => ?_) AllL.nil)
                              go_simp
                              refine hK.out _ _ (fun h => absurd (by simp) h) ?_
                              clear hK K
                              try simp only [Act.put, List.setIfInBounds_toArray, List.set_cons_zero, List.set_cons_succ]
                              refine AnyL.pure (i := 20) (oi := { dst := some 162, op := Op.indexAddr 42 (Operand.tmp 144) (Operand.const (Value.int IntKind.i64 1)), type := 0, pos := _, after := _, guard := none }) (v := ?_) rfl (by kernel_rfl) (by kernel_rfl) (by kernel_rfl) (fun _ _ _ h => h) (Or.inl ⟨by rfl, ?_⟩) ?_
                              rotate_left
                              · (intro w hSw; first | (go_simp; done) | (go_simp; with_reducible rfl))
                              try simp only [Act.put, List.setIfInBounds_toArray, List.set_cons_zero, List.set_cons_succ]
                              refine AnyL.ready (rs := [21]) (by kernel_rfl) (by simp) (AllL.cons (o := { dst := none, op := Op.store 35 (Operand.tmp 162) (Operand.tmp 155), type := 0, pos := _, after := _, guard := none }) rfl (fun K hK => ?_) AllL.nil)
                              go_simp
                              refine hK.out _ _ (fun h => absurd (by simp) h) ?_
                              clear hK K
                              try simp only [Act.put, List.setIfInBounds_toArray, List.set_cons_zero, List.set_cons_succ]
                              refine AnyL.pure (i := 22) (oi := { dst := some 163, op := Op.indexAddr 42 (Operand.tmp 145) (Operand.const (Value.int IntKind.i64 2)), type := 0, pos := _, after := _, guard := none }) (v := ?_) rfl (by kernel_rfl) (by kernel_rfl) (by kernel_rfl) (fun _ _ _ h => h) (Or.inl ⟨by rfl, ?_⟩) ?_
                              rotate_left
                              · (intro w hSw; first | (go_simp; done) | (go_simp; with_reducible rfl))
                              try simp only [Act.put, List.setIfInBounds_toArray, List.set_cons_zero, List.set_cons_succ]
                              refine AnyL.ready (rs := [23]) (by kernel_rfl) (by simp) (AllL.cons (o := { dst := none, op := Op.store 35 (Operand.tmp 163) (Operand.tmp 160), type := 0, pos := _, after := _, guard := none }) rfl (fun K hK => ?_) AllL.nil)
                              go_simp
                              refine hK.out _ _ (fun h => absurd (by simp) h) ?_
                              clear hK K
                              try simp only [Act.put, List.setIfInBounds_toArray, List.set_cons_zero, List.set_cons_succ]
                              refine AnyL.done (by kernel_rfl) ?_ _
                              refine NoPanic.normal ?_
                              have hst := HT58.out.stored (by simp) (.slice (some ⟨e55, 0, none⟩) (64 + k + 1) d55) (.slice (some ⟨e57, 0, none⟩) (64 + k + 1) d57) (.slice (some ⟨e58, 0, none⟩) (64 + k + 1) d58)
                              have HFM := Lib.hid hst.1
                              have HFH := Lib.hid hst.2.1
                              have HFW := Lib.hid hst.2.2
                              have HFA := Lib.hid (HGB'.out.holds (HT58.out.hol.trans HFH.out))
                              have HF_0 := Lib.hid (HG58_0.out.holds HFH.out)
                              have HF_1 := Lib.hid (HG58_1.out.holds HFH.out)
                              have HF_2 := Lib.hid (HE58.out.holds HFH.out)
                              clear hst m0 m1 m2 f0 f1 f2
                              go_wp2_with fail
                              go_roundw
                              case rel => exact ⟨k + 1, gb, cb, e55, d55, e57, d57, e58, d58, rfl, rfl, hlt, HFM, HFA, HF_0, HF_1, HF_2, HFW⟩
                              case measure => simp only [intOf]; omega
                      · skip
                        go_simp
                        have HT59 := Lib.hid (HT54.out.alloc (.cells #[.int .u8 122] 5))
                        have HF59 := Lib.hid (Whole.new v54 5 #[.int .u8 122])
                        have HL59 := Lib.hid HT54.out.size
                        have HQ59_0 := Lib.hid (HF54.out.alloc (.cells #[.int .u8 122] 5))
                        have HQ59_2 := Lib.hid (HQ54_2.out.alloc (.cells #[.int .u8 122] 5))
                        generalize v54.alloc (.cells #[.int .u8 122] 5) = v59 at HT59 HF59 HQ59_0 HQ59_2 ⊢
                        generalize v54.heap.size = p59 at HF59 HL59 ⊢
                        refine hK.out _ _ (fun _ => HT59.out.held) ?_
                        clear hK K
                        try simp only [Act.put, List.setIfInBounds_toArray, List.set_cons_zero, List.set_cons_succ]
                        refine AnyL.ready (rs := [7]) (by kernel_rfl) (by simp) ?_
                        refine AllL.cons (o := { dst := some 150, op := Op.call { callee := Callee.builtin Builtin.append, args := #[Operand.tmp 148, Operand.tmp 149], argTypes := #[35, 35] }, type := 35, pos := _, after := _, guard := none }) rfl (fun K hK => ?_) (AllL.nil)
                        · skip
                          refine step_app_gw (HX0.out.holds HT59.out.hol) p54 (.int .u8 122) rfl HQ59_0.out HN1.out HT59.out.big rfl rfl ?_
                          intro e60 d60 v60 q1 q2 q3
                          have HT60 := Lib.hid (HT59.out.app HX0.out q2 q3)
                          have HE60 := Lib.hid q1
                          have HQ60_1 := Lib.hid (HT59.out.fresh HX0.out q2 HF59.out HL59.out)
                          have HQ60_2 := Lib.hid (HT59.out.fresh HX0.out q2 HQ59_2.out HL53.out)
                          clear q1 q2 q3
                          refine hK.out _ _ (fun _ => HT60.out.held) ?_
                          clear hK K
                          try simp only [Act.put, List.setIfInBounds_toArray, List.set_cons_zero, List.set_cons_succ]
                          refine AnyL.ready (rs := [12]) (by kernel_rfl) (by simp) ?_
                          refine AllL.cons (o := { dst := some 155, op := Op.call { callee := Callee.builtin Builtin.append, args := #[Operand.tmp 153, Operand.tmp 154], argTypes := #[35, 35] }, type := 35, pos := _, after := _, guard := none }) rfl (fun K hK => ?_) (AllL.nil)
                          · skip
                            refine step_app_gw (HX1.out.holds HT60.out.hol) p59 (.int .u8 122) rfl HQ60_1.out HN1.out HT60.out.big rfl rfl ?_
                            intro e61 d61 v61 q1 q2 q3
                            have HT61 := Lib.hid (HT60.out.app HX1.out q2 q3)
                            have HE61 := Lib.hid q1
                            have HQ61_2 := Lib.hid (HT60.out.fresh HX1.out q2 HQ60_2.out HL53.out)
                            have HG61_0 := Lib.hid (HE60.out.holds q3)
                            clear q1 q2 q3
                            refine hK.out _ _ (fun _ => HT61.out.held) ?_
                            clear hK K
                            try simp only [Act.put, List.setIfInBounds_toArray, List.set_cons_zero, List.set_cons_succ]
                            refine AnyL.ready (rs := [17]) (by kernel_rfl) (by simp) ?_
                            refine AllL.cons (o := { dst := some 160, op := Op.call { callee := Callee.builtin Builtin.append, args := #[Operand.tmp 158, Operand.tmp 159], argTypes := #[35, 35] }, type := 35, pos := _, after := _, guard := none }) rfl (fun K hK => ?_) (AllL.nil)
                            · skip
                              refine step_app_gw (HX2.out.holds HT61.out.hol) p53 (.int .u8 122) rfl HQ61_2.out HN1.out HT61.out.big rfl rfl ?_
                              intro e62 d62 v62 q1 q2 q3
                              have HT62 := Lib.hid (HT61.out.app HX2.out q2 q3)
                              have HE62 := Lib.hid q1
                              have HG62_0 := Lib.hid (HG61_0.out.holds q3)
                              have HG62_1 := Lib.hid (HE61.out.holds q3)
                              clear q1 q2 q3
                              refine hK.out _ _ (fun _ => HT62.out.held) ?_
                              clear hK K
                              try simp only [Act.put, List.setIfInBounds_toArray, List.set_cons_zero, List.set_cons_succ]
                              obtain ⟨m0, m1, m2⟩ := HT62.out.held
                              have f0 := HT62.out.hp.frozen 0
                              have f1 := HT62.out.hp.frozen 1
                              have f2 := HT62.out.hp.frozen 2
                              refine AnyL.pure (i := 18) (oi := { dst := some 161, op := Op.indexAddr 42 (Operand.tmp 143) (Operand.const (Value.int IntKind.i64 0)), type := 0, pos := _, after := _, guard := none }) (v := ?_) rfl (by kernel_rfl) (by kernel_rfl) (by kernel_rfl) (fun _ _ _ h => h) (Or.inl ⟨by rfl, ?_⟩) ?_
                              rotate_left
                              · (intro w hSw; first | (go_simp; done) | (go_simp; with_reducible rfl))
                              try simp only [Act.put, List.setIfInBounds_toArray, List.set_cons_zero, List.set_cons_succ]
                              refine AnyL.ready (rs := [19]) (by kernel_rfl) (by simp) (AllL.cons (o := { dst := none, op := Op.store 35 (Operand.tmp 161) (Operand.tmp 150), type := 0, pos := _, after := _, guard := none }) rfl (fun K hK => ?_) AllL.nil)
                              go_simp
                              refine hK.out _ _ (fun h => absurd (by simp) h) ?_
                              clear hK K
                              try simp only [Act.put, List.setIfInBounds_toArray, List.set_cons_zero, List.set_cons_succ]
                              refine AnyL.pure (i := 20) (oi := { dst := some 162, op := Op.indexAddr 42 (Operand.tmp 144) (Operand.const (Value.int IntKind.i64 1)), type := 0, pos := _, after := _, guard := none }) (v := ?_) rfl (by kernel_rfl) (by kernel_rfl) (by kernel_rfl) (fun _ _ _ h => h) (Or.inl ⟨by rfl, ?_⟩) ?_
                              rotate_left
                              · (intro w hSw; first | (go_simp; done) | (go_simp; with_reducible rfl))
                              try simp only [Act.put, List.setIfInBounds_toArray, List.set_cons_zero, List.set_cons_succ]
                              refine AnyL.ready (rs := [21]) (by kernel_rfl) (by simp) (AllL.cons (o := { dst := none, op := Op.store 35 (Operand.tmp 162) (Operand.tmp 155), type := 0, pos := _, after := _, guard := none }) rfl (fun K hK => ?_) AllL.nil)
                              go_simp
                              refine hK.out _ _ (fun h => absurd (by simp) h) ?_
                              clear hK K
                              try simp only [Act.put, List.setIfInBounds_toArray, List.set_cons_zero, List.set_cons_succ]
                              refine AnyL.pure (i := 22) (oi := { dst := some 163, op := Op.indexAddr 42 (Operand.tmp 145) (Operand.const (Value.int IntKind.i64 2)), type := 0, pos := _, after := _, guard := none }) (v := ?_) rfl (by kernel_rfl) (by kernel_rfl) (by kernel_rfl) (fun _ _ _ h => h) (Or.inl ⟨by rfl, ?_⟩) ?_
                              rotate_left
                              · (intro w hSw; first | (go_simp; done) | (go_simp; with_reducible rfl))
                              try simp only [Act.put, List.setIfInBounds_toArray, List.set_cons_zero, List.set_cons_succ]
                              refine AnyL.ready (rs := [23]) (by kernel_rfl) (by simp) (AllL.cons (o := { dst := none, op := Op.store 35 (Operand.tmp 163) (Operand.tmp 160), type := 0, pos := _, after := _, guard := none }) rfl (fun K hK => ?_) AllL.nil)
                              go_simp
                              refine hK.out _ _ (fun h => absurd (by simp) h) ?_
                              clear hK K
                              try simp only [Act.put, List.setIfInBounds_toArray, List.set_cons_zero, List.set_cons_succ]
                              refine AnyL.done (by kernel_rfl) ?_ _
                              refine NoPanic.normal ?_
                              have hst := HT62.out.stored (by simp) (.slice (some ⟨e60, 0, none⟩) (64 + k + 1) d60) (.slice (some ⟨e61, 0, none⟩) (64 + k + 1) d61) (.slice (some ⟨e62, 0, none⟩) (64 + k + 1) d62)
                              have HFM := Lib.hid hst.1
                              have HFH := Lib.hid hst.2.1
                              have HFW := Lib.hid hst.2.2
                              have HFA := Lib.hid (HGB'.out.holds (HT62.out.hol.trans HFH.out))
                              have HF_0 := Lib.hid (HG62_0.out.holds HFH.out)
                              have HF_1 := Lib.hid (HG62_1.out.holds HFH.out)
                              have HF_2 := Lib.hid (HE62.out.holds HFH.out)
                              clear hst m0 m1 m2 f0 f1 f2
                              go_wp2_with fail
                              go_roundw
                              case rel => exact ⟨k + 1, gb, cb, e60, d60, e61, d61, e62, d62, rfl, rfl, hlt, HFM, HFA, HF_0, HF_1, HF_2, HFW⟩
                              case measure => simp only [intOf]; omega
                    · skip
                      go_simp
                      have HT63 := Lib.hid (HT53.out.alloc (.cells #[.int .u8 122] 5))
                      have HF63 := Lib.hid (Whole.new v53 5 #[.int .u8 122])
                      have HL63 := Lib.hid HT53.out.size
                      have HQ63_2 := Lib.hid (HF53.out.alloc (.cells #[.int .u8 122] 5))
                      generalize v53.alloc (.cells #[.int .u8 122] 5) = v63 at HT63 HF63 HQ63_2 ⊢
                      generalize v53.heap.size = p63 at HF63 HL63 ⊢
                      refine hK.out _ _ (fun _ => HT63.out.held) ?_
                      clear hK K
                      try simp only [Act.put, List.setIfInBounds_toArray, List.set_cons_zero, List.set_cons_succ]
                      refine AnyL.ready (rs := [6]) (by kernel_rfl) (by simp) ?_
                      refine AllL.cons (o := { dst := some 149, op := Op.buildSlice 35 1 #[(0, Operand.const (Value.int IntKind.u8 122))], type := 35, pos := _, after := _, guard := none }) rfl (fun K hK => ?_) (AllL.nil)
                      · skip
                        go_simp
                        have HT64 := Lib.hid (HT63.out.alloc (.cells #[.int .u8 122] 5))
                        have HF64 := Lib.hid (Whole.new v63 5 #[.int .u8 122])
                        have HL64 := Lib.hid HT63.out.size
                        have HQ64_1 := Lib.hid (HF63.out.alloc (.cells #[.int .u8 122] 5))
                        have HQ64_2 := Lib.hid (HQ63_2.out.alloc (.cells #[.int .u8 122] 5))
                        generalize v63.alloc (.cells #[.int .u8 122] 5) = v64 at HT64 HF64 HQ64_1 HQ64_2 ⊢
                        generalize v63.heap.size = p64 at HF64 HL64 ⊢
                        refine hK.out _ _ (fun _ => HT64.out.held) ?_
                        clear hK K
                        try simp only [Act.put, List.setIfInBounds_toArray, List.set_cons_zero, List.set_cons_succ]
                        refine AnyL.ready (rs := [7]) (by kernel_rfl) (by simp) ?_
                        refine AllL.cons (o := { dst := some 150, op := Op.call { callee := Callee.builtin Builtin.append, args := #[Operand.tmp 148, Operand.tmp 149], argTypes := #[35, 35] }, type := 35, pos := _, after := _, guard := none }) rfl (fun K hK => ?_) (AllL.nil)
                        · skip
                          refine step_app_gw (HX0.out.holds HT64.out.hol) p64 (.int .u8 122) rfl HF64.out HN1.out HT64.out.big rfl rfl ?_
                          intro e65 d65 v65 q1 q2 q3
                          have HT65 := Lib.hid (HT64.out.app HX0.out q2 q3)
                          have HE65 := Lib.hid q1
                          have HQ65_1 := Lib.hid (HT64.out.fresh HX0.out q2 HQ64_1.out HL63.out)
                          have HQ65_2 := Lib.hid (HT64.out.fresh HX0.out q2 HQ64_2.out HL53.out)
                          clear q1 q2 q3
                          refine hK.out _ _ (fun _ => HT65.out.held) ?_
                          clear hK K
                          try simp only [Act.put, List.setIfInBounds_toArray, List.set_cons_zero, List.set_cons_succ]
                          refine AnyL.ready (rs := [12]) (by kernel_rfl) (by simp) ?_
                          refine AllL.cons (o := { dst := some 155, op := Op.call { callee := Callee.builtin Builtin.append, args := #[Operand.tmp 153, Operand.tmp 154], argTypes := #[35, 35] }, type := 35, pos := _, after := _, guard := none }) rfl (fun K hK => ?_) (AllL.nil)
                          · skip
                            refine step_app_gw (HX1.out.holds HT65.out.hol) p63 (.int .u8 122) rfl HQ65_1.out HN1.out HT65.out.big rfl rfl ?_
                            intro e66 d66 v66 q1 q2 q3
                            have HT66 := Lib.hid (HT65.out.app HX1.out q2 q3)
                            have HE66 := Lib.hid q1
                            have HQ66_2 := Lib.hid (HT65.out.fresh HX1.out q2 HQ65_2.out HL53.out)
                            have HG66_0 := Lib.hid (HE65.out.holds q3)
                            clear q1 q2 q3
                            refine hK.out _ _ (fun _ => HT66.out.held) ?_
                            clear hK K
                            try simp only [Act.put, List.setIfInBounds_toArray, List.set_cons_zero, List.set_cons_succ]
                            refine AnyL.ready (rs := [17]) (by kernel_rfl) (by simp) ?_
                            refine AllL.cons (o := { dst := some 160, op := Op.call { callee := Callee.builtin Builtin.append, args := #[Operand.tmp 158, Operand.tmp 159], argTypes := #[35, 35] }, type := 35, pos := _, after := _, guard := none }) rfl (fun K hK => ?_) (AllL.nil)
                            · skip
                              refine step_app_gw (HX2.out.holds HT66.out.hol) p53 (.int .u8 122) rfl HQ66_2.out HN1.out HT66.out.big rfl rfl ?_
                              intro e67 d67 v67 q1 q2 q3
                              have HT67 := Lib.hid (HT66.out.app HX2.out q2 q3)
                              have HE67 := Lib.hid q1
                              have HG67_0 := Lib.hid (HG66_0.out.holds q3)
                              have HG67_1 := Lib.hid (HE66.out.holds q3)
                              clear q1 q2 q3
                              refine hK.out _ _ (fun _ => HT67.out.held) ?_
                              clear hK K
                              try simp only [Act.put, List.setIfInBounds_toArray, List.set_cons_zero, List.set_cons_succ]
                              obtain ⟨m0, m1, m2⟩ := HT67.out.held
                              have f0 := HT67.out.hp.frozen 0
                              have f1 := HT67.out.hp.frozen 1
                              have f2 := HT67.out.hp.frozen 2
                              refine AnyL.pure (i := 18) (oi := { dst := some 161, op := Op.indexAddr 42 (Operand.tmp 143) (Operand.const (Value.int IntKind.i64 0)), type := 0, pos := _, after := _, guard := none }) (v := ?_) rfl (by kernel_rfl) (by kernel_rfl) (by kernel_rfl) (fun _ _ _ h => h) (Or.inl ⟨by rfl, ?_⟩) ?_
                              rotate_left
                              · (intro w hSw; first | (go_simp; done) | (go_simp; with_reducible rfl))
                              try simp only [Act.put, List.setIfInBounds_toArray, List.set_cons_zero, List.set_cons_succ]
                              refine AnyL.ready (rs := [19]) (by kernel_rfl) (by simp) (AllL.cons (o := { dst := none, op := Op.store 35 (Operand.tmp 161) (Operand.tmp 150), type := 0, pos := _, after := _, guard := none }) rfl (fun K hK => ?_) AllL.nil)
                              go_simp
                              refine hK.out _ _ (fun h => absurd (by simp) h) ?_
                              clear hK K
                              try simp only [Act.put, List.setIfInBounds_toArray, List.set_cons_zero, List.set_cons_succ]
                              refine AnyL.pure (i := 20) (oi := { dst := some 162, op := Op.indexAddr 42 (Operand.tmp 144) (Operand.const (Value.int IntKind.i64 1)), type := 0, pos := _, after := _, guard := none }) (v := ?_) rfl (by kernel_rfl) (by kernel_rfl) (by kernel_rfl) (fun _ _ _ h => h) (Or.inl ⟨by rfl, ?_⟩) ?_
                              rotate_left
                              · (intro w hSw; first | (go_simp; done) | (go_simp; with_reducible rfl))
                              try simp only [Act.put, List.setIfInBounds_toArray, List.set_cons_zero, List.set_cons_succ]
                              refine AnyL.ready (rs := [21]) (by kernel_rfl) (by simp) (AllL.cons (o := { dst := none, op := Op.store 35 (Operand.tmp 162) (Operand.tmp 155), type := 0, pos := _, after := _, guard := none }) rfl (fun K hK => ?_) AllL.nil)
                              go_simp
                              refine hK.out _ _ (fun h => absurd (by simp) h) ?_
                              clear hK K
                              try simp only [Act.put, List.setIfInBounds_toArray, List.set_cons_zero, List.set_cons_succ]
                              refine AnyL.pure (i := 22) (oi := { dst := some 163, op := Op.indexAddr 42 (Operand.tmp 145) (Operand.const (Value.int IntKind.i64 2)), type := 0, pos := _, after := _, guard := none }) (v := ?_) rfl (by kernel_rfl) (by kernel_rfl) (by kernel_rfl) (fun _ _ _ h => h) (Or.inl ⟨by rfl, ?_⟩) ?_
                              rotate_left
                              · (intro w hSw; first | (go_simp; done) | (go_simp; with_reducible rfl))
                              try simp only [Act.put, List.setIfInBounds_toArray, List.set_cons_zero, List.set_cons_succ]
                              refine AnyL.ready (rs := [23]) (by kernel_rfl) (by simp) (AllL.cons (o := { dst := none, op := Op.store 35 (Operand.tmp 163) (Operand.tmp 160), type := 0, pos := _, after := _, guard := none }) rfl (fun K hK => ?_) AllL.nil)
                              go_simp
                              refine hK.out _ _ (fun h => absurd (by simp) h) ?_
                              clear hK K
                              try simp only [Act.put, List.setIfInBounds_toArray, List.set_cons_zero, List.set_cons_succ]
                              refine AnyL.done (by kernel_rfl) ?_ _
                              refine NoPanic.normal ?_
                              have hst := HT67.out.stored (by simp) (.slice (some ⟨e65, 0, none⟩) (64 + k + 1) d65) (.slice (some ⟨e66, 0, none⟩) (64 + k + 1) d66) (.slice (some ⟨e67, 0, none⟩) (64 + k + 1) d67)
                              have HFM := Lib.hid hst.1
                              have HFH := Lib.hid hst.2.1
                              have HFW := Lib.hid hst.2.2
                              have HFA := Lib.hid (HGB'.out.holds (HT67.out.hol.trans HFH.out))
                              have HF_0 := Lib.hid (HG67_0.out.holds HFH.out)
                              have HF_1 := Lib.hid (HG67_1.out.holds HFH.out)
                              have HF_2 := Lib.hid (HE67.out.holds HFH.out)
                              clear hst m0 m1 m2 f0 f1 f2
                              go_wp2_with fail
                              go_roundw
                              case rel => exact ⟨k + 1, gb, cb, e65, d65, e66, d66, e67, d67, rfl, rfl, hlt, HFM, HFA, HF_0, HF_1, HF_2, HFW⟩
                              case measure => simp only [intOf]; omega
                  -- END
              · obtain rfl : k = 70 := by omega
                have HBB := Lib.hid (HM.out.whole HB.out (by have := HN.out; simp; omega))
                have HQB := Lib.hid (show Rw bq [F, F, F] wr from ⟨HM.out.whole HQ.out.row (by have := HN.out; simp; omega), fun j x hx => HM.out.whole (HQ.out.each j x hx) (by have := HN.out; simp; omega)⟩)
                have HYB := Lib.hid (HDYX.out.mod HM.out (by have := HN.out; simp; omega))
                have HXB := Lib.hid (HX.out.trans (HM.out.below HX.out.size (by have := HN.out; simp; omega)))
                clear HM HGA HG0 HG1 HG2 HP HB HQ HDYX HX HN
                go_wp2_with fail
                refine (HFL.out wr).mono ?_
                rintro e w12 ⟨rfl, HF12, HB12⟩
                have hcv := By.conv_of (c := 64) HF.out.symm (Whole.reads HF12.out)
                have HBC := Lib.hid ((Mod.of_below HB12.out []).whole HBB.out (by simp))
                have HQC := Lib.hid (HQB.out.below HB12.out)
                have HYC := Lib.hid (HYB.out.below HB12.out)
                have HXC := Lib.hid (below_on HXB.out HB12.out)
                clear HBB HQB HYB HXB HF12 HB12
                go_wp2_with fail
                clear hcv
                rw [show ((I : Int) + 1) % 3 = (((I + 1) % 3 : Nat) : Int) by omega]
                refine (Read_ok HYC.out ((I + 1) % 3) (List.replicate 64 0) HDY.out.2 HDY.out.1).mono ?_
                rintro e w13 ⟨rfl, hw13⟩
                have hal := (Below.refl w12.heap.size w12).alloc (Nat.le_refl _) (.cells (u8s (List.replicate 64 0)).toArray 56)
                rw [← hw13] at hal
                have HZD := Lib.hid (show Whole w13 w12.heap.size 56 (u8s (List.replicate 64 0)).toArray by rw [hw13]; exact Whole.new w12 _ _)
                have HBD := Lib.hid ((Mod.of_below hal []).whole HBC.out (by simp))
                have HQD := Lib.hid (HQC.out.below hal)
                have HXD := Lib.hid (below_on HXC.out hal)
                clear hw13 hal HBC HQC HYC HXC
                generalize w12.heap.size = bz at HZD ⊢
                go_wp2_with fail
                refine (Arm_nil 1 w13).mono ?_
                rintro e w14 ⟨rfl, rfl⟩
                go_wp2_with fail
                refine (On_nil w13).mono ?_
                rintro e w14 ⟨rfl, rfl⟩
                go_wp2_with fail
                refine (Read_nil 0 w13).mono ?_
                rintro e w14 ⟨rfl, rfl⟩
                obtain ⟨q0, q1, q2, HQN⟩ : ∃ q0 q1 q2 : Nat, Hid (q0 = bq + 1 ∧ q1 = bq + 2 ∧ q2 = bq + 3) := ⟨_, _, _, Lib.hid ⟨rfl, rfl, rfl⟩⟩
                have HFN := Lib.hid (show Fin3 w bb bz bq q0 q1 q2 F w13.drew by
                  obtain ⟨e0, e1, e2⟩ := HQN.out
                  rw [e0, e1, e2]
                  exact ⟨HBD.out, HZD.out, HQD.out.row, HQD.out.each 0 F rfl, HQD.out.each 1 F rfl, HQD.out.each 2 F rfl, HXD.out.drew⟩)
                have hmk : ∀ w' : World, (Instr.makeSlice 35 (.int .i64 64) (.int .i64 64)).run Try.prog w' = .ok (.slice (some ⟨w'.heap.size, 0, none⟩) 64 64) (w'.alloc (.cells (madeCells #[.int .u8 0] 64) 5)) := fun w' =>
                  run_make_row' (P := Try.prog) 35 5 (.int .u8 0) 1 Try.underlying35 By.info_u8 rfl .i64 .i64 64 (by omega) (by omega) w'
                clear HBD HZD HQD HXD HQN
                go_upto_region 37 with (fail)
                as_aux_lemma =>
                  -- BEGIN
                  refine wp_region_noPanic ?_
                  refine wp_region_held_drew (S := fun y : World => y.cell? ⟨bq, 0, none⟩ = some (.slice (some ⟨q0, 0, none⟩) 64 64) ∧ y.cell? ⟨bq, 1, none⟩ = some (.slice (some ⟨q1, 0, none⟩) 64 64) ∧ y.cell? ⟨bq, 2, none⟩ = some (.slice (some ⟨q2, 0, none⟩) 64 64) ∧ (convert 35 9 (.slice (some ⟨bb, 0, none⟩) 64 64)).run Try.prog y = .ok (.string ⟨F.toArray⟩) y ∧ (convert 35 9 (.slice (some ⟨q0, 0, none⟩) 64 64)).run Try.prog y = .ok (.string ⟨F.toArray⟩) y ∧ (convert 35 9 (.slice (some ⟨q1, 0, none⟩) 64 64)).run Try.prog y = .ok (.string ⟨F.toArray⟩) y ∧ (convert 35 9 (.slice (some ⟨q2, 0, none⟩) 64 64)).run Try.prog y = .ok (.string ⟨F.toArray⟩) y ∧ (convert 35 9 (.slice (some ⟨bz, 0, none⟩) 64 64)).run Try.prog y = .ok (.string ⟨(List.replicate 64 (0 : UInt8)).toArray⟩) y) (by kernel_rfl) (HFN.out.held HF.out) (fun hHeld => ?_)
                  refine wpAnyH_take (i := 0) (oi := { dst := some 184, op := Op.move (Operand.tmp 14), type := 35, pos := _, after := #[], guard := none }) (v := ?_) rfl (by kernel_rfl) (by kernel_rfl) (by kernel_rfl) (fun _ _ _ h => h) (Or.inl ⟨by rfl, ?_⟩) hHeld ?_
                  rotate_left
                  · (intro w hSw; (try dsimp only at hSw); obtain ⟨hS0, hS1, hS2, hS3, hS4, hS5, hS6, hS7⟩ := hSw; first | (go_simp; done) | (go_simp; with_reducible rfl))
                  try simp only [Act.put, List.setIfInBounds_toArray, List.set_cons_zero, List.set_cons_succ]
                  refine wpAnyH_take (i := 1) (oi := { dst := some 185, op := Op.convert 35 9 (Operand.tmp 184), type := 9, pos := _, after := #[{ on := 0, ground := Ground.data }], guard := none }) (v := ?_) rfl (by kernel_rfl) (by kernel_rfl) (by kernel_rfl) (fun _ _ _ h => h) (Or.inl ⟨by rfl, ?_⟩) hHeld ?_
                  rotate_left
                  · (intro w hSw; (try dsimp only at hSw); obtain ⟨hS0, hS1, hS2, hS3, hS4, hS5, hS6, hS7⟩ := hSw; first | (go_simp; done) | (go_simp; with_reducible rfl))
                  try simp only [Act.put, List.setIfInBounds_toArray, List.set_cons_zero, List.set_cons_succ]
                  refine wpAnyH_take (i := 2) (oi := { dst := some 186, op := Op.move (Operand.tmp 20), type := 9, pos := _, after := #[], guard := none }) (v := ?_) rfl (by kernel_rfl) (by kernel_rfl) (by kernel_rfl) (fun _ _ _ h => h) (Or.inl ⟨by rfl, ?_⟩) hHeld ?_
                  rotate_left
                  · (intro w hSw; (try dsimp only at hSw); obtain ⟨hS0, hS1, hS2, hS3, hS4, hS5, hS6, hS7⟩ := hSw; first | (go_simp; done) | (go_simp; with_reducible rfl))
                  try simp only [Act.put, List.setIfInBounds_toArray, List.set_cons_zero, List.set_cons_succ]
                  refine wpAnyH_take (i := 3) (oi := { dst := some 187, op := Op.binOp BinOp.eql 9 (Operand.tmp 185) (Operand.tmp 186) 9, type := 4, pos := _, after := #[{ on := 1, ground := Ground.data }, { on := 2, ground := Ground.data }], guard := none }) (v := ?_) rfl (by kernel_rfl) (by kernel_rfl) (by kernel_rfl) (fun _ _ _ h => h) (Or.inl ⟨by rfl, ?_⟩) hHeld ?_
                  rotate_left
                  · (intro w hSw; (try dsimp only at hSw); obtain ⟨hS0, hS1, hS2, hS3, hS4, hS5, hS6, hS7⟩ := hSw; first | (go_simp; done) | (go_simp; with_reducible rfl))
                  try simp only [Act.put, List.setIfInBounds_toArray, List.set_cons_zero, List.set_cons_succ]
                  refine wpAnyH_take (i := 4) (oi := { dst := some 188, op := Op.move (Operand.tmp 187), type := 4, pos := _, after := #[{ on := 3, ground := Ground.data }], guard := none }) (v := ?_) rfl (by kernel_rfl) (by kernel_rfl) (by kernel_rfl) (fun _ _ _ h => h) (Or.inl ⟨by rfl, ?_⟩) hHeld ?_
                  rotate_left
                  · (intro w hSw; (try dsimp only at hSw); obtain ⟨hS0, hS1, hS2, hS3, hS4, hS5, hS6, hS7⟩ := hSw; first | (go_simp; done) | (go_simp; with_reducible rfl))
                  try simp only [Act.put, List.setIfInBounds_toArray, List.set_cons_zero, List.set_cons_succ]
                  refine wpAnyH_take (i := 5) (oi := { dst := some 189, op := Op.move (Operand.tmp 17), type := 42, pos := _, after := #[{ on := 4, ground := Ground.guard }], guard := some (4, true) }) (v := ?_) rfl (by kernel_rfl) (by kernel_rfl) (by kernel_rfl) (fun _ _ _ h => h) (Or.inl ⟨by rfl, ?_⟩) hHeld ?_
                  rotate_left
                  · (intro w hSw; (try dsimp only at hSw); obtain ⟨hS0, hS1, hS2, hS3, hS4, hS5, hS6, hS7⟩ := hSw; first | (go_simp; done) | (go_simp; with_reducible rfl))
                  try simp only [Act.put, List.setIfInBounds_toArray, List.set_cons_zero, List.set_cons_succ]
                  refine wpAnyH_take (i := 6) (oi := { dst := some 190, op := Op.indexAddr 42 (Operand.tmp 189) (Operand.const (Value.int IntKind.i64 0)), type := 0, pos := _, after := #[{ on := 5, ground := Ground.data }, { on := 4, ground := Ground.guard }], guard := some (4, true) }) (v := ?_) rfl (by kernel_rfl) (by kernel_rfl) (by kernel_rfl) (fun _ _ _ h => h) (Or.inl ⟨by rfl, ?_⟩) hHeld ?_
                  rotate_left
                  · (intro w hSw; (try dsimp only at hSw); obtain ⟨hS0, hS1, hS2, hS3, hS4, hS5, hS6, hS7⟩ := hSw; first | (go_simp; done) | (go_simp; with_reducible rfl))
                  try simp only [Act.put, List.setIfInBounds_toArray, List.set_cons_zero, List.set_cons_succ]
                  refine wpAnyH_take (i := 7) (oi := { dst := some 191, op := Op.load 35 (Operand.tmp 190), type := 35, pos := _, after := #[{ on := 6, ground := Ground.data }, { on := 4, ground := Ground.guard }], guard := some (4, true) }) (v := ?_) rfl (by kernel_rfl) (by kernel_rfl) (by kernel_rfl) (fun _ _ _ h => h) (Or.inl ⟨by rfl, ?_⟩) hHeld ?_
                  rotate_left
                  · (intro w hSw; (try dsimp only at hSw); obtain ⟨hS0, hS1, hS2, hS3, hS4, hS5, hS6, hS7⟩ := hSw; first | (go_simp; done) | (go_simp; with_reducible rfl))
                  try simp only [Act.put, List.setIfInBounds_toArray, List.set_cons_zero, List.set_cons_succ]
                  refine wpAnyH_take (i := 8) (oi := { dst := some 192, op := Op.convert 35 9 (Operand.tmp 191), type := 9, pos := _, after := #[{ on := 7, ground := Ground.data }, { on := 4, ground := Ground.guard }], guard := some (4, true) }) (v := ?_) rfl (by kernel_rfl) (by kernel_rfl) (by kernel_rfl) (fun _ _ _ h => h) (Or.inl ⟨by rfl, ?_⟩) hHeld ?_
                  rotate_left
                  · (intro w hSw; (try dsimp only at hSw); obtain ⟨hS0, hS1, hS2, hS3, hS4, hS5, hS6, hS7⟩ := hSw; first | (go_simp; done) | (go_simp; with_reducible rfl))
                  try simp only [Act.put, List.setIfInBounds_toArray, List.set_cons_zero, List.set_cons_succ]
                  refine wpAnyH_take (i := 9) (oi := { dst := some 193, op := Op.move (Operand.tmp 20), type := 9, pos := _, after := #[{ on := 4, ground := Ground.guard }], guard := some (4, true) }) (v := ?_) rfl (by kernel_rfl) (by kernel_rfl) (by kernel_rfl) (fun _ _ _ h => h) (Or.inl ⟨by rfl, ?_⟩) hHeld ?_
                  rotate_left
                  · (intro w hSw; (try dsimp only at hSw); obtain ⟨hS0, hS1, hS2, hS3, hS4, hS5, hS6, hS7⟩ := hSw; first | (go_simp; done) | (go_simp; with_reducible rfl))
                  try simp only [Act.put, List.setIfInBounds_toArray, List.set_cons_zero, List.set_cons_succ]
                  refine wpAnyH_take (i := 10) (oi := { dst := some 194, op := Op.binOp BinOp.eql 9 (Operand.tmp 192) (Operand.tmp 193) 9, type := 4, pos := _, after := #[{ on := 8, ground := Ground.data }, { on := 9, ground := Ground.data }, { on := 4, ground := Ground.guard }], guard := some (4, true) }) (v := ?_) rfl (by kernel_rfl) (by kernel_rfl) (by kernel_rfl) (fun _ _ _ h => h) (Or.inl ⟨by rfl, ?_⟩) hHeld ?_
                  rotate_left
                  · (intro w hSw; (try dsimp only at hSw); obtain ⟨hS0, hS1, hS2, hS3, hS4, hS5, hS6, hS7⟩ := hSw; first | (go_simp; done) | (go_simp; with_reducible rfl))
                  try simp only [Act.put, List.setIfInBounds_toArray, List.set_cons_zero, List.set_cons_succ]
                  refine wpAnyH_take (i := 11) (oi := { dst := some 195, op := Op.pick (Operand.tmp 188) (Operand.tmp 194) (Operand.const (Value.bool false)), type := 4, pos := _, after := #[{ on := 4, ground := Ground.data }, { on := 10, ground := Ground.data }], guard := none }) (v := ?_) rfl (by kernel_rfl) (by kernel_rfl) (by kernel_rfl) (fun _ _ _ h => h) (Or.inl ⟨by rfl, ?_⟩) hHeld ?_
                  rotate_left
                  · (intro w hSw; (try dsimp only at hSw); obtain ⟨hS0, hS1, hS2, hS3, hS4, hS5, hS6, hS7⟩ := hSw; first | (go_simp; done) | (go_simp; with_reducible rfl))
                  try simp only [Act.put, List.setIfInBounds_toArray, List.set_cons_zero, List.set_cons_succ]
                  refine wpAnyH_take (i := 12) (oi := { dst := some 196, op := Op.move (Operand.tmp 195), type := 4, pos := _, after := #[{ on := 11, ground := Ground.data }, { on := 4, ground := Ground.chain }], guard := none }) (v := ?_) rfl (by kernel_rfl) (by kernel_rfl) (by kernel_rfl) (fun _ _ _ h => h) (Or.inl ⟨by rfl, ?_⟩) hHeld ?_
                  rotate_left
                  · (intro w hSw; (try dsimp only at hSw); obtain ⟨hS0, hS1, hS2, hS3, hS4, hS5, hS6, hS7⟩ := hSw; first | (go_simp; done) | (go_simp; with_reducible rfl))
                  try simp only [Act.put, List.setIfInBounds_toArray, List.set_cons_zero, List.set_cons_succ]
                  refine wpAnyH_take (i := 13) (oi := { dst := some 197, op := Op.move (Operand.tmp 17), type := 42, pos := _, after := #[{ on := 12, ground := Ground.guard }], guard := some (12, true) }) (v := ?_) rfl (by kernel_rfl) (by kernel_rfl) (by kernel_rfl) (fun _ _ _ h => h) (Or.inl ⟨by rfl, ?_⟩) hHeld ?_
                  rotate_left
                  · (intro w hSw; (try dsimp only at hSw); obtain ⟨hS0, hS1, hS2, hS3, hS4, hS5, hS6, hS7⟩ := hSw; first | (go_simp; done) | (go_simp; with_reducible rfl))
                  try simp only [Act.put, List.setIfInBounds_toArray, List.set_cons_zero, List.set_cons_succ]
                  refine wpAnyH_take (i := 14) (oi := { dst := some 198, op := Op.indexAddr 42 (Operand.tmp 197) (Operand.const (Value.int IntKind.i64 1)), type := 0, pos := _, after := #[{ on := 13, ground := Ground.data }, { on := 12, ground := Ground.guard }], guard := some (12, true) }) (v := ?_) rfl (by kernel_rfl) (by kernel_rfl) (by kernel_rfl) (fun _ _ _ h => h) (Or.inl ⟨by rfl, ?_⟩) hHeld ?_
                  rotate_left
                  · (intro w hSw; (try dsimp only at hSw); obtain ⟨hS0, hS1, hS2, hS3, hS4, hS5, hS6, hS7⟩ := hSw; first | (go_simp; done) | (go_simp; with_reducible rfl))
                  try simp only [Act.put, List.setIfInBounds_toArray, List.set_cons_zero, List.set_cons_succ]
                  refine wpAnyH_take (i := 15) (oi := { dst := some 199, op := Op.load 35 (Operand.tmp 198), type := 35, pos := _, after := #[{ on := 14, ground := Ground.data }, { on := 12, ground := Ground.guard }], guard := some (12, true) }) (v := ?_) rfl (by kernel_rfl) (by kernel_rfl) (by kernel_rfl) (fun _ _ _ h => h) (Or.inl ⟨by rfl, ?_⟩) hHeld ?_
                  rotate_left
                  · (intro w hSw; (try dsimp only at hSw); obtain ⟨hS0, hS1, hS2, hS3, hS4, hS5, hS6, hS7⟩ := hSw; first | (go_simp; done) | (go_simp; with_reducible rfl))
                  try simp only [Act.put, List.setIfInBounds_toArray, List.set_cons_zero, List.set_cons_succ]
                  refine wpAnyH_take (i := 16) (oi := { dst := some 200, op := Op.convert 35 9 (Operand.tmp 199), type := 9, pos := _, after := #[{ on := 15, ground := Ground.data }, { on := 12, ground := Ground.guard }], guard := some (12, true) }) (v := ?_) rfl (by kernel_rfl) (by kernel_rfl) (by kernel_rfl) (fun _ _ _ h => h) (Or.inl ⟨by rfl, ?_⟩) hHeld ?_
                  rotate_left
                  · (intro w hSw; (try dsimp only at hSw); obtain ⟨hS0, hS1, hS2, hS3, hS4, hS5, hS6, hS7⟩ := hSw; first | (go_simp; done) | (go_simp; with_reducible rfl))
                  try simp only [Act.put, List.setIfInBounds_toArray, List.set_cons_zero, List.set_cons_succ]
                  refine wpAnyH_take (i := 17) (oi := { dst := some 201, op := Op.move (Operand.tmp 20), type := 9, pos := _, after := #[{ on := 12, ground := Ground.guard }], guard := some (12, true) }) (v := ?_) rfl (by kernel_rfl) (by kernel_rfl) (by kernel_rfl) (fun _ _ _ h => h) (Or.inl ⟨by rfl, ?_⟩) hHeld ?_
                  rotate_left
                  · (intro w hSw; (try dsimp only at hSw); obtain ⟨hS0, hS1, hS2, hS3, hS4, hS5, hS6, hS7⟩ := hSw; first | (go_simp; done) | (go_simp; with_reducible rfl))
                  try simp only [Act.put, List.setIfInBounds_toArray, List.set_cons_zero, List.set_cons_succ]
                  refine wpAnyH_take (i := 18) (oi := { dst := some 202, op := Op.binOp BinOp.eql 9 (Operand.tmp 200) (Operand.tmp 201) 9, type := 4, pos := _, after := #[{ on := 16, ground := Ground.data }, { on := 17, ground := Ground.data }, { on := 12, ground := Ground.guard }], guard := some (12, true) }) (v := ?_) rfl (by kernel_rfl) (by kernel_rfl) (by kernel_rfl) (fun _ _ _ h => h) (Or.inl ⟨by rfl, ?_⟩) hHeld ?_
                  rotate_left
                  · (intro w hSw; (try dsimp only at hSw); obtain ⟨hS0, hS1, hS2, hS3, hS4, hS5, hS6, hS7⟩ := hSw; first | (go_simp; done) | (go_simp; with_reducible rfl))
                  try simp only [Act.put, List.setIfInBounds_toArray, List.set_cons_zero, List.set_cons_succ]
                  refine wpAnyH_take (i := 19) (oi := { dst := some 203, op := Op.pick (Operand.tmp 196) (Operand.tmp 202) (Operand.const (Value.bool false)), type := 4, pos := _, after := #[{ on := 12, ground := Ground.data }, { on := 18, ground := Ground.data }], guard := none }) (v := ?_) rfl (by kernel_rfl) (by kernel_rfl) (by kernel_rfl) (fun _ _ _ h => h) (Or.inl ⟨by rfl, ?_⟩) hHeld ?_
                  rotate_left
                  · (intro w hSw; (try dsimp only at hSw); obtain ⟨hS0, hS1, hS2, hS3, hS4, hS5, hS6, hS7⟩ := hSw; first | (go_simp; done) | (go_simp; with_reducible rfl))
                  try simp only [Act.put, List.setIfInBounds_toArray, List.set_cons_zero, List.set_cons_succ]
                  refine wpAnyH_take (i := 20) (oi := { dst := some 204, op := Op.move (Operand.tmp 203), type := 4, pos := _, after := #[{ on := 19, ground := Ground.data }, { on := 12, ground := Ground.chain }], guard := none }) (v := ?_) rfl (by kernel_rfl) (by kernel_rfl) (by kernel_rfl) (fun _ _ _ h => h) (Or.inl ⟨by rfl, ?_⟩) hHeld ?_
                  rotate_left
                  · (intro w hSw; (try dsimp only at hSw); obtain ⟨hS0, hS1, hS2, hS3, hS4, hS5, hS6, hS7⟩ := hSw; first | (go_simp; done) | (go_simp; with_reducible rfl))
                  try simp only [Act.put, List.setIfInBounds_toArray, List.set_cons_zero, List.set_cons_succ]
                  refine wpAnyH_take (i := 21) (oi := { dst := some 205, op := Op.move (Operand.tmp 17), type := 42, pos := _, after := #[{ on := 20, ground := Ground.guard }], guard := some (20, true) }) (v := ?_) rfl (by kernel_rfl) (by kernel_rfl) (by kernel_rfl) (fun _ _ _ h => h) (Or.inl ⟨by rfl, ?_⟩) hHeld ?_
                  rotate_left
                  · (intro w hSw; (try dsimp only at hSw); obtain ⟨hS0, hS1, hS2, hS3, hS4, hS5, hS6, hS7⟩ := hSw; first | (go_simp; done) | (go_simp; with_reducible rfl))
                  try simp only [Act.put, List.setIfInBounds_toArray, List.set_cons_zero, List.set_cons_succ]
                  refine wpAnyH_take (i := 22) (oi := { dst := some 206, op := Op.indexAddr 42 (Operand.tmp 205) (Operand.const (Value.int IntKind.i64 2)), type := 0, pos := _, after := #[{ on := 21, ground := Ground.data }, { on := 20, ground := Ground.guard }], guard := some (20, true) }) (v := ?_) rfl (by kernel_rfl) (by kernel_rfl) (by kernel_rfl) (fun _ _ _ h => h) (Or.inl ⟨by rfl, ?_⟩) hHeld ?_
                  rotate_left
                  · (intro w hSw; (try dsimp only at hSw); obtain ⟨hS0, hS1, hS2, hS3, hS4, hS5, hS6, hS7⟩ := hSw; first | (go_simp; done) | (go_simp; with_reducible rfl))
                  try simp only [Act.put, List.setIfInBounds_toArray, List.set_cons_zero, List.set_cons_succ]
                  refine wpAnyH_take (i := 23) (oi := { dst := some 207, op := Op.load 35 (Operand.tmp 206), type := 35, pos := _, after := #[{ on := 22, ground := Ground.data }, { on := 20, ground := Ground.guard }], guard := some (20, true) }) (v := ?_) rfl (by kernel_rfl) (by kernel_rfl) (by kernel_rfl) (fun _ _ _ h => h) (Or.inl ⟨by rfl, ?_⟩) hHeld ?_
                  rotate_left
                  · (intro w hSw; (try dsimp only at hSw); obtain ⟨hS0, hS1, hS2, hS3, hS4, hS5, hS6, hS7⟩ := hSw; first | (go_simp; done) | (go_simp; with_reducible rfl))
                  try simp only [Act.put, List.setIfInBounds_toArray, List.set_cons_zero, List.set_cons_succ]
                  refine wpAnyH_take (i := 24) (oi := { dst := some 208, op := Op.convert 35 9 (Operand.tmp 207), type := 9, pos := _, after := #[{ on := 23, ground := Ground.data }, { on := 20, ground := Ground.guard }], guard := some (20, true) }) (v := ?_) rfl (by kernel_rfl) (by kernel_rfl) (by kernel_rfl) (fun _ _ _ h => h) (Or.inl ⟨by rfl, ?_⟩) hHeld ?_
                  rotate_left
                  · (intro w hSw; (try dsimp only at hSw); obtain ⟨hS0, hS1, hS2, hS3, hS4, hS5, hS6, hS7⟩ := hSw; first | (go_simp; done) | (go_simp; with_reducible rfl))
                  try simp only [Act.put, List.setIfInBounds_toArray, List.set_cons_zero, List.set_cons_succ]
                  refine wpAnyH_take (i := 25) (oi := { dst := some 209, op := Op.move (Operand.tmp 20), type := 9, pos := _, after := #[{ on := 20, ground := Ground.guard }], guard := some (20, true) }) (v := ?_) rfl (by kernel_rfl) (by kernel_rfl) (by kernel_rfl) (fun _ _ _ h => h) (Or.inl ⟨by rfl, ?_⟩) hHeld ?_
                  rotate_left
                  · (intro w hSw; (try dsimp only at hSw); obtain ⟨hS0, hS1, hS2, hS3, hS4, hS5, hS6, hS7⟩ := hSw; first | (go_simp; done) | (go_simp; with_reducible rfl))
                  try simp only [Act.put, List.setIfInBounds_toArray, List.set_cons_zero, List.set_cons_succ]
                  refine wpAnyH_take (i := 26) (oi := { dst := some 210, op := Op.binOp BinOp.eql 9 (Operand.tmp 208) (Operand.tmp 209) 9, type := 4, pos := _, after := #[{ on := 24, ground := Ground.data }, { on := 25, ground := Ground.data }, { on := 20, ground := Ground.guard }], guard := some (20, true) }) (v := ?_) rfl (by kernel_rfl) (by kernel_rfl) (by kernel_rfl) (fun _ _ _ h => h) (Or.inl ⟨by rfl, ?_⟩) hHeld ?_
                  rotate_left
                  · (intro w hSw; (try dsimp only at hSw); obtain ⟨hS0, hS1, hS2, hS3, hS4, hS5, hS6, hS7⟩ := hSw; first | (go_simp; done) | (go_simp; with_reducible rfl))
                  try simp only [Act.put, List.setIfInBounds_toArray, List.set_cons_zero, List.set_cons_succ]
                  refine wpAnyH_take (i := 27) (oi := { dst := some 211, op := Op.pick (Operand.tmp 204) (Operand.tmp 210) (Operand.const (Value.bool false)), type := 4, pos := _, after := #[{ on := 20, ground := Ground.data }, { on := 26, ground := Ground.data }], guard := none }) (v := ?_) rfl (by kernel_rfl) (by kernel_rfl) (by kernel_rfl) (fun _ _ _ h => h) (Or.inl ⟨by rfl, ?_⟩) hHeld ?_
                  rotate_left
                  · (intro w hSw; (try dsimp only at hSw); obtain ⟨hS0, hS1, hS2, hS3, hS4, hS5, hS6, hS7⟩ := hSw; first | (go_simp; done) | (go_simp; with_reducible rfl))
                  try simp only [Act.put, List.setIfInBounds_toArray, List.set_cons_zero, List.set_cons_succ]
                  refine wpAnyH_take (i := 28) (oi := { dst := some 212, op := Op.move (Operand.tmp 211), type := 4, pos := _, after := #[{ on := 27, ground := Ground.data }, { on := 20, ground := Ground.chain }], guard := none }) (v := ?_) rfl (by kernel_rfl) (by kernel_rfl) (by kernel_rfl) (fun _ _ _ h => h) (Or.inl ⟨by rfl, ?_⟩) hHeld ?_
                  rotate_left
                  · (intro w hSw; (try dsimp only at hSw); obtain ⟨hS0, hS1, hS2, hS3, hS4, hS5, hS6, hS7⟩ := hSw; first | (go_simp; done) | (go_simp; with_reducible rfl))
                  try simp only [Act.put, List.setIfInBounds_toArray, List.set_cons_zero, List.set_cons_succ]
                  refine wpAnyH_take (i := 29) (oi := { dst := some 213, op := Op.move (Operand.tmp 21), type := 35, pos := _, after := #[{ on := 28, ground := Ground.guard }], guard := some (28, true) }) (v := ?_) rfl (by kernel_rfl) (by kernel_rfl) (by kernel_rfl) (fun _ _ _ h => h) (Or.inl ⟨by rfl, ?_⟩) hHeld ?_
                  rotate_left
                  · (intro w hSw; (try dsimp only at hSw); obtain ⟨hS0, hS1, hS2, hS3, hS4, hS5, hS6, hS7⟩ := hSw; first | (go_simp; done) | (go_simp; with_reducible rfl))
                  try simp only [Act.put, List.setIfInBounds_toArray, List.set_cons_zero, List.set_cons_succ]
                  refine wpAnyH_take (i := 30) (oi := { dst := some 214, op := Op.convert 35 9 (Operand.tmp 213), type := 9, pos := _, after := #[{ on := 29, ground := Ground.data }, { on := 28, ground := Ground.guard }], guard := some (28, true) }) (v := ?_) rfl (by kernel_rfl) (by kernel_rfl) (by kernel_rfl) (fun _ _ _ h => h) (Or.inl ⟨by rfl, ?_⟩) hHeld ?_
                  rotate_left
                  · (intro w hSw; (try dsimp only at hSw); obtain ⟨hS0, hS1, hS2, hS3, hS4, hS5, hS6, hS7⟩ := hSw; first | (go_simp; done) | (go_simp; with_reducible rfl))
                  try simp only [Act.put, List.setIfInBounds_toArray, List.set_cons_zero, List.set_cons_succ]
                  refine wpAnyH_ready (rs := [31]) (by kernel_rfl) (by simp) (AllReadyH.cons (o := { dst := some 215, op := Op.makeSlice 35 (Operand.const (Value.int IntKind.i64 64)) (Operand.const (Value.int IntKind.i64 64)), type := 35, pos := _, after := #[{ on := 28, ground := Ground.guard }], guard := some (28, true) }) rfl (fun K hK => ?_) AllReadyH.nil)
                  go_simp
                  have HFM := Lib.hid (show Fin3 w bb bz bq q0 q1 q2 F (w13.alloc (.cells (madeCells #[.int .u8 0] 64) 5)).drew from HFN.out.on (World.below_new w13.drew (.cells (madeCells #[.int .u8 0] 64) 5)))
                  have HWM := Lib.hid (show Whole (w13.alloc (.cells (madeCells #[.int .u8 0] 64) 5)).drew w13.heap.size 5 (madeCells #[.int .u8 0] 64) from Whole.new w13.drew 5 (madeCells #[.int .u8 0] 64))
                  have HWZ := Lib.hid (show Whole (w13.alloc (.cells (madeCells #[.int .u8 0] 64) 5)).drew w13.heap.size 5 (u8s (List.replicate 64 0)).toArray by have h := HWM.out; rw [zero64] at h ⊢; exact h)
                  have hK31 := HFM.out.held HF.out
                  have hcvm : (convert 35 9 (.slice (some ⟨w13.heap.size, 0, none⟩) 64 64)).run Try.prog (w13.alloc (.cells (madeCells #[.int .u8 0] 64) 5)).drew = .ok (.string ⟨(List.replicate 64 (0 : UInt8)).toArray⟩) (w13.alloc (.cells (madeCells #[.int .u8 0] 64) 5)).drew := By.conv_of (by simp) (Whole.reads HWZ.out)
                  generalize (w13.alloc (.cells (madeCells #[.int .u8 0] 64) 5)).drew = wm at HFM hK31 hcvm ⊢
                  refine hK.out _ _ (hK31) (fun hHeld => ?_)
                  clear hK K
                  try simp only [Act.put, List.setIfInBounds_toArray, List.set_cons_zero, List.set_cons_succ]
                  refine wpAnyH_ready (rs := [32]) (by kernel_rfl) (by simp) (AllReadyH.cons (o := { dst := some 216, op := Op.convert 35 9 (Operand.tmp 215), type := 9, pos := _, after := #[{ on := 31, ground := Ground.data }, { on := 28, ground := Ground.guard }], guard := some (28, true) }) rfl (fun K hK => ?_) AllReadyH.nil)
                  go_simp
                  refine hK.out _ _ (hHeld) (fun hHeld => ?_)
                  clear hK K
                  try simp only [Act.put, List.setIfInBounds_toArray, List.set_cons_zero, List.set_cons_succ]
                  clear hcvm
                  refine wpAnyH_take (i := 33) (oi := { dst := some 217, op := Op.binOp BinOp.eql 9 (Operand.tmp 214) (Operand.tmp 216) 9, type := 4, pos := _, after := #[{ on := 30, ground := Ground.data }, { on := 32, ground := Ground.data }, { on := 28, ground := Ground.guard }], guard := some (28, true) }) (v := ?_) rfl (by kernel_rfl) (by kernel_rfl) (by kernel_rfl) (fun _ _ _ h => h) (Or.inl ⟨by rfl, ?_⟩) hHeld ?_
                  rotate_left
                  · (intro w hSw; (try dsimp only at hSw); obtain ⟨hS0, hS1, hS2, hS3, hS4, hS5, hS6, hS7⟩ := hSw; first | (go_simp; done) | (go_simp; with_reducible rfl))
                  try simp only [Act.put, List.setIfInBounds_toArray, List.set_cons_zero, List.set_cons_succ]
                  refine wpAnyH_take (i := 34) (oi := { dst := some 218, op := Op.pick (Operand.tmp 212) (Operand.tmp 217) (Operand.const (Value.bool false)), type := 4, pos := _, after := #[{ on := 28, ground := Ground.data }, { on := 33, ground := Ground.data }], guard := none }) (v := ?_) rfl (by kernel_rfl) (by kernel_rfl) (by kernel_rfl) (fun _ _ _ h => h) (Or.inl ⟨by rfl, ?_⟩) hHeld ?_
                  rotate_left
                  · (intro w hSw; (try dsimp only at hSw); obtain ⟨hS0, hS1, hS2, hS3, hS4, hS5, hS6, hS7⟩ := hSw; first | (go_simp; done) | (go_simp; with_reducible rfl))
                  try simp only [Act.put, List.setIfInBounds_toArray, List.set_cons_zero, List.set_cons_succ]
                  refine wpAnyH_take (i := 35) (oi := { dst := some 219, op := Op.move (Operand.tmp 218), type := 4, pos := _, after := #[{ on := 34, ground := Ground.data }, { on := 28, ground := Ground.chain }], guard := none }) (v := ?_) rfl (by kernel_rfl) (by kernel_rfl) (by kernel_rfl) (fun _ _ _ h => h) (Or.inl ⟨by rfl, ?_⟩) hHeld ?_
                  rotate_left
                  · (intro w hSw; (try dsimp only at hSw); obtain ⟨hS0, hS1, hS2, hS3, hS4, hS5, hS6, hS7⟩ := hSw; first | (go_simp; done) | (go_simp; with_reducible rfl))
                  try simp only [Act.put, List.setIfInBounds_toArray, List.set_cons_zero, List.set_cons_succ]
                  refine wpAnyH_take (i := 36) (oi := { dst := some 220, op := Op.move (Operand.tmp 23), type := 22, pos := _, after := #[{ on := 35, ground := Ground.guard }], guard := some (35, true) }) (v := ?_) rfl (by kernel_rfl) (by kernel_rfl) (by kernel_rfl) (fun _ _ _ h => h) (Or.inl ⟨by rfl, ?_⟩) hHeld ?_
                  rotate_left
                  · (intro w hSw; (try dsimp only at hSw); obtain ⟨hS0, hS1, hS2, hS3, hS4, hS5, hS6, hS7⟩ := hSw; first | (go_simp; done) | (go_simp; with_reducible rfl))
                  try simp only [Act.put, List.setIfInBounds_toArray, List.set_cons_zero, List.set_cons_succ]
                  refine wpAnyH_take (i := 37) (oi := { dst := some 221, op := Op.move (Operand.tmp 6), type := 35, pos := _, after := #[{ on := 35, ground := Ground.guard }], guard := some (35, true) }) (v := ?_) rfl (by kernel_rfl) (by kernel_rfl) (by kernel_rfl) (fun _ _ _ h => h) (Or.inl ⟨by rfl, ?_⟩) hHeld ?_
                  rotate_left
                  · (intro w hSw; (try dsimp only at hSw); obtain ⟨hS0, hS1, hS2, hS3, hS4, hS5, hS6, hS7⟩ := hSw; first | (go_simp; done) | (go_simp; with_reducible rfl))
                  try simp only [Act.put, List.setIfInBounds_toArray, List.set_cons_zero, List.set_cons_succ]
                  refine wpAnyH_ready (rs := [38]) (by kernel_rfl) (by simp) (AllReadyH.cons (o := { dst := some 222, op := Op.call { callee := Callee.value (Operand.func 21), args := #[Operand.tmp 220, Operand.const (Value.int IntKind.i64 0), Operand.tmp 221], argTypes := #[22, 3, 35] }, type := 23, pos := _, after := #[{ on := 36, ground := Ground.data }, { on := 37, ground := Ground.data }, { on := 35, ground := Ground.chain }, { on := 35, ground := Ground.guard }], guard := some (35, true) }) rfl (fun K hK => ?_) AllReadyH.nil)
                  go_simp
                  refine (Write_nil 0 _ 64 _ wm).mono ?_
                  rintro e y ⟨rfl, rfl⟩
                  go_simp
                  refine hK.out _ _ (hHeld) (fun hHeld => ?_)
                  clear hK K
                  try simp only [Act.put, List.setIfInBounds_toArray, List.set_cons_zero, List.set_cons_succ]
                  refine wpAnyH_take (i := 39) (oi := { dst := some 223, op := Op.binOp BinOp.eql 23 (Operand.tmp 222) (Operand.const (Value.int IntKind.i64 1)) 23, type := 4, pos := _, after := #[{ on := 38, ground := Ground.data }, { on := 35, ground := Ground.guard }], guard := some (35, true) }) (v := ?_) rfl (by kernel_rfl) (by kernel_rfl) (by kernel_rfl) (fun _ _ _ h => h) (Or.inl ⟨by rfl, ?_⟩) hHeld ?_
                  rotate_left
                  · (intro w hSw; (try dsimp only at hSw); obtain ⟨hS0, hS1, hS2, hS3, hS4, hS5, hS6, hS7⟩ := hSw; first | (go_simp; done) | (go_simp; with_reducible rfl))
                  try simp only [Act.put, List.setIfInBounds_toArray, List.set_cons_zero, List.set_cons_succ]
                  refine wpAnyH_take (i := 40) (oi := { dst := some 224, op := Op.pick (Operand.tmp 219) (Operand.tmp 223) (Operand.const (Value.bool false)), type := 4, pos := _, after := #[{ on := 35, ground := Ground.data }, { on := 39, ground := Ground.data }], guard := none }) (v := ?_) rfl (by kernel_rfl) (by kernel_rfl) (by kernel_rfl) (fun _ _ _ h => h) (Or.inl ⟨by rfl, ?_⟩) hHeld ?_
                  rotate_left
                  · (intro w hSw; (try dsimp only at hSw); obtain ⟨hS0, hS1, hS2, hS3, hS4, hS5, hS6, hS7⟩ := hSw; first | (go_simp; done) | (go_simp; with_reducible rfl))
                  try simp only [Act.put, List.setIfInBounds_toArray, List.set_cons_zero, List.set_cons_succ]
                  refine wpAnyH_take (i := 41) (oi := { dst := some 225, op := Op.move (Operand.tmp 224), type := 4, pos := _, after := #[{ on := 40, ground := Ground.data }, { on := 38, ground := Ground.chain }], guard := none }) (v := ?_) rfl (by kernel_rfl) (by kernel_rfl) (by kernel_rfl) (fun _ _ _ h => h) (Or.inl ⟨by rfl, ?_⟩) hHeld ?_
                  rotate_left
                  · (intro w hSw; (try dsimp only at hSw); obtain ⟨hS0, hS1, hS2, hS3, hS4, hS5, hS6, hS7⟩ := hSw; first | (go_simp; done) | (go_simp; with_reducible rfl))
                  try simp only [Act.put, List.setIfInBounds_toArray, List.set_cons_zero, List.set_cons_succ]
                  refine wpAnyH_take (i := 42) (oi := { dst := some 226, op := Op.move (Operand.tmp 24), type := 35, pos := _, after := #[{ on := 41, ground := Ground.guard }], guard := some (41, true) }) (v := ?_) rfl (by kernel_rfl) (by kernel_rfl) (by kernel_rfl) (fun _ _ _ h => h) (Or.inl ⟨by rfl, ?_⟩) hHeld ?_
                  rotate_left
                  · (intro w hSw; (try dsimp only at hSw); obtain ⟨hS0, hS1, hS2, hS3, hS4, hS5, hS6, hS7⟩ := hSw; first | (go_simp; done) | (go_simp; with_reducible rfl))
                  try simp only [Act.put, List.setIfInBounds_toArray, List.set_cons_zero, List.set_cons_succ]
                  refine wpAnyH_take (i := 43) (oi := { dst := some 227, op := Op.call { callee := Callee.builtin Builtin.len, args := #[Operand.tmp 226], argTypes := #[35] }, type := 3, pos := _, after := #[{ on := 42, ground := Ground.data }, { on := 41, ground := Ground.guard }], guard := some (41, true) }) (v := ?_) rfl (by kernel_rfl) (by kernel_rfl) (by kernel_rfl) (fun _ _ _ h => h) (Or.inl ⟨by rfl, ?_⟩) hHeld ?_
                  rotate_left
                  · (intro w hSw; (try dsimp only at hSw); obtain ⟨hS0, hS1, hS2, hS3, hS4, hS5, hS6, hS7⟩ := hSw; first | (go_simp; done) | (go_simp; with_reducible rfl))
                  try simp only [Act.put, List.setIfInBounds_toArray, List.set_cons_zero, List.set_cons_succ]
                  refine wpAnyH_take (i := 44) (oi := { dst := some 228, op := Op.binOp BinOp.eql 3 (Operand.tmp 227) (Operand.const (Value.int IntKind.i64 0)) 3, type := 4, pos := _, after := #[{ on := 43, ground := Ground.data }, { on := 41, ground := Ground.guard }], guard := some (41, true) }) (v := ?_) rfl (by kernel_rfl) (by kernel_rfl) (by kernel_rfl) (fun _ _ _ h => h) (Or.inl ⟨by rfl, ?_⟩) hHeld ?_
                  rotate_left
                  · (intro w hSw; (try dsimp only at hSw); obtain ⟨hS0, hS1, hS2, hS3, hS4, hS5, hS6, hS7⟩ := hSw; first | (go_simp; done) | (go_simp; with_reducible rfl))
                  try simp only [Act.put, List.setIfInBounds_toArray, List.set_cons_zero, List.set_cons_succ]
                  refine wpAnyH_take (i := 45) (oi := { dst := some 229, op := Op.pick (Operand.tmp 225) (Operand.tmp 228) (Operand.const (Value.bool false)), type := 4, pos := _, after := #[{ on := 41, ground := Ground.data }, { on := 44, ground := Ground.data }], guard := none }) (v := ?_) rfl (by kernel_rfl) (by kernel_rfl) (by kernel_rfl) (fun _ _ _ h => h) (Or.inl ⟨by rfl, ?_⟩) hHeld ?_
                  rotate_left
                  · (intro w hSw; (try dsimp only at hSw); obtain ⟨hS0, hS1, hS2, hS3, hS4, hS5, hS6, hS7⟩ := hSw; first | (go_simp; done) | (go_simp; with_reducible rfl))
                  try simp only [Act.put, List.setIfInBounds_toArray, List.set_cons_zero, List.set_cons_succ]
                  refine wpAnyH_take (i := 46) (oi := { dst := some 230, op := Op.move (Operand.tmp 229), type := 4, pos := _, after := #[{ on := 45, ground := Ground.data }, { on := 41, ground := Ground.chain }], guard := none }) (v := ?_) rfl (by kernel_rfl) (by kernel_rfl) (by kernel_rfl) (fun _ _ _ h => h) (Or.inl ⟨by rfl, ?_⟩) hHeld ?_
                  rotate_left
                  · (intro w hSw; (try dsimp only at hSw); obtain ⟨hS0, hS1, hS2, hS3, hS4, hS5, hS6, hS7⟩ := hSw; first | (go_simp; done) | (go_simp; with_reducible rfl))
                  try simp only [Act.put, List.setIfInBounds_toArray, List.set_cons_zero, List.set_cons_succ]
                  refine wpAnyH_take (i := 47) (oi := { dst := some 231, op := Op.move (Operand.tmp 25), type := 23, pos := _, after := #[{ on := 46, ground := Ground.guard }], guard := some (46, true) }) (v := ?_) rfl (by kernel_rfl) (by kernel_rfl) (by kernel_rfl) (fun _ _ _ h => h) (Or.inl ⟨by rfl, ?_⟩) hHeld ?_
                  rotate_left
                  · (intro w hSw; (try dsimp only at hSw); obtain ⟨hS0, hS1, hS2, hS3, hS4, hS5, hS6, hS7⟩ := hSw; first | (go_simp; done) | (go_simp; with_reducible rfl))
                  try simp only [Act.put, List.setIfInBounds_toArray, List.set_cons_zero, List.set_cons_succ]
                  refine wpAnyH_take (i := 48) (oi := { dst := some 232, op := Op.binOp BinOp.eql 23 (Operand.tmp 231) (Operand.const (Value.int IntKind.i64 1)) 23, type := 4, pos := _, after := #[{ on := 47, ground := Ground.data }, { on := 46, ground := Ground.guard }], guard := some (46, true) }) (v := ?_) rfl (by kernel_rfl) (by kernel_rfl) (by kernel_rfl) (fun _ _ _ h => h) (Or.inl ⟨by rfl, ?_⟩) hHeld ?_
                  rotate_left
                  · (intro w hSw; (try dsimp only at hSw); obtain ⟨hS0, hS1, hS2, hS3, hS4, hS5, hS6, hS7⟩ := hSw; first | (go_simp; done) | (go_simp; with_reducible rfl))
                  try simp only [Act.put, List.setIfInBounds_toArray, List.set_cons_zero, List.set_cons_succ]
                  refine wpAnyH_take (i := 49) (oi := { dst := some 233, op := Op.pick (Operand.tmp 230) (Operand.tmp 232) (Operand.const (Value.bool false)), type := 4, pos := _, after := #[{ on := 46, ground := Ground.data }, { on := 48, ground := Ground.data }], guard := none }) (v := ?_) rfl (by kernel_rfl) (by kernel_rfl) (by kernel_rfl) (fun _ _ _ h => h) (Or.inl ⟨by rfl, ?_⟩) hHeld ?_
                  rotate_left
                  · (intro w hSw; (try dsimp only at hSw); obtain ⟨hS0, hS1, hS2, hS3, hS4, hS5, hS6, hS7⟩ := hSw; first | (go_simp; done) | (go_simp; with_reducible rfl))
                  try simp only [Act.put, List.setIfInBounds_toArray, List.set_cons_zero, List.set_cons_succ]
                  refine wpAnyH_take (i := 50) (oi := { dst := some 234, op := Op.move (Operand.tmp 233), type := 4, pos := _, after := #[{ on := 49, ground := Ground.data }, { on := 46, ground := Ground.chain }], guard := none }) (v := ?_) rfl (by kernel_rfl) (by kernel_rfl) (by kernel_rfl) (fun _ _ _ h => h) (Or.inl ⟨by rfl, ?_⟩) hHeld ?_
                  rotate_left
                  · (intro w hSw; (try dsimp only at hSw); obtain ⟨hS0, hS1, hS2, hS3, hS4, hS5, hS6, hS7⟩ := hSw; first | (go_simp; done) | (go_simp; with_reducible rfl))
                  try simp only [Act.put, List.setIfInBounds_toArray, List.set_cons_zero, List.set_cons_succ]
                  refine wpAnyH_take (i := 51) (oi := { dst := some 235, op := Op.move (Operand.tmp 23), type := 22, pos := _, after := #[{ on := 50, ground := Ground.guard }], guard := some (50, true) }) (v := ?_) rfl (by kernel_rfl) (by kernel_rfl) (by kernel_rfl) (fun _ _ _ h => h) (Or.inl ⟨by rfl, ?_⟩) hHeld ?_
                  rotate_left
                  · (intro w hSw; (try dsimp only at hSw); obtain ⟨hS0, hS1, hS2, hS3, hS4, hS5, hS6, hS7⟩ := hSw; first | (go_simp; done) | (go_simp; with_reducible rfl))
                  try simp only [Act.put, List.setIfInBounds_toArray, List.set_cons_zero, List.set_cons_succ]
                  refine wpAnyH_ready (rs := [52]) (by kernel_rfl) (by simp) (AllReadyH.cons (o := { dst := some 236, op := Op.call { callee := Callee.value (Operand.func 25), args := #[Operand.tmp 235], argTypes := #[22] }, type := 4, pos := _, after := #[{ on := 51, ground := Ground.data }, { on := 50, ground := Ground.chain }, { on := 50, ground := Ground.guard }], guard := some (50, true) }) rfl (fun K hK => ?_) AllReadyH.nil)
                  go_simp
                  refine (Off_nil wm).mono ?_
                  rintro e y ⟨rfl, rfl⟩
                  go_simp
                  refine hK.out _ _ (hHeld) (fun hHeld => ?_)
                  clear hK K
                  try simp only [Act.put, List.setIfInBounds_toArray, List.set_cons_zero, List.set_cons_succ]
                  refine wpAnyH_take (i := 53) (oi := { dst := some 237, op := Op.unOp UnOp.not 4 (Operand.tmp 236), type := 4, pos := _, after := #[{ on := 52, ground := Ground.data }, { on := 50, ground := Ground.guard }], guard := some (50, true) }) (v := ?_) rfl (by kernel_rfl) (by kernel_rfl) (by kernel_rfl) (fun _ _ _ h => h) (Or.inl ⟨by rfl, ?_⟩) hHeld ?_
                  rotate_left
                  · (intro w hSw; (try dsimp only at hSw); obtain ⟨hS0, hS1, hS2, hS3, hS4, hS5, hS6, hS7⟩ := hSw; first | (go_simp; done) | (go_simp; with_reducible rfl))
                  try simp only [Act.put, List.setIfInBounds_toArray, List.set_cons_zero, List.set_cons_succ]
                  refine wpAnyH_take (i := 54) (oi := { dst := some 238, op := Op.pick (Operand.tmp 234) (Operand.tmp 237) (Operand.const (Value.bool false)), type := 4, pos := _, after := #[{ on := 50, ground := Ground.data }, { on := 53, ground := Ground.data }], guard := none }) (v := ?_) rfl (by kernel_rfl) (by kernel_rfl) (by kernel_rfl) (fun _ _ _ h => h) (Or.inl ⟨by rfl, ?_⟩) hHeld ?_
                  rotate_left
                  · (intro w hSw; (try dsimp only at hSw); obtain ⟨hS0, hS1, hS2, hS3, hS4, hS5, hS6, hS7⟩ := hSw; first | (go_simp; done) | (go_simp; with_reducible rfl))
                  try simp only [Act.put, List.setIfInBounds_toArray, List.set_cons_zero, List.set_cons_succ]
                  refine wpAnyH_take (i := 55) (oi := { dst := some 239, op := Op.move (Operand.tmp 238), type := 4, pos := _, after := #[{ on := 54, ground := Ground.data }, { on := 52, ground := Ground.chain }], guard := none }) (v := ?_) rfl (by kernel_rfl) (by kernel_rfl) (by kernel_rfl) (fun _ _ _ h => h) (Or.inl ⟨by rfl, ?_⟩) hHeld ?_
                  rotate_left
                  · (intro w hSw; (try dsimp only at hSw); obtain ⟨hS0, hS1, hS2, hS3, hS4, hS5, hS6, hS7⟩ := hSw; first | (go_simp; done) | (go_simp; with_reducible rfl))
                  try simp only [Act.put, List.setIfInBounds_toArray, List.set_cons_zero, List.set_cons_succ]
                  refine wpAnyH_take (i := 56) (oi := { dst := some 240, op := Op.move (Operand.tmp 23), type := 22, pos := _, after := #[{ on := 55, ground := Ground.guard }], guard := some (55, true) }) (v := ?_) rfl (by kernel_rfl) (by kernel_rfl) (by kernel_rfl) (fun _ _ _ h => h) (Or.inl ⟨by rfl, ?_⟩) hHeld ?_
                  rotate_left
                  · (intro w hSw; (try dsimp only at hSw); obtain ⟨hS0, hS1, hS2, hS3, hS4, hS5, hS6, hS7⟩ := hSw; first | (go_simp; done) | (go_simp; with_reducible rfl))
                  try simp only [Act.put, List.setIfInBounds_toArray, List.set_cons_zero, List.set_cons_succ]
                  refine wpAnyH_ready (rs := [57]) (by kernel_rfl) (by simp) (AllReadyH.cons (o := { dst := some 241, op := Op.call { callee := Callee.value (Operand.func 11), args := #[Operand.tmp 240], argTypes := #[22] }, type := 3, pos := _, after := #[{ on := 56, ground := Ground.data }, { on := 55, ground := Ground.chain }, { on := 55, ground := Ground.guard }], guard := some (55, true) }) rfl (fun K hK => ?_) AllReadyH.nil)
                  go_simp
                  refine (Len_nil wm).mono ?_
                  rintro e y ⟨rfl, rfl⟩
                  go_simp
                  refine hK.out _ _ (hHeld) (fun hHeld => ?_)
                  clear hK K
                  try simp only [Act.put, List.setIfInBounds_toArray, List.set_cons_zero, List.set_cons_succ]
                  refine wpAnyH_take (i := 58) (oi := { dst := some 242, op := Op.binOp BinOp.eql 3 (Operand.tmp 241) (Operand.const (Value.int IntKind.i64 0)) 3, type := 4, pos := _, after := #[{ on := 57, ground := Ground.data }, { on := 55, ground := Ground.guard }], guard := some (55, true) }) (v := ?_) rfl (by kernel_rfl) (by kernel_rfl) (by kernel_rfl) (fun _ _ _ h => h) (Or.inl ⟨by rfl, ?_⟩) hHeld ?_
                  rotate_left
                  · (intro w hSw; (try dsimp only at hSw); obtain ⟨hS0, hS1, hS2, hS3, hS4, hS5, hS6, hS7⟩ := hSw; first | (go_simp; done) | (go_simp; with_reducible rfl))
                  try simp only [Act.put, List.setIfInBounds_toArray, List.set_cons_zero, List.set_cons_succ]
                  refine wpAnyH_take (i := 59) (oi := { dst := some 243, op := Op.pick (Operand.tmp 239) (Operand.tmp 242) (Operand.const (Value.bool false)), type := 4, pos := _, after := #[{ on := 55, ground := Ground.data }, { on := 58, ground := Ground.data }], guard := none }) (v := ?_) rfl (by kernel_rfl) (by kernel_rfl) (by kernel_rfl) (fun _ _ _ h => h) (Or.inl ⟨by rfl, ?_⟩) hHeld ?_
                  rotate_left
                  · (intro w hSw; (try dsimp only at hSw); obtain ⟨hS0, hS1, hS2, hS3, hS4, hS5, hS6, hS7⟩ := hSw; first | (go_simp; done) | (go_simp; with_reducible rfl))
                  try simp only [Act.put, List.setIfInBounds_toArray, List.set_cons_zero, List.set_cons_succ]
                  refine wpAnyH_take (i := 60) (oi := { dst := some 244, op := Op.move (Operand.tmp 243), type := 4, pos := _, after := #[{ on := 59, ground := Ground.data }, { on := 57, ground := Ground.chain }], guard := none }) (v := ?_) rfl (by kernel_rfl) (by kernel_rfl) (by kernel_rfl) (fun _ _ _ h => h) (Or.inl ⟨by rfl, ?_⟩) hHeld ?_
                  rotate_left
                  · (intro w hSw; (try dsimp only at hSw); obtain ⟨hS0, hS1, hS2, hS3, hS4, hS5, hS6, hS7⟩ := hSw; first | (go_simp; done) | (go_simp; with_reducible rfl))
                  try simp only [Act.put, List.setIfInBounds_toArray, List.set_cons_zero, List.set_cons_succ]
                  refine wpAnyH_take (i := 61) (oi := { dst := some 245, op := Op.move (Operand.tmp 23), type := 22, pos := _, after := #[{ on := 60, ground := Ground.guard }], guard := some (60, true) }) (v := ?_) rfl (by kernel_rfl) (by kernel_rfl) (by kernel_rfl) (fun _ _ _ h => h) (Or.inl ⟨by rfl, ?_⟩) hHeld ?_
                  rotate_left
                  · (intro w hSw; (try dsimp only at hSw); obtain ⟨hS0, hS1, hS2, hS3, hS4, hS5, hS6, hS7⟩ := hSw; first | (go_simp; done) | (go_simp; with_reducible rfl))
                  try simp only [Act.put, List.setIfInBounds_toArray, List.set_cons_zero, List.set_cons_succ]
                  refine wpAnyH_ready (rs := [62]) (by kernel_rfl) (by simp) (AllReadyH.cons (o := { dst := some 246, op := Op.call { callee := Callee.value (Operand.func 24), args := #[Operand.tmp 245], argTypes := #[22] }, type := 3, pos := _, after := #[{ on := 61, ground := Ground.data }, { on := 60, ground := Ground.chain }, { on := 60, ground := Ground.guard }], guard := some (60, true) }) rfl (fun K hK => ?_) AllReadyH.nil)
                  go_simp
                  refine (Writes_nil wm).mono ?_
                  rintro e y ⟨rfl, rfl⟩
                  go_simp
                  refine hK.out _ _ (hHeld) (fun hHeld => ?_)
                  clear hK K
                  try simp only [Act.put, List.setIfInBounds_toArray, List.set_cons_zero, List.set_cons_succ]
                  refine wpAnyH_take (i := 63) (oi := { dst := some 247, op := Op.binOp BinOp.eql 3 (Operand.tmp 246) (Operand.const (Value.int IntKind.i64 0)) 3, type := 4, pos := _, after := #[{ on := 62, ground := Ground.data }, { on := 60, ground := Ground.guard }], guard := some (60, true) }) (v := ?_) rfl (by kernel_rfl) (by kernel_rfl) (by kernel_rfl) (fun _ _ _ h => h) (Or.inl ⟨by rfl, ?_⟩) hHeld ?_
                  rotate_left
                  · (intro w hSw; (try dsimp only at hSw); obtain ⟨hS0, hS1, hS2, hS3, hS4, hS5, hS6, hS7⟩ := hSw; first | (go_simp; done) | (go_simp; with_reducible rfl))
                  try simp only [Act.put, List.setIfInBounds_toArray, List.set_cons_zero, List.set_cons_succ]
                  refine wpAnyH_take (i := 64) (oi := { dst := some 248, op := Op.pick (Operand.tmp 244) (Operand.tmp 247) (Operand.const (Value.bool false)), type := 4, pos := _, after := #[{ on := 60, ground := Ground.data }, { on := 63, ground := Ground.data }], guard := none }) (v := ?_) rfl (by kernel_rfl) (by kernel_rfl) (by kernel_rfl) (fun _ _ _ h => h) (Or.inl ⟨by rfl, ?_⟩) hHeld ?_
                  rotate_left
                  · (intro w hSw; (try dsimp only at hSw); obtain ⟨hS0, hS1, hS2, hS3, hS4, hS5, hS6, hS7⟩ := hSw; first | (go_simp; done) | (go_simp; with_reducible rfl))
                  try simp only [Act.put, List.setIfInBounds_toArray, List.set_cons_zero, List.set_cons_succ]
                  refine wpAnyH_take (i := 65) (oi := { dst := some 249, op := Op.move (Operand.tmp 248), type := 4, pos := _, after := #[{ on := 64, ground := Ground.data }, { on := 62, ground := Ground.chain }], guard := none }) (v := ?_) rfl (by kernel_rfl) (by kernel_rfl) (by kernel_rfl) (fun _ _ _ h => h) (Or.inl ⟨by rfl, ?_⟩) hHeld ?_
                  rotate_left
                  · (intro w hSw; (try dsimp only at hSw); obtain ⟨hS0, hS1, hS2, hS3, hS4, hS5, hS6, hS7⟩ := hSw; first | (go_simp; done) | (go_simp; with_reducible rfl))
                  try simp only [Act.put, List.setIfInBounds_toArray, List.set_cons_zero, List.set_cons_succ]
                  refine wpAnyH_take (i := 66) (oi := { dst := some 250, op := Op.move (Operand.tmp 23), type := 22, pos := _, after := #[{ on := 65, ground := Ground.guard }], guard := some (65, true) }) (v := ?_) rfl (by kernel_rfl) (by kernel_rfl) (by kernel_rfl) (fun _ _ _ h => h) (Or.inl ⟨by rfl, ?_⟩) hHeld ?_
                  rotate_left
                  · (intro w hSw; (try dsimp only at hSw); obtain ⟨hS0, hS1, hS2, hS3, hS4, hS5, hS6, hS7⟩ := hSw; first | (go_simp; done) | (go_simp; with_reducible rfl))
                  try simp only [Act.put, List.setIfInBounds_toArray, List.set_cons_zero, List.set_cons_succ]
                  refine wpAnyH_ready (rs := [67]) (by kernel_rfl) (by simp) (AllReadyH.cons (o := { dst := some 251, op := Op.call { callee := Callee.value (Operand.func 20), args := #[Operand.tmp 250], argTypes := #[22] }, type := 42, pos := _, after := #[{ on := 66, ground := Ground.data }, { on := 65, ground := Ground.chain }, { on := 65, ground := Ground.guard }], guard := some (65, true) }) rfl (fun K hK => ?_) AllReadyH.nil)
                  go_simp
                  refine (Image_nil wm).mono ?_
                  rintro e y ⟨rfl, hbi⟩
                  have HFI := Lib.hid (HFM.out.on hbi)
                  have hKI := HFI.out.held HF.out
                  clear hbi
                  go_simp
                  refine hK.out _ _ (hKI) (fun hHeld => ?_)
                  clear hK K
                  try simp only [Act.put, List.setIfInBounds_toArray, List.set_cons_zero, List.set_cons_succ]
                  refine wpAnyH_take (i := 68) (oi := { dst := some 252, op := Op.call { callee := Callee.builtin Builtin.len, args := #[Operand.tmp 251], argTypes := #[42] }, type := 3, pos := _, after := #[{ on := 67, ground := Ground.data }, { on := 65, ground := Ground.guard }], guard := some (65, true) }) (v := ?_) rfl (by kernel_rfl) (by kernel_rfl) (by kernel_rfl) (fun _ _ _ h => h) (Or.inl ⟨by rfl, ?_⟩) hHeld ?_
                  rotate_left
                  · (intro w hSw; (try dsimp only at hSw); obtain ⟨hS0, hS1, hS2, hS3, hS4, hS5, hS6, hS7⟩ := hSw; first | (go_simp; done) | (go_simp; with_reducible rfl))
                  try simp only [Act.put, List.setIfInBounds_toArray, List.set_cons_zero, List.set_cons_succ]
                  refine wpAnyH_take (i := 69) (oi := { dst := some 253, op := Op.binOp BinOp.eql 3 (Operand.tmp 252) (Operand.const (Value.int IntKind.i64 0)) 3, type := 4, pos := _, after := #[{ on := 68, ground := Ground.data }, { on := 65, ground := Ground.guard }], guard := some (65, true) }) (v := ?_) rfl (by kernel_rfl) (by kernel_rfl) (by kernel_rfl) (fun _ _ _ h => h) (Or.inl ⟨by rfl, ?_⟩) hHeld ?_
                  rotate_left
                  · (intro w hSw; (try dsimp only at hSw); obtain ⟨hS0, hS1, hS2, hS3, hS4, hS5, hS6, hS7⟩ := hSw; first | (go_simp; done) | (go_simp; with_reducible rfl))
                  try simp only [Act.put, List.setIfInBounds_toArray, List.set_cons_zero, List.set_cons_succ]
                  refine wpAnyH_take (i := 70) (oi := { dst := some 254, op := Op.pick (Operand.tmp 249) (Operand.tmp 253) (Operand.const (Value.bool false)), type := 4, pos := _, after := #[{ on := 65, ground := Ground.data }, { on := 69, ground := Ground.data }], guard := none }) (v := ?_) rfl (by kernel_rfl) (by kernel_rfl) (by kernel_rfl) (fun _ _ _ h => h) (Or.inl ⟨by rfl, ?_⟩) hHeld ?_
                  rotate_left
                  · (intro w hSw; (try dsimp only at hSw); obtain ⟨hS0, hS1, hS2, hS3, hS4, hS5, hS6, hS7⟩ := hSw; first | (go_simp; done) | (go_simp; with_reducible rfl))
                  try simp only [Act.put, List.setIfInBounds_toArray, List.set_cons_zero, List.set_cons_succ]
                  refine wpAnyH_take (i := 71) (oi := { dst := some 4, op := Op.assign (Operand.tmp 254), type := 4, pos := _, after := ([{ on := 70, ground := Ground.data }, { on := 67, ground := Ground.chain }, { on := 0, ground := Ground.phase }, { on := 1, ground := Ground.phase }, { on := 2, ground := Ground.phase }, { on := 3, ground := Ground.phase }, { on := 4, ground := Ground.phase }, { on := 5, ground := Ground.phase }, { on := 6, ground := Ground.phase }, { on := 7, ground := Ground.phase }, { on := 8, ground := Ground.phase }, { on := 9, ground := Ground.phase }, { on := 10, ground := Ground.phase }, { on := 11, ground := Ground.phase }, { on := 12, ground := Ground.phase }, { on := 13, ground := Ground.phase }, { on := 14, ground := Ground.phase }, { on := 15, ground := Ground.phase }, { on := 16, ground := Ground.phase }, { on := 17, ground := Ground.phase }, { on := 18, ground := Ground.phase }, { on := 19, ground := Ground.phase }, { on := 20, ground := Ground.phase }, { on := 21, ground := Ground.phase }, { on := 22, ground := Ground.phase }, { on := 23, ground := Ground.phase }, { on := 24, ground := Ground.phase }, { on := 25, ground := Ground.phase }, { on := 26, ground := Ground.phase }, { on := 27, ground := Ground.phase }, { on := 28, ground := Ground.phase }, { on := 29, ground := Ground.phase }, { on := 30, ground := Ground.phase }, { on := 31, ground := Ground.phase }, { on := 32, ground := Ground.phase }, { on := 33, ground := Ground.phase }].append [{ on := 34, ground := Ground.phase }, { on := 35, ground := Ground.phase }, { on := 36, ground := Ground.phase }, { on := 37, ground := Ground.phase }, { on := 38, ground := Ground.phase }, { on := 39, ground := Ground.phase }, { on := 40, ground := Ground.phase }, { on := 41, ground := Ground.phase }, { on := 42, ground := Ground.phase }, { on := 43, ground := Ground.phase }, { on := 44, ground := Ground.phase }, { on := 45, ground := Ground.phase }, { on := 46, ground := Ground.phase }, { on := 47, ground := Ground.phase }, { on := 48, ground := Ground.phase }, { on := 49, ground := Ground.phase }, { on := 50, ground := Ground.phase }, { on := 51, ground := Ground.phase }, { on := 52, ground := Ground.phase }, { on := 53, ground := Ground.phase }, { on := 54, ground := Ground.phase }, { on := 55, ground := Ground.phase }, { on := 56, ground := Ground.phase }, { on := 57, ground := Ground.phase }, { on := 58, ground := Ground.phase }, { on := 59, ground := Ground.phase }, { on := 60, ground := Ground.phase }, { on := 61, ground := Ground.phase }, { on := 62, ground := Ground.phase }, { on := 63, ground := Ground.phase }, { on := 64, ground := Ground.phase }, { on := 65, ground := Ground.phase }, { on := 66, ground := Ground.phase }, { on := 67, ground := Ground.phase }, { on := 68, ground := Ground.phase }, { on := 69, ground := Ground.phase }, { on := 70, ground := Ground.phase }]).toArray, guard := none }) (v := ?_) rfl (by kernel_rfl) (by kernel_rfl) (by kernel_rfl) (fun _ _ _ h => h) (Or.inl ⟨by rfl, ?_⟩) hHeld ?_
                  rotate_left
                  · (intro w hSw; (try dsimp only at hSw); obtain ⟨hS0, hS1, hS2, hS3, hS4, hS5, hS6, hS7⟩ := hSw; first | (go_simp; done) | (go_simp; with_reducible rfl))
                  try simp only [Act.put, List.setIfInBounds_toArray, List.set_cons_zero, List.set_cons_succ]
                  refine wpAnyH_done (by kernel_rfl) ?_ _
                  refine NoPanic.normal ?_
                  clear hmk hHeld hK31 hKI
                  go_wp2_with fail
                  go_ret
                  exact ⟨rfl, HFI.out.below⟩
                  -- END

end Go.Proofs.Ytdagmkkkiaacoaa.lawDiskOwn
