/- The package's Look. -/
import Derived.Test.YtlnahmgcjaodkaaScW3
import Derived.Deep.DeepCutAuto
namespace Go.Proofs.Ytlnahmgcjaodkaa
open Go.RowKit
open By
set_option linter.unusedVariables false
set_option linter.unusedSimpArgs false
set_option maxRecDepth 100000
/-- What Look answers: the part whose sector this is, its bytes the call's own; or that it is none's. -/
def Told (w : World) (b : List UInt8) (e : Ending) (w' : World) : Prop :=
  Hid (Below w.heap.size w w') ∧ ((∃ p v, Hid (SC.Is b p) ∧ e = .returned (.tuple #[pv p v, .int .i64 0]) ∧ Hid (w'.ownsRow w.heap.size 5 1 v p.data.length (u8s p.data))) ∨ (Hid (∀ p, ¬ SC.Is b p) ∧ e = .returned (.tuple #[none5, .int .i64 43])))
theorem results_cell_tmp {fn : Func} {p u : Tmp} {ty : TypeId} (h : fn.results = #[.cell p ty, .tmp u]) (tmps : Array Value) (P : Program) (w : World) :
    (results fn tmps).run P w =
      ((asAddr (tmps.getD p undef)).run P w).andThen fun a w₁ => ((loadVar ty a).run P w₁).andThen fun v w₂ => .ok (.tuple #[v, tmps.getD u undef]) w₂ := by
  simp only [results, h]
  simp [Sem.run_bind, Result.andThen]
theorem load_part {w : World} {g : Nat} {p : SC.Pt} {v : Value} (h : Whole w g 33 (pcells p v)) (hv : v.oneCell' = true) : (loadVar 33 ⟨g, 0, none⟩).run Try.prog w = .ok (pv p v) w :=
  run_loadVar_row w g 33 33 (pcells p v) (0, 0) _ h Try.underlying33 rfl (by kernel_rfl)
theorem part_ret {fn : Func} {q u : Tmp} (h : fn.results = #[.cell q 33, .tmp u]) {tmps : Array Value} {w : World} {g : Nat} {p : SC.Pt} {v x : Value} (hw : Whole w g 33 (pcells p v)) (hv : v.oneCell' = true) (hq : tmps.getD q undef = .pointer (some ⟨g, 0, none⟩)) (hu : tmps.getD u undef = x) :
    (results fn tmps).run Try.prog w = .ok (.tuple #[pv p v, x]) w := by
  rw [results_cell_tmp h, hq, hu]
  have e : (asAddr (.pointer (some ⟨g, 0, none⟩))).run Try.prog w = .ok ⟨g, 0, none⟩ w := rfl
  rw [e]
  simp only [Result.andThen_ok, load_part hw hv]
set_option maxHeartbeats 2000000 in
theorem Look_len (A : Option Addr) (n c : Nat) (b : List UInt8) (w : World) (hn : b.length = n) (h : n ≠ 64) (hl : n ≤ 9223372036854775807) :
    Calls Try.prog 15 #[.slice A n c] w (Told w b) := by
  have hne : ((n : Int) == 64) = false := by simp; omega
  have HN := Lib.hid hn
  clear hn
  go_enter Try.func15, Try.ntmps15
  go_wp2_with fail
  refine bodyPost_ret (v := .tuple #[none5, .int .i64 43]) (part_ret rfl (p := ⟨0, 0, 0, 0, []⟩) (v := .slice none 0 0) (Whole.new w _ _) rfl rfl rfl) rfl ?_
  exact ⟨Lib.hid ((Below.refl _ w).alloc (Nat.le_refl _) _), .inr ⟨Lib.hid (fun p hp => h (by rw [← HN.out, hp.len])), rfl⟩⟩
set_option maxHeartbeats 2000000 in
theorem Look_big (A : Option Addr) (c : Nat) (b : List UInt8) (w : World) (hn : b.length = 64) (hB : BytesAt w A b) (hc : 64 ≤ c ∧ c ≤ 9223372036854775807) (h : 47 < (b.getD 10 0).toNat) :
    Calls Try.prog 15 #[.slice A 64 c] w (Told w b) := by
  obtain ⟨bb, o, rfl, hb, hcc⟩ := hB (by omega)
  have e10 : b[10]? = some (b.getD 10 0) := by rw [List.getD_eq_getElem?_getD, List.getElem?_eq_getElem (by omega)]; rfl
  have c10 : w.cell? ⟨bb, o + 10, none⟩ = some (.int .u8 ((b.getD 10 0).toNat : Int)) := hcc 10 _ e10
  have HT := Lib.hid h
  have HN : Hid (∀ p, ¬ SC.Is b p) := Lib.hid (fun p hp => by
    have hd := hp.1.len
    rw [← hp.fields] at hd
    have e : (SC.fields b).data.length = min (b.getD 10 0).toNat (64 - 11) := by
      show ((b.drop 11).take _).length = _
      rw [List.length_take, List.length_drop, hn]
    omega)
  obtain ⟨hc1, hc2⟩ := hc
  generalize (b.getD 10 0).toNat = k at c10 h HT
  clear hcc e10 hB
  go_enter Try.func15, Try.ntmps15
  go_wp2_with fail
  refine bodyPost_ret (v := .tuple #[none5, .int .i64 43]) (part_ret rfl (p := ⟨0, 0, 0, 0, []⟩) (v := .slice none 0 0) (Whole.new w _ _) rfl rfl rfl) rfl ?_
  exact ⟨Lib.hid ((Below.refl _ w).alloc (Nat.le_refl _) _), .inr ⟨HN, rfl⟩⟩
/-- The part stands in its box, the answer's cells are as they began. -/
structure LookSt (w : World) (p : SC.Pt) (gp : Nat) (v : Value) (wx : World) : Prop where
  box : Whole wx gp 33 (pcells p v)
  res : Whole wx w.heap.size 33 (pcells ⟨0, 0, 0, 0, []⟩ (.slice none 0 0))
  row : wx.ownsRow w.heap.size 5 1 v p.data.length (u8s p.data)
  ne : gp ≠ w.heap.size
  below : Below w.heap.size w wx
theorem LookSt.last {w w1 w5 : World} {p : SC.Pt} {v : Value} (hs : w1.heap.size = w.heap.size + 1) (hb : Below w.heap.size w w1) (hr : Whole w1 w.heap.size 33 (pcells ⟨0, 0, 0, 0, []⟩ (.slice none 0 0)))
    (ho : w5.ownsRow w1.drew.heap.size 5 1 v p.data.length (u8s p.data)) (hb5 : Below w1.drew.heap.size w1.drew w5) : LookSt w p w5.heap.size v (w5.alloc (.cells (pcells p v) 33)) := by
  have h5 : w1.heap.size ≤ w5.heap.size := hb5.size
  exact ⟨Whole.new _ _ _, ((Mod.of_below hb5 []).whole (hr.drewN 1) (by simp)).alloc _, ((Mod.refl [] w5).alloc _).own (own_base ho (by show w.heap.size ≤ w1.heap.size; omega)) (by simp), by omega, ((below_on2 hb.drew (.inl (by show w.heap.size ≤ w1.heap.size; omega)) hb5).alloc (by omega) _)⟩
theorem LookSt.first {w w1 w5 : World} {p : SC.Pt} {v : Value} {z : Obj} (hs : w1.heap.size = w.heap.size + 1) (hb : Below w.heap.size w w1) (hr : Whole w1 w.heap.size 33 (pcells ⟨0, 0, 0, 0, []⟩ (.slice none 0 0)))
    (hz : Whole w5 w1.heap.size 33 #[.int .i64 0, .int .i64 0, .int .i64 0, .int .i64 0, .slice none 0 0])
    (ho : w5.ownsRow (w1.alloc z).drew.heap.size 5 1 v p.data.length (u8s p.data)) (hb5 : Below (w1.alloc z).drew.heap.size (w1.alloc z).drew w5) :
    LookSt w p w1.heap.size v (((((w5.setCell ⟨w1.heap.size, 0, none⟩ (.int .i64 (p.gen : Int))).setCell ⟨w1.heap.size, 1, none⟩ (.int .i64 (p.seq : Int))).setCell ⟨w1.heap.size, 2, none⟩ (.int .i64 (p.idx : Int))).setCell ⟨w1.heap.size, 3, none⟩ (.int .i64 (p.parts : Int))).setCell ⟨w1.heap.size, 4, none⟩ v) := by
  have hzs : (w1.alloc z).drew.heap.size = w1.heap.size + 1 := by show (w1.alloc z).heap.size = _; simp
  have hr5 : Whole w5 w.heap.size 33 (pcells ⟨0, 0, 0, 0, []⟩ (.slice none 0 0)) := (Mod.of_below hb5 []).whole ((hr.alloc z).drewN 1) (by simp)
  have hne : ∀ j, v.ownBlock ≠ some (⟨w1.heap.size, j, none⟩ : Addr).block := fun j => own_ne ho hz (by decide)
  have hq : ∀ j, w.heap.size ≠ (⟨w1.heap.size, j, none⟩ : Addr).block := fun j => by show w.heap.size ≠ w1.heap.size; omega
  refine ⟨((((hz.store 0 _).store 1 _).store 2 _).store 3 _).store 4 _, ((((hr5.far (hq 0) _).far (hq 1) _).far (hq 2) _).far (hq 3) _).far (hq 4) _, own_far (own_far (own_far (own_far (own_far (own_base ho (by omega)) (hne 0) _) (hne 1) _) (hne 2) _) (hne 3) _) (hne 4) _, by omega, ?_⟩
  have h0 : Below w.heap.size w w5 := below_on2 (hb.alloc (by omega) z).drew (.inl (by omega)) hb5
  have hle : w.heap.size ≤ w1.heap.size := by omega
  exact ((((h0.setCell (p := ⟨w1.heap.size, 0, none⟩) hle _).setCell (p := ⟨w1.heap.size, 1, none⟩) hle _).setCell (p := ⟨w1.heap.size, 2, none⟩) hle _).setCell (p := ⟨w1.heap.size, 3, none⟩) hle _).setCell (p := ⟨w1.heap.size, 4, none⟩) hle _
theorem LookSt.on {w wx : World} {p : SC.Pt} {gp : Nat} {v : Value} (h : LookSt w p gp v wx) {w' : World} (hb : Below wx.heap.size wx w') : LookSt w p gp v w' :=
  ⟨(Mod.of_below hb []).whole h.box (by simp), (Mod.of_below hb []).whole h.res (by simp), (Mod.of_below hb []).own h.row (by simp), h.ne, below_on2 h.below (.inl h.below.size) hb⟩
theorem LookSt.put {w wx : World} {p q : SC.Pt} {gp : Nat} {v u : Value} (h : LookSt w p gp v wx) :
    let wz := ((((wx.setCell ⟨w.heap.size, 0, none⟩ (.int .i64 (q.gen : Int))).setCell ⟨w.heap.size, 1, none⟩ (.int .i64 (q.seq : Int))).setCell ⟨w.heap.size, 2, none⟩ (.int .i64 (q.idx : Int))).setCell ⟨w.heap.size, 3, none⟩ (.int .i64 (q.parts : Int))).setCell ⟨w.heap.size, 4, none⟩ u
    Whole wz w.heap.size 33 (pcells q u) ∧ wz.ownsRow w.heap.size 5 1 v p.data.length (u8s p.data) ∧ Below w.heap.size w wz := by
  intro wz
  have hne : ∀ j, v.ownBlock ≠ some (⟨w.heap.size, j, none⟩ : Addr).block := fun j => own_ne h.row h.res (by decide)
  have hle : w.heap.size ≤ w.heap.size := Nat.le_refl _
  exact ⟨((((h.res.store 0 _).store 1 _).store 2 _).store 3 _).store 4 _, own_far (own_far (own_far (own_far (own_far h.row (hne 0) _) (hne 1) _) (hne 2) _) (hne 3) _) (hne 4) _,
    ((((h.below.setCell (p := ⟨w.heap.size, 0, none⟩) hle _).setCell (p := ⟨w.heap.size, 1, none⟩) hle _).setCell (p := ⟨w.heap.size, 2, none⟩) hle _).setCell (p := ⟨w.heap.size, 3, none⟩) hle _).setCell (p := ⟨w.heap.size, 4, none⟩) hle _⟩
theorem LookSt.resCells {w wx : World} {p : SC.Pt} {gp : Nat} {v : Value} (h : LookSt w p gp v wx) : (wx.cell? ⟨w.heap.size, 0, none⟩ = some (.int .i64 0) ∧ wx.cell? ⟨w.heap.size, 1, none⟩ = some (.int .i64 0) ∧ wx.cell? ⟨w.heap.size, 2, none⟩ = some (.int .i64 0) ∧ wx.cell? ⟨w.heap.size, 3, none⟩ = some (.int .i64 0) ∧ wx.cell? ⟨w.heap.size, 4, none⟩ = some (.slice none 0 0)) ∧
    (wx.frozen? ⟨w.heap.size, 0, none⟩ = false ∧ wx.frozen? ⟨w.heap.size, 1, none⟩ = false ∧ wx.frozen? ⟨w.heap.size, 2, none⟩ = false ∧ wx.frozen? ⟨w.heap.size, 3, none⟩ = false ∧ wx.frozen? ⟨w.heap.size, 4, none⟩ = false) :=
  ⟨⟨h.res.cell 0, h.res.cell 1, h.res.cell 2, h.res.cell 3, h.res.cell 4⟩, h.res.frozen 0, h.res.frozen 1, h.res.frozen 2, h.res.frozen 3, h.res.frozen 4⟩
theorem cell_al {W : World} {bb q : Nat} {u : Value} {ob : Obj} (hbl : bb < W.heap.size) (h : W.cell? ⟨bb, q, none⟩ = some u) : (W.alloc ob).cell? ⟨bb, q, none⟩ = some u :=
  (((Mod.refl [] W).alloc ob).cell (p := ⟨bb, q, none⟩) hbl (by simp)).trans h
theorem cell_st {W : World} {bb g q j : Nat} {u x : Value} (hne : bb ≠ g) (h : W.cell? ⟨bb, q, none⟩ = some u) : (W.setCell ⟨g, j, none⟩ x).cell? ⟨bb, q, none⟩ = some u :=
  (World.cell?_setCell_other _ _ _ _ (fun e => hne (by injection e with e1; first | exact e1 | exact e1.symm))).trans h
theorem cell_dr {W : World} {bb q : Nat} {u : Value} (h : W.cell? ⟨bb, q, none⟩ = some u) : W.drew.cell? ⟨bb, q, none⟩ = some u := h
theorem getD_some {b : List UInt8} {k : Nat} (hk : k < b.length) : b[k]? = some (b.getD k 0) := by rw [List.getD_eq_getElem?_getD, List.getElem?_eq_getElem hk]; rfl
set_option maxHeartbeats 2000000 in
theorem Look_64 (A : Option Addr) (c : Nat) (b : List UInt8) (w : World) (hn : b.length = 64) (hB : BytesAt w A b) (hc : 64 ≤ c ∧ c ≤ 9223372036854775807) (h : (b.getD 10 0).toNat ≤ 47) :
    Calls Try.prog 15 #[.slice A 64 c] w (Told w b) := by
  obtain ⟨bb, o, rfl, hb, hcc⟩ := hB (by omega)
  have c8 : w.cell? ⟨bb, o + 8, none⟩ = some (.int .u8 ((b.getD 8 0).toNat : Int)) := hcc 8 _ (getD_some (by omega))
  have c9 : w.cell? ⟨bb, o + 9, none⟩ = some (.int .u8 ((b.getD 9 0).toNat : Int)) := hcc 9 _ (getD_some (by omega))
  have c10 : w.cell? ⟨bb, o + 10, none⟩ = some (.int .u8 ((b.getD 10 0).toNat : Int)) := hcc 10 _ (getD_some (by omega))
  have h8 := (b.getD 8 0).toNat_lt
  have h9 := (b.getD 9 0).toNat_lt
  have hfl : (SC.fields b).data.length = (b.getD 10 0).toNat := by
    show ((b.drop 11).take _).length = _
    rw [List.length_take, List.length_drop, hn]
    omega
  have HF8 : Hid ((SC.fields b).idx = (b.getD 8 0).toNat) := rfl
  have HF9 : Hid ((SC.fields b).parts = (b.getD 9 0).toNat) := rfl
  have HFL := Lib.hid hfl
  have HBB := Lib.hid hB
  have HN := Lib.hid hn
  have HD11 : Hid (BytesAt w (some ⟨bb, o + 11, none⟩) (SC.fields b).data) := Lib.hid (fun h0 => ⟨bb, o + 11, rfl, hb, fun j x hx => by
    have hx : ((b.drop 11).take (b.getD 10 0).toNat)[j]? = some x := hx
    rw [List.getElem?_take] at hx
    split at hx
    · rw [List.getElem?_drop] at hx
      rw [Nat.add_assoc]
      exact hcc (11 + j) x hx
    · cases hx⟩)
  have HD4 : Hid (BytesAt w (some ⟨bb, o + 4, none⟩) (b.drop 4)) := Lib.hid (fun h0 => ⟨bb, o + 4, rfl, hb, fun j x hx => by
    rw [List.getElem?_drop] at hx
    rw [Nat.add_assoc]
    exact hcc (4 + j) x hx⟩)
  have HL4 := Lib.hid (show (b.drop 4).length = 60 by rw [List.length_drop, hn])
  obtain ⟨hc1, hc2⟩ := hc
  generalize (b.getD 8 0).toNat = i at c8 h8 HF8
  generalize (b.getD 9 0).toNat = m at c9 h9 HF9
  generalize (b.getD 10 0).toNat = k at c10 h HFL hfl
  have hw8 : IntKind.i64.wrap (i : Int) = (i : Int) := by rw [IntKind.wrap_i64]; omega
  have hw9 : IntKind.i64.wrap (m : Int) = (m : Int) := by rw [IntKind.wrap_i64]; omega
  have hw10 : IntKind.i64.wrap (k : Int) = (k : Int) := by rw [IntKind.wrap_i64]; omega
  have hw11 : IntKind.i64.wrap (11 + (k : Int)) = 11 + (k : Int) := by rw [IntKind.wrap_i64]; omega
  have hk11 : (11 + (k : Int)).toNat = 11 + k := by omega
  have n0 : ¬ c = 0 := by omega
  have n4 : ¬ c = 4 := by omega
  have n11 : ¬ c = 11 := by omega
  have n11k : 0 ≤ 11 + (k : Int) ∧ 11 + (k : Int) ≤ (c : Int) := by omega
  have n11l : 11 ≤ 11 + (k : Int) := by omega
  clear hcc hB hn hfl
  go_enter Try.func15, Try.ntmps15
  go_wp2_with fail
  have HB1 := Lib.hid ((Below.refl _ w).alloc (Nat.le_refl _) (.cells (pcells ⟨0, 0, 0, 0, []⟩ (.slice none 0 0)) 33))
  have HR1 := Lib.hid (Whole.new w 33 (pcells ⟨0, 0, 0, 0, []⟩ (.slice none 0 0)))
  have HS1 := Lib.hid (show (w.alloc (.cells (pcells ⟨0, 0, 0, 0, []⟩ (.slice none 0 0)) 33)).heap.size = w.heap.size + 1 by simp)
  have b8 : (w.alloc (.cells (pcells ⟨0, 0, 0, 0, []⟩ (.slice none 0 0)) 33)).cell? ⟨bb, o + 8, none⟩ = some (.int .u8 (i : Int)) := (HB1.out.cell (p := ⟨bb, o + 8, none⟩) hb).trans c8
  have b9 : (w.alloc (.cells (pcells ⟨0, 0, 0, 0, []⟩ (.slice none 0 0)) 33)).cell? ⟨bb, o + 9, none⟩ = some (.int .u8 (m : Int)) := (HB1.out.cell (p := ⟨bb, o + 9, none⟩) hb).trans c9
  have b10 : (w.alloc (.cells (pcells ⟨0, 0, 0, 0, []⟩ (.slice none 0 0)) 33)).cell? ⟨bb, o + 10, none⟩ = some (.int .u8 (k : Int)) := (HB1.out.cell (p := ⟨bb, o + 10, none⟩) hb).trans c10
  unfold pcells at HB1 HR1 HS1 b8 b9 b10
  simp only [Int.natCast_zero] at HB1 HR1 HS1 b8 b9 b10
  generalize w.alloc _ = w1 at HB1 HR1 HS1 b8 b9 b10 ⊢
  have HCl := Lib.hid (fun (W : World) (h : Below w.heap.size w W) => Clone_any (some ⟨bb, o + 11, none⟩) (c - 11) (SC.fields b).data W (HD11.out.below h) (by rw [HFL.out]; omega))
  rw [HFL.out] at HCl
  clear c8 c9 c10
  have hbl : bb < w1.heap.size := by have := HS1.out; omega
  have HS : w1.cell? ⟨bb, o + 8, none⟩ = some (.int .u8 (i : Int)) ∧ w1.cell? ⟨bb, o + 9, none⟩ = some (.int .u8 (m : Int)) ∧ w1.cell? ⟨bb, o + 10, none⟩ = some (.int .u8 (k : Int)) := ⟨b8, b9, b10⟩
  have nn : bb ≠ w1.heap.size := by omega
  clear b8 b9 b10
  have HPG : Hid ((SC.fields b).gen = SC.of4 b) := rfl
  have HPS : Hid ((SC.fields b).seq = SC.of4 (b.drop 4)) := rfl
  have HPC : ∀ v, Hid (pcells (SC.fields b) v = #[.int .i64 (SC.of4 b : Int), .int .i64 (SC.of4 (b.drop 4) : Int), .int .i64 (i : Int), .int .i64 (m : Int), v]) := fun v => Lib.hid (by unfold pcells; rw [HF8.out, HF9.out]; rfl)
  go_cut [4] (fun s wx => ∃ gp A5 c5, s = .pointer (some ⟨gp, 0, none⟩) ∧ Hid (LookSt w (SC.fields b) gp (.slice A5 (SC.fields b).data.length c5) wx))
  case first =>
   go_region_held3 (fun y : World => y.cell? ⟨bb, o + 8, none⟩ = some (.int .u8 (i : Int)) ∧ y.cell? ⟨bb, o + 9, none⟩ = some (.int .u8 (m : Int)) ∧ y.cell? ⟨bb, o + 10, none⟩ = some (.int .u8 (k : Int)))
     (first
       | with_reducible exact HS
       | (refine ⟨?_, ?_, ?_⟩ <;> (repeat (first | with_reducible refine cell_st (by assumption) ?_ | with_reducible refine cell_dr ?_ | with_reducible refine cell_al (by assumption) ?_)) <;> (first | with_reducible exact HS.1 | with_reducible exact HS.2.1 | with_reducible exact HS.2.2)))
     (first
       | (go_at_call 27
          with_reducible refine (number_any (some ⟨bb, o, none⟩) 64 c b _ (HBB.out.below (by first | exact HB1.out.drew | exact (HB1.out.alloc (by have := HS1.out; omega) _).drew)) HN.out (by decide) hc1 hc2).mono ?_
          rintro e w5 ⟨rfl, rfl⟩)
       | (go_at_call 27
          with_reducible refine (number_any (some ⟨bb, o + 4, none⟩) 60 (c - 4) (b.drop 4) _ (HD4.out.below (by first | exact HB1.out.drew | exact (HB1.out.alloc (by have := HS1.out; omega) _).drew)) HL4.out (by decide) (by omega) (by omega)).mono ?_
          rintro e w5 ⟨rfl, rfl⟩)
       | (go_at_call 28
          with_reducible refine (HCl.out w1.drew HB1.out.drew).mono ?_
          rintro e w5 ⟨v, rfl, HO5, HB5⟩
          have HO5' := Lib.hid HO5
          have HB5' := Lib.hid HB5
          replace HS : w5.cell? ⟨bb, o + 8, none⟩ = some (.int .u8 (i : Int)) ∧ w5.cell? ⟨bb, o + 9, none⟩ = some (.int .u8 (m : Int)) ∧ w5.cell? ⟨bb, o + 10, none⟩ = some (.int .u8 (k : Int)) := ⟨(HB5.cell (p := ⟨bb, o + 8, none⟩) hbl).trans HS.1, (HB5.cell (p := ⟨bb, o + 9, none⟩) hbl).trans HS.2.1, (HB5.cell (p := ⟨bb, o + 10, none⟩) hbl).trans HS.2.2⟩
          have nn5 : bb ≠ w5.heap.size := by have : w1.heap.size ≤ w5.heap.size := HB5.size; omega
          have hbl5 : bb < w5.heap.size := Nat.lt_of_lt_of_le hbl HB5.size
          obtain ⟨A5, c5, rfl, _, _⟩ := own_shape HO5
          clear HO5 HB5)
       | (go_at_call 28
          with_reducible refine (HCl.out (w1.alloc (.cells #[.int .i64 0, .int .i64 0, .int .i64 0, .int .i64 0, .slice none 0 0] 33)).drew (HB1.out.alloc (by have := HS1.out; omega) _).drew).mono ?_
          rintro e w5 ⟨v, rfl, HO5, HB5⟩
          have HZ5 := Lib.hid ((Mod.of_below HB5 []).whole ((Whole.new w1 33 #[.int .i64 0, .int .i64 0, .int .i64 0, .int .i64 0, .slice none 0 0]).drewN 1) (by simp))
          have z0 : w5.cell? ⟨w1.heap.size, 0, none⟩ = some (.int .i64 0) := HZ5.out.cell 0
          have z1 : w5.cell? ⟨w1.heap.size, 1, none⟩ = some (.int .i64 0) := HZ5.out.cell 1
          have z2 : w5.cell? ⟨w1.heap.size, 2, none⟩ = some (.int .i64 0) := HZ5.out.cell 2
          have z3 : w5.cell? ⟨w1.heap.size, 3, none⟩ = some (.int .i64 0) := HZ5.out.cell 3
          have z4 : w5.cell? ⟨w1.heap.size, 4, none⟩ = some (.slice none 0 0) := HZ5.out.cell 4
          have f0 : w5.frozen? ⟨w1.heap.size, 0, none⟩ = false := HZ5.out.frozen 0
          have f1 : w5.frozen? ⟨w1.heap.size, 1, none⟩ = false := HZ5.out.frozen 1
          have f2 : w5.frozen? ⟨w1.heap.size, 2, none⟩ = false := HZ5.out.frozen 2
          have f3 : w5.frozen? ⟨w1.heap.size, 3, none⟩ = false := HZ5.out.frozen 3
          have f4 : w5.frozen? ⟨w1.heap.size, 4, none⟩ = false := HZ5.out.frozen 4
          have HO5' := Lib.hid HO5
          have HB5' := Lib.hid HB5
          have hba : bb < ((w1.alloc (.cells #[.int .i64 0, .int .i64 0, .int .i64 0, .int .i64 0, .slice none 0 0] 33)).drew).heap.size := Nat.lt_of_lt_of_le hbl (Mod.refl [] w1 |>.alloc _ |>.drew).size
          have hca : ∀ q, ((w1.alloc (.cells #[.int .i64 0, .int .i64 0, .int .i64 0, .int .i64 0, .slice none 0 0] 33)).drew).cell? ⟨bb, q, none⟩ = w1.cell? ⟨bb, q, none⟩ := fun q => ((Mod.refl [] w1).alloc _).drew.cell (p := ⟨bb, q, none⟩) hbl (by simp)
          replace HS : w5.cell? ⟨bb, o + 8, none⟩ = some (.int .u8 (i : Int)) ∧ w5.cell? ⟨bb, o + 9, none⟩ = some (.int .u8 (m : Int)) ∧ w5.cell? ⟨bb, o + 10, none⟩ = some (.int .u8 (k : Int)) := ⟨((HB5.cell (p := ⟨bb, o + 8, none⟩) hba).trans (hca _)).trans HS.1, ((HB5.cell (p := ⟨bb, o + 9, none⟩) hba).trans (hca _)).trans HS.2.1, ((HB5.cell (p := ⟨bb, o + 10, none⟩) hba).trans (hca _)).trans HS.2.2⟩
          obtain ⟨A5, c5, rfl, _, _⟩ := own_shape HO5
          clear HO5 HB5 hba hca))
   all_goals
     go_wp2_with fail
     go_meet
     first
       | (refine ⟨_, A5, c5, rfl, ?_⟩
          have h := LookSt.last (p := SC.fields b) HS1.out HB1.out HR1.out HO5'.out HB5'.out
          rw [(HPC _).out] at h
          with_reducible exact Lib.hid h)
       | (refine ⟨_, A5, c5, rfl, ?_⟩
          have h := LookSt.first (p := SC.fields b) HS1.out HB1.out HR1.out HZ5.out HO5'.out HB5'.out
          rw [HF8.out, HF9.out, HPG.out, HPS.out] at h
          with_reducible exact Lib.hid h)
  case rest =>
   obtain ⟨gp, A5, c5, rfl, HLS⟩ := hcut
   have hbc : bb < wc.heap.size := Nat.lt_of_lt_of_le hb HLS.out.below.size
   have HBC := Lib.hid (HBB.out.below HLS.out.below)
   have hdl : (SC.fields b).data.length ≤ 47 := by rw [HFL.out]; exact h
   have hpi : (SC.fields b).idx < 256 := by rw [HF8.out]; exact h8
   have hpm : (SC.fields b).parts < 256 := by rw [HF9.out]; exact h9
   have hpg : (SC.fields b).gen < 4294967296 := of4_lt _
   have hps : (SC.fields b).seq < 4294967296 := of4_lt _
   clear HS nn hbl HB1 HR1 HS1 HCl hw8 hw9 hw10 hw11 hk11 n0 n4 n11 n11k n11l HPG HPS HPC HF8 HF9 HFL HBB HD11 HD4 HL4 h8 h9 h
   have HIFF := Lib.hid (SC.is_iff b)
   generalize SC.fields b = P at *
   have HMB := fun W => mayBe_any P A5 c5 W hpm hpi hpg hps hdl
   obtain ⟨b0, b1, b2, b3, b4⟩ := HLS.out.box.part
   by_cases hg : SC.Good P
   · rw [decide_eq_true ((okPt_good hdl).2 hg)] at HMB
     have HSC := fun W h => sector_any P hg A5 P.data.length c5 W h rfl
     obtain ⟨pg, ps, pi, pm, pd⟩ := P
     unfold pv pcells at HMB HSC
     simp only at HMB HSC b0 b1 b2 b3 b4 HLS HIFF hg
     have HMB' := Lib.hid HMB
     have HSC' := Lib.hid HSC
     have HGG := Lib.hid hg
     clear HMB HSC hg hdl hpi hpm hpg hps
     go_wp2_with fail
     go_at_call 29
     with_reducible refine (HMB'.out wc).mono ?_
     rintro e w5 ⟨rfl, HB5⟩
     have HL5 := Lib.hid (HLS.out.on HB5)
     have HBC5 := Lib.hid (HBC.out.below HB5)
     obtain ⟨d0, d1, d2, d3, d4⟩ := HL5.out.box.part
     simp only at d0 d1 d2 d3 d4
     clear HB5 b0 b1 b2 b3 b4 HLS HBC HMB'
     go_wp2_with fail
     go_at_call 25
     with_reducible refine (HSC'.out w5 (BytesAt.own HL5.out.row)).mono ?_
     rintro e w6 ⟨rfl, HW6, HB6⟩
     have HL6 := Lib.hid (HL5.out.on HB6.out)
     have HBC6 := Lib.hid (HBC5.out.below HB6.out)
     have HE6 := Lib.hid (BytesEqual_any (some ⟨bb, o, none⟩) (some ⟨w5.heap.size + 1, 0, none⟩) 64 64 c 64 b (SC.lay ⟨pg, ps, pi, pm, pd⟩) w6 HBC6.out (Whole.reads HW6.out) HN.out (SC.lay_len (by have := HGG.out.len; omega)))
     clear HW6 HB6 HL5 HBC5 d0 d1 d2 d3 d4 HSC'
     go_wp2_with fail
     go_at_call 30
     with_reducible refine HE6.out.mono ?_
     rintro e w7 ⟨rfl, rfl⟩
     obtain ⟨⟨r0, r1, r2, r3, r4⟩, f0, f1, f2, f3, f4⟩ := HL6.out.resCells
     obtain ⟨d0, d1, d2, d3, d4⟩ := HL6.out.box.part
     simp only at d0 d1 d2 d3 d4
     clear HE6 HBC6
     by_cases he : b = SC.lay ⟨pg, ps, pi, pm, pd⟩
     · have HIS : Hid (SC.Is b ⟨pg, ps, pi, pm, pd⟩) := Lib.hid ⟨HGG.out, he.symm⟩
       have HPUT := Lib.hid (HL6.out.put (q := ⟨pg, ps, pi, pm, pd⟩) (u := .slice A5 pd.length c5))
       rw [decide_eq_true he]
       clear he HL6
       go_wp2_with fail
       refine bodyPost_ret (v := .tuple #[pv ⟨pg, ps, pi, pm, pd⟩ (.slice A5 pd.length c5), .int .i64 0]) (part_ret rfl HPUT.out.1 rfl rfl rfl) rfl ?_
       exact ⟨Lib.hid HPUT.out.2.2, .inl ⟨_, _, HIS, rfl, Lib.hid HPUT.out.2.1⟩⟩
     · have HNO := Lib.hid (show ∀ p, ¬ SC.Is b p from fun p hp => he ((HIFF.out.1 ⟨p, hp⟩).2.symm))
       have HPUT := Lib.hid (HL6.out.put (q := ⟨0, 0, 0, 0, []⟩) (u := .slice none 0 0))
       rw [decide_eq_false he]
       clear he HL6
       go_wp2_with fail
       refine bodyPost_ret (v := .tuple #[none5, .int .i64 43]) (part_ret rfl HPUT.out.1 rfl rfl rfl) rfl ?_
       exact ⟨Lib.hid HPUT.out.2.2, .inr ⟨HNO, rfl⟩⟩
   · rw [decide_eq_false (fun h => hg ((okPt_good hdl).1 h))] at HMB
     have HNO := Lib.hid (show ∀ p, ¬ SC.Is b p from fun p hp => hg (HIFF.out.1 ⟨p, hp⟩).1)
     obtain ⟨pg, ps, pi, pm, pd⟩ := P
     unfold pv pcells at HMB
     simp only at HMB b0 b1 b2 b3 b4 HLS
     have HMB' := Lib.hid HMB
     clear HMB hg hdl hpi hpm hpg hps HIFF
     go_wp2_with fail
     go_at_call 29
     with_reducible refine (HMB'.out wc).mono ?_
     rintro e w5 ⟨rfl, HB5⟩
     have HL6 := Lib.hid (HLS.out.on HB5)
     obtain ⟨⟨r0, r1, r2, r3, r4⟩, f0, f1, f2, f3, f4⟩ := HL6.out.resCells
     have HPUT := Lib.hid (HL6.out.put (q := ⟨0, 0, 0, 0, []⟩) (u := .slice none 0 0))
     clear HB5 b0 b1 b2 b3 b4 HLS HBC HMB' HL6
     go_wp2_with fail
     refine bodyPost_ret (v := .tuple #[none5, .int .i64 43]) (part_ret rfl HPUT.out.1 rfl rfl rfl) rfl ?_
     exact ⟨Lib.hid HPUT.out.2.2, .inr ⟨HNO, rfl⟩⟩
theorem Look_any (A : Option Addr) (n c : Nat) (b : List UInt8) (w : World) (hB : BytesAt w A b) (hn : b.length = n) (hl : n ≤ c) (hc : c ≤ 9223372036854775807) :
    Calls Try.prog 15 #[.slice A n c] w (Told w b) := by
  by_cases h : n = 64
  · subst h
    by_cases h2 : (b.getD 10 0).toNat ≤ 47
    · exact Look_64 A c b w hn hB ⟨hl, hc⟩ h2
    · exact Look_big A c b w hn hB ⟨hl, hc⟩ (by omega)
  · exact Look_len A n c b w hn h (by omega)
end Go.Proofs.Ytlnahmgcjaodkaa
