/- The walk of DiskPlays: it answers true, and old memory stands. -/
import Derived.Test.YtdagmkkkiaacoaaRows
import Derived.Test.YtdagmkkkiaacoaaDkArg
import Derived.Test.YtdagmkkkiaacoaaLawBare
import Derived.JoinedCond
import Derived.OpenShut
namespace Go.Proofs.Ytdagmkkkiaacoaa.lawDiskPlays
open Go Go.RowKit Go.ChangeShapes Go.WideShapes Go.ChangeAt
set_option linter.unusedVariables false
set_option linter.unusedSimpArgs false
open By (u8s own_shape)
/-- The disk and the document's disk stand alike. -/
structure Pl (w : World) (g r : Nat) (v : Value) (d : Dk) (cur : World) : Prop where
  disk : DkAt cur g d
  ref : RefAt w.heap.size cur r v d
  ge : w.heap.size ≤ g
  below : Below w.heap.size w cur
theorem RefAt.low {base base' : Nat} {w : World} {r : Nat} {v : Value} {d : Dk} (h : RefAt base w r v d) (hb : base' ≤ base) : RefAt base' w r v d := by
  obtain ⟨hs, h1, h2⟩ := h.row
  refine ⟨h.box, Nat.le_trans hb h.ge, hs, ⟨h1.1, ?_⟩, fun i x hx => by obtain ⟨b, k1, k2, k3⟩ := h2 i x hx; exact ⟨b, k1, Nat.le_trans hb k2, k3⟩⟩
  rcases h1.2 with hh | ⟨g, cap, cur, e, hg, hh⟩
  · exact .inl hh
  · exact .inr ⟨g, cap, cur, e, Nat.le_trans hb hg, hh⟩
section
variable {w cur w' : World} {g r p : Nat} {v : Value} {d d1 d2 : Dk} {x : Op} {L : List Nat}
theorem Pl.on (h : Pl w g r v d cur) (hb : Below cur.heap.size cur w') : Pl w g r v d w' := ⟨h.disk.below hb, h.ref.below hb, h.ge, below_on h.below hb⟩
theorem below_g (h : Below w.heap.size w cur) (hm : Mod [g] cur w') (hg : w.heap.size ≤ g) : Below w.heap.size w w' := h.trans (hm.below h.size (fun x hx => by rw [List.mem_singleton.1 hx]; exact hg))
theorem below_r (h : Below w.heap.size w cur) (hr : RefAt w.heap.size cur r v d) (hm : Mod (refF r v) cur w') : Below w.heap.size w w' := h.trans (hm.below h.size hr.from)
theorem Pl.both {w5 w6 : World} {d' : Dk} (h : Pl w g r v d cur) (hd : DkAt w5 g d') (hm : Mod [g] cur w5) (hr : RefAt w.heap.size w6 r v d') (hn : Mod [r] w5 w6) : Pl w g r v d' w6 := by
  have h5 := h.ref.disk h.disk hm
  have hn' : Mod (refF r v) w5 w6 := hn.mono (fun x hx => .inl (by rw [List.mem_singleton.1 hx]; simp [refF]))
  exact ⟨hd.ref h5 hn', hr, h.ge, below_r (below_g h.below hm h.ge) h5 hn'⟩
/-- A write is under way. -/
structure St (w : World) (g r : Nat) (v : Value) (p : Nat) (x : Op) (L : List Nat) (d1 d2 : Dk) (cur : World) : Prop where
  disk : DkAt cur g d1
  ref : RefAt w.heap.size cur r v d2
  each : ∀ b ∈ L, Whole cur b 5 (u8s (fl x.fill (fm x.len))).toArray
  box : Whole cur p 34 (opCells x)
  ge : w.heap.size ≤ g
  below : Below w.heap.size w cur
theorem St.on (h : St w g r v p x L d1 d2 cur) (hb : Below cur.heap.size cur w') : St w g r v p x L d1 d2 w' :=
  ⟨h.disk.below hb, h.ref.below hb, fun b hm => (Mod.of_below hb []).whole (h.each b hm) (by simp), (Mod.of_below hb []).whole h.box (by simp), h.ge, below_on h.below hb⟩
theorem St.cells (h : St w g r v p x L d1 d2 cur) : cur.cell? ⟨p, 1, none⟩ = some (.int .i64 x.i) ∧ cur.cell? ⟨p, 2, none⟩ = some (.int .u8 (x.fill.toNat : Int)) ∧ cur.cell? ⟨p, 3, none⟩ = some (.int .i64 x.len) := ⟨h.box.cell 1, h.box.cell 2, h.box.cell 3⟩
theorem St.filled (h : St w g r v p x L d1 d2 cur) (hx : OpIn x) :
    Calls Try.prog 22 #[.int .u8 (x.fill.toNat : Int), .int .i64 x.len] cur fun e w' => e = .returned (.slice (some ⟨cur.heap.size, 0, none⟩) (fm x.len) (fm x.len)) ∧ Hid (St w g r v p x (cur.heap.size :: L) d1 d2 w') :=
  (filled_any x.fill x.len (fm x.len) (fm_int _).symm cur hx.2.2).mono fun e w' ⟨h1, h2, h3⟩ => by
    have hs := h.on h3.out
    refine ⟨h1, Lib.hid ⟨hs.disk, hs.ref, fun b hb => ?_, hs.box, hs.ge, hs.below⟩⟩
    rcases List.mem_cons.1 hb with e | e
    · rw [e]; exact h2.out
    · exact hs.each b e
theorem St.write (h : St w g r v p x L d1 d2 cur) {b : Nat} (hb : b ∈ L) :
    Calls Try.prog 21 #[.pointer (some ⟨g, 0, none⟩), .int .i64 x.i, .slice (some ⟨b, 0, none⟩) (fm x.len) (fm x.len)] cur fun e w' => e = .returned (.int .i64 (DK.werr d1 x.i (fm x.len))) ∧ Hid (St w g r v p x L (DK.written d1 x.i (fl x.fill (fm x.len))) d2 w') := by
  have hw := h.each b hb
  have := Write_any h.disk x.i _ (fl x.fill (fm x.len)) (fm x.len) (Whole.reads hw) (fl_bytes hw h.disk)
  rw [fl_len] at this
  refine this.mono fun e w' ⟨h1, h2, h3⟩ => ⟨h1, Lib.hid ?_⟩
  obtain ⟨cs, hc, _⟩ := h.disk.ex
  exact ⟨h2.out, h.ref.disk h.disk h3.out, fun b' hb' => h3.out.whole (h.each b' hb') (fun hx => Whole.ne (h.each b' hb') hc (by decide) (List.mem_singleton.1 hx)), h3.out.whole h.box (fun hx => Whole.ne h.box hc (by decide) (List.mem_singleton.1 hx)), h.ge, below_g h.below h3.out h.ge⟩
theorem St.refWrite (h : St w g r v p x L d1 d2 cur) (hs : DK.Sound d2) {b : Nat} (hb : b ∈ L) :
    Calls Try.prog 23 #[.pointer (some ⟨r, 0, none⟩), .int .i64 x.i, .slice (some ⟨b, 0, none⟩) (fm x.len) (fm x.len)] cur fun e w' => e = .returned (.int .i64 (DK.werr d2 x.i (fm x.len))) ∧ Hid (St w g r v p x L d1 (DK.written d2 x.i (fl x.fill (fm x.len))) w') := by
  have hw := h.each b hb
  have := RefWrite_any h.ref hs x.i (some ⟨b, 0, none⟩) (fl x.fill (fm x.len)) (fm x.len) (by rw [fl_len]; exact Nat.le_refl _) (Whole.reads hw) (fun ad e hx => by
    injection e with e
    subst e
    exact Whole.ne hw h.ref.box (by decide) hx) h.below.size
  rw [fl_len] at this
  refine this.mono fun e w' ⟨h1, h2, h3⟩ => ⟨h1, Lib.hid ?_⟩
  obtain ⟨hh, k1, _⟩ := h.ref.row
  have out : ∀ {b' : Nat} {t : TypeId} {cs : Array Value}, Whole cur b' t cs → t ≠ 45 → t ≠ 35 → b' ∉ refF r v := fun hb' n1 n2 hx => by
    rcases List.mem_cons.1 hx with e | e
    · exact Whole.ne hb' h.ref.box n1 e
    · exact own_ne k1 hb' (Ne.symm n2) (by simpa using e)
  exact ⟨h.disk.ref h.ref h3.out, h2.out, fun b' hb' => h3.out.whole (h.each b' hb') (out (h.each b' hb') (by decide) (by decide)), h3.out.whole h.box (out h.box (by decide) (by decide)), h.ge, below_r h.below h.ref h3.out⟩
end
set_option maxRecDepth 100000 in
set_option maxHeartbeats 16000000 in
theorem walk (n : Int) (B : Option Addr) (cap : Nat) (xs : List Op) (w : World) (hn : -9223372036854775808 ≤ n ∧ n ≤ 9223372036854775807) (hM : OpsAt w B xs) (hcap : xs.length ≤ cap) (hcap2 : cap ≤ 140737488351232) :
    Calls Try.prog 4 #[.int .i64 n, .slice B xs.length cap] w (LK.True_ w) := by
  have HM := Lib.hid hM
  clear hM
  go_enter Try.func4, Try.ntmps4
  go_wp2_with fail
  refine (awake_any w).mono ?_
  rintro e w1 ⟨rfl, hb⟩
  by_cases hbad : n < 1 ∨ 512 < n
  · go_wp2_with fail
    refine (New_no n w1 hbad hn).mono ?_
    rintro e w2 ⟨rfl, rfl⟩
    go_wp2_with fail
    refine (RefNew_no n w1 hbad hn).mono ?_
    rintro e w2 ⟨rfl, rfl⟩
    go_wp2_with fail
    go_ret
    exact ⟨rfl, hb.out⟩
  obtain ⟨N, rfl⟩ : ∃ N : Nat, n = (N : Int) := ⟨n.toNat, by omega⟩
  have hN : 1 ≤ N ∧ N ≤ 512 := by omega
  clear hbad
  go_wp2_with fail
  refine (New_ok N w1 hN).mono ?_
  rintro e w2 ⟨rfl, hw2⟩
  have HD2 := Lib.hid (show DkAt w2 w1.heap.size (DK.zero N) by rw [hw2]; exact DkAt.zero hN w1)
  have HX2 := Lib.hid (show Below w.heap.size w w2 by rw [hw2]; exact below_on hb.out ((Below.refl _ w1).alloc (Nat.le_refl _) _))
  have HG := Lib.hid (show w.heap.size ≤ w1.heap.size from hb.out.size)
  clear hw2 hb
  go_wp2_with fail
  refine (RefNew_ok N w2 hN).mono ?_
  rintro e w3 ⟨rfl, hR, hb⟩
  obtain ⟨v, hv⟩ := hR.out
  have HP := Lib.hid (show Pl w w1.heap.size w2.heap.size v (DK.zero N) w3 from ⟨HD2.out.below hb.out, RefAt.low hv HX2.out.size, HG.out, below_on HX2.out hb.out⟩)
  clear hR hv hb HD2 HX2 HG
  generalize w1.heap.size = g at HP ⊢
  generalize w2.heap.size = r at HP ⊢
  go_wp2_with fail
  go_loopw [41] (fun i wr => ∃ (k : Nat) (d : Dk), i = .int .i64 (k : Int) ∧ k ≤ xs.length ∧ Hid (Pl w g r v d wr)) (fun i _ => xs.length - (intOf i).toNat)
  case atStart => exact ⟨0, _, rfl, Nat.zero_le _, HP⟩
  case round =>
    clear HP
    obtain ⟨k, d, rfl, hk, HP⟩ := hrel
    by_cases hlt : k < xs.length
    · obtain ⟨b, o, eB, hb, hca⟩ := (HM.out.below HP.out.below) (by omega)
      subst eB
      obtain ⟨hop, o0, o1, o2, o3⟩ := hca k _ (List.getElem?_eq_getElem hlt)
      generalize xs[k] = x at hop o0 o1 o2 o3
      have HOP := Lib.hid hop
      clear hca hop
      go_upto_region 12 with (fail)
      have HW := Lib.hid (Whole.new wr 34 (opCells x))
      have HA := Lib.hid ((Below.refl _ wr).alloc (Nat.le_refl _) (.cells (opCells x) 34))
      unfold opCells at HW HA
      generalize wr.alloc (.cells #[.int .i64 x.kind, .int .i64 x.i, .int .u8 (x.fill.toNat : Int), .int .i64 x.len] 34) = w4 at HW HA ⊢
      generalize wr.heap.size = p at HW ⊢
      have HP4 := Lib.hid (HP.out.on HA.out)
      clear HP HA o0 o1 o2 o3
      have q1 : w4.cell? ⟨p, 1, none⟩ = some (.int .i64 x.i) := HW.out.cell 1
      have q0 : w4.cell? ⟨p, 0, none⟩ = some (.int .i64 x.kind) := HW.out.cell 0
      by_cases k1 : x.kind = 1
      · rw [k1] at q0
        clear k1
        -- BEGIN
        go_wp2_with fail
        refine (Read_any HP4.out.disk x.i).mono ?_
        rintro e w5 ⟨A5, c5, rfl, hB5, hb5⟩
        have HP5 := Lib.hid (HP4.out.on hb5.out)
        have q1' : w5.cell? ⟨p, 1, none⟩ = some (.int .i64 x.i) := ((Mod.of_below hb5.out []).whole HW.out (by simp)).cell 1
        clear q0 q1
        go_wp2_with fail
        refine (RefRead_any HP5.out.ref HP5.out.disk.ok x.i HOP.out.2.1).mono ?_
        rintro e w6 ⟨A6, c6, rfl, hB6, hb6⟩
        have HPE := Lib.hid (HP5.out.on hb6.out)
        have hcv1 := By.str_of (c := c5) (hB5.out.below hb6.out)
        have hcv2 := By.str_of (c := c6) hB6.out
        clear q1' hB5 hB6 hb6 hb5 HP4 HP5 HW HOP
        generalize DK.got d x.i = y at hcv1 hcv2 ⊢
        generalize DK.rerr d x.i = z
        go_wp2_with fail
        clear hcv1 hcv2
        obtain ⟨wt, rfl⟩ : ∃ y, y = w6 := ⟨_, rfl⟩
        obtain ⟨dt, HPT⟩ : ∃ dt, Hid (Pl w g r v dt wt) := ⟨_, HPE⟩
        clear HPE
        obtain ⟨AT, cT, hvT, _⟩ := HPT.out.ref.rows HPT.out.disk.ok
        subst hvT
        have HPD := Lib.hid (HPT.out.on (Below.drew (Below.refl _ wt)))
        have HS := And.intro (show wt.drew.cell? ⟨r, 0, none⟩ = some (.slice AT dt.ss.length cT) from HPT.out.ref.cells.1) (And.intro (show wt.drew.cell? ⟨r, 1, none⟩ = some (.int .i64 dt.wr) from HPT.out.ref.cells.2.1) (show wt.drew.cell? ⟨r, 3, none⟩ = some (.bool dt.off) from HPT.out.ref.cells.2.2.2))
        go_region_held3 (fun y : World => y.cell? ⟨r, 0, none⟩ = some (.slice AT dt.ss.length cT) ∧ y.cell? ⟨r, 1, none⟩ = some (.int .i64 dt.wr) ∧ y.cell? ⟨r, 3, none⟩ = some (.bool dt.off))
          (first
            | exact HS
            | (go_keep; done))
          (first
            | (go_at_call 24; refine (Writes_any HPD.out.disk).mono ?_; rintro e y ⟨rfl, rfl⟩)
            | (go_at_call 25; refine (Off_any HPD.out.disk).mono ?_; rintro e y ⟨rfl, rfl⟩)
            | (go_at_call 11; refine (Len_any HPD.out.disk).mono ?_; rintro e y ⟨rfl, rfl⟩))
        all_goals
          go_wp2_with fail
          go_roundw
          case rel => exact ⟨k + 1, dt, rfl, hlt, HPD⟩
          case measure => simp only [intOf]; omega
        -- END
      by_cases k2 : x.kind = 2
      · rw [k2] at q0
        clear k1 k2
        -- BEGIN
        go_wp2_with fail
        refine (Arm_any HP4.out.disk x.i HOP.out.2.1).mono ?_
        rintro e w5 ⟨rfl, hd5, hm5⟩
        have HD5 := Lib.hid hd5
        have HM5 := Lib.hid hm5
        have q1' : w5.cell? ⟨p, 1, none⟩ = some (.int .i64 x.i) := (hm5.whole HW.out (fun hx => by obtain ⟨cs, hc, _⟩ := HP4.out.disk.ex; exact Whole.ne HW.out hc (by decide) (List.mem_singleton.1 hx))).cell 1
        clear q0 q1 hd5 hm5
        go_wp2_with fail
        refine (RefArm_any (HP4.out.ref.disk HP4.out.disk HM5.out) x.i HOP.out.2.1).mono ?_
        rintro e w6 ⟨rfl, hR6, hm6⟩
        have HPE := Lib.hid (HP4.out.both HD5.out HM5.out hR6.out hm6.out)
        clear q1' hR6 hm6 HD5 HM5 HP4 HW HOP
        go_wp2_with fail
        obtain ⟨wt, rfl⟩ : ∃ y, y = w6 := ⟨_, rfl⟩
        obtain ⟨dt, HPT⟩ : ∃ dt, Hid (Pl w g r v dt wt) := ⟨_, HPE⟩
        clear HPE
        obtain ⟨AT, cT, hvT, _⟩ := HPT.out.ref.rows HPT.out.disk.ok
        subst hvT
        have HPD := Lib.hid (HPT.out.on (Below.drew (Below.refl _ wt)))
        have HS := And.intro (show wt.drew.cell? ⟨r, 0, none⟩ = some (.slice AT dt.ss.length cT) from HPT.out.ref.cells.1) (And.intro (show wt.drew.cell? ⟨r, 1, none⟩ = some (.int .i64 dt.wr) from HPT.out.ref.cells.2.1) (show wt.drew.cell? ⟨r, 3, none⟩ = some (.bool dt.off) from HPT.out.ref.cells.2.2.2))
        go_region_held3 (fun y : World => y.cell? ⟨r, 0, none⟩ = some (.slice AT dt.ss.length cT) ∧ y.cell? ⟨r, 1, none⟩ = some (.int .i64 dt.wr) ∧ y.cell? ⟨r, 3, none⟩ = some (.bool dt.off))
          (first
            | exact HS
            | (go_keep; done))
          (first
            | (go_at_call 24; refine (Writes_any HPD.out.disk).mono ?_; rintro e y ⟨rfl, rfl⟩)
            | (go_at_call 25; refine (Off_any HPD.out.disk).mono ?_; rintro e y ⟨rfl, rfl⟩)
            | (go_at_call 11; refine (Len_any HPD.out.disk).mono ?_; rintro e y ⟨rfl, rfl⟩))
        all_goals
          go_wp2_with fail
          go_roundw
          case rel => exact ⟨k + 1, dt, rfl, hlt, HPD⟩
          case measure => simp only [intOf]; omega
        -- END
      by_cases k3 : x.kind = 3
      · rw [k3] at q0
        clear k1 k2 k3
        -- BEGIN
        go_wp2_with fail
        refine (On_any HP4.out.disk).mono ?_
        rintro e w5 ⟨rfl, hd5, hm5⟩
        have HD5 := Lib.hid hd5
        have HM5 := Lib.hid hm5
        clear q0 q1 hd5 hm5
        go_wp2_with fail
        refine (RefOn_any (HP4.out.ref.disk HP4.out.disk HM5.out)).mono ?_
        rintro e w6 ⟨rfl, hR6, hm6⟩
        have HPE := Lib.hid (HP4.out.both HD5.out HM5.out hR6.out hm6.out)
        clear hR6 hm6 HD5 HM5 HP4 HW HOP
        go_wp2_with fail
        obtain ⟨wt, rfl⟩ : ∃ y, y = w6 := ⟨_, rfl⟩
        obtain ⟨dt, HPT⟩ : ∃ dt, Hid (Pl w g r v dt wt) := ⟨_, HPE⟩
        clear HPE
        obtain ⟨AT, cT, hvT, _⟩ := HPT.out.ref.rows HPT.out.disk.ok
        subst hvT
        have HPD := Lib.hid (HPT.out.on (Below.drew (Below.refl _ wt)))
        have HS := And.intro (show wt.drew.cell? ⟨r, 0, none⟩ = some (.slice AT dt.ss.length cT) from HPT.out.ref.cells.1) (And.intro (show wt.drew.cell? ⟨r, 1, none⟩ = some (.int .i64 dt.wr) from HPT.out.ref.cells.2.1) (show wt.drew.cell? ⟨r, 3, none⟩ = some (.bool dt.off) from HPT.out.ref.cells.2.2.2))
        go_region_held3 (fun y : World => y.cell? ⟨r, 0, none⟩ = some (.slice AT dt.ss.length cT) ∧ y.cell? ⟨r, 1, none⟩ = some (.int .i64 dt.wr) ∧ y.cell? ⟨r, 3, none⟩ = some (.bool dt.off))
          (first
            | exact HS
            | (go_keep; done))
          (first
            | (go_at_call 24; refine (Writes_any HPD.out.disk).mono ?_; rintro e y ⟨rfl, rfl⟩)
            | (go_at_call 25; refine (Off_any HPD.out.disk).mono ?_; rintro e y ⟨rfl, rfl⟩)
            | (go_at_call 11; refine (Len_any HPD.out.disk).mono ?_; rintro e y ⟨rfl, rfl⟩))
        all_goals
          go_wp2_with fail
          go_roundw
          case rel => exact ⟨k + 1, dt, rfl, hlt, HPD⟩
          case measure => simp only [intOf]; omega
        -- END
      by_cases k4 : x.kind = 4
      · rw [k4] at q0
        clear k1 k2 k3 k4
        -- BEGIN
        go_wp2_with fail
        clear q0 q1
        obtain ⟨AI, cI, hvI, hrI⟩ := HP4.out.ref.rows HP4.out.disk.ok
        have HVI := Lib.hid hvI
        clear hvI
        have HRD := Lib.hid (show RowsAt w4.drew AI d.ss from hrI.below (Below.drew (Below.refl _ w4)))
        have HPD := Lib.hid (HP4.out.on (Below.drew (Below.refl _ w4)))
        have HS : w4.drew.cell? ⟨r, 0, none⟩ = some (.slice AI d.ss.length cI) := by rw [← HVI.out]; exact HP4.out.ref.cells.1
        have HLE := Lib.hid (show d.ss.length ≤ 9223372036854775807 by have := HP4.out.disk.ok.le; omega)
        clear hrI HP4 HW HOP
        go_cut [117] (fun s wx => s = .bool false ∧ Hid (Pl w g r v d wx))
        case first =>
          go_region_held3 (fun y : World => y.cell? ⟨r, 0, none⟩ = some (.slice AI d.ss.length cI))
            (first
              | exact HS
              | (go_keep; done))
            (first
              | (go_at_call 20; refine (Image_any HPD.out.disk).mono ?_; rintro e y ⟨rfl, hI⟩; have HRI := Lib.hid (hI.out.rows HPD.out.disk.ok.len); have HRR := Lib.hid (HRD.out.below hI.out.below); replace HPD := Lib.hid (HPD.out.on hI.out.below); clear hI; replace HS := (HPD.out.ref.cells.1.trans (congrArg some HVI.out)))
              | (go_at_call 19; refine (Same_any d.ss d.ss _ AI d.ss.length cI _ HRI.out HRR.out HLE.out).mono ?_; rintro e y ⟨rfl, hI⟩; rw [decide_eq_true (rfl : d.ss = d.ss)]; replace HPD := Lib.hid (HPD.out.on hI.out); clear hI; replace HS := (HPD.out.ref.cells.1.trans (congrArg some HVI.out))))
          all_goals
            go_wp2_with fail
            go_meet
            exact ⟨rfl, HPD⟩
        case rest =>
          obtain ⟨rfl, HPE⟩ := hcut
          clear HPD HRD HS
          go_wp2_with fail
          obtain ⟨wt, rfl⟩ : ∃ y, y = wc := ⟨_, rfl⟩
          obtain ⟨dt, HPT⟩ : ∃ dt, Hid (Pl w g r v dt wt) := ⟨_, HPE⟩
          clear HPE
          obtain ⟨AT, cT, hvT, _⟩ := HPT.out.ref.rows HPT.out.disk.ok
          subst hvT
          have HPD := Lib.hid (HPT.out.on (Below.drew (Below.refl _ wt)))
          have HS := And.intro (show wt.drew.cell? ⟨r, 0, none⟩ = some (.slice AT dt.ss.length cT) from HPT.out.ref.cells.1) (And.intro (show wt.drew.cell? ⟨r, 1, none⟩ = some (.int .i64 dt.wr) from HPT.out.ref.cells.2.1) (show wt.drew.cell? ⟨r, 3, none⟩ = some (.bool dt.off) from HPT.out.ref.cells.2.2.2))
          go_region_held3 (fun y : World => y.cell? ⟨r, 0, none⟩ = some (.slice AT dt.ss.length cT) ∧ y.cell? ⟨r, 1, none⟩ = some (.int .i64 dt.wr) ∧ y.cell? ⟨r, 3, none⟩ = some (.bool dt.off))
            (first
              | exact HS
              | (go_keep; done))
            (first
              | (go_at_call 24; refine (Writes_any HPD.out.disk).mono ?_; rintro e y ⟨rfl, rfl⟩)
              | (go_at_call 25; refine (Off_any HPD.out.disk).mono ?_; rintro e y ⟨rfl, rfl⟩)
              | (go_at_call 11; refine (Len_any HPD.out.disk).mono ?_; rintro e y ⟨rfl, rfl⟩))
          all_goals
            go_wp2_with fail
            go_roundw
            case rel => exact ⟨k + 1, dt, rfl, hlt, HPD⟩
            case measure => simp only [intOf]; omega
        -- END
      have e1 : (x.kind == 1) = false := by simpa using k1
      have e2 : (x.kind == 2) = false := by simpa using k2
      have e3 : (x.kind == 3) = false := by simpa using k3
      have e4 : (x.kind == 4) = false := by simpa using k4
      clear k1 k2 k3 k4
      have HSD := Lib.hid (show St w g r v p x [] d d w4.drew from ⟨HP4.out.disk.below (Below.drew (Below.refl _ w4)), HP4.out.ref.below (Below.drew (Below.refl _ w4)), fun b hb => absurd hb List.not_mem_nil, HW.out, HP4.out.ge, HP4.out.below.drew⟩)
      -- BEGIN
      go_wp2_with fail
      clear q0 q1
      have HS := HSD.out.cells
      go_cut [65] (fun s wx => s = .bool false ∧ Hid (Pl w g r v (DK.written d x.i (fl x.fill (fm x.len))) wx))
      case first =>
        go_region_held3 (fun y : World => y.cell? ⟨p, 1, none⟩ = some (.int .i64 x.i) ∧ y.cell? ⟨p, 2, none⟩ = some (.int .u8 (x.fill.toNat : Int)) ∧ y.cell? ⟨p, 3, none⟩ = some (.int .i64 x.len))
          (first
            | exact HS
            | (go_keep; done))
          (first
            | (go_at_call 22; refine (HSD.out.filled HOP.out).mono ?_; rintro e y ⟨rfl, hs⟩; replace HSD := Lib.hid hs.out; clear hs; replace HS := HSD.out.cells)
            | (go_at_call 21; refine (HSD.out.write (by first | exact List.mem_cons_self | exact List.mem_cons_of_mem _ List.mem_cons_self)).mono ?_; rintro e y ⟨rfl, hs⟩; replace HSD := Lib.hid hs.out; clear hs; replace HS := HSD.out.cells)
            | (go_at_call 23; refine (HSD.out.refWrite HP4.out.disk.ok (by first | exact List.mem_cons_self | exact List.mem_cons_of_mem _ List.mem_cons_self)).mono ?_; rintro e y ⟨rfl, hs⟩; replace HSD := Lib.hid hs.out; clear hs; replace HS := HSD.out.cells))
        all_goals
          go_wp2_with fail
          go_meet
          exact ⟨rfl, Lib.hid ⟨HSD.out.disk, HSD.out.ref, HSD.out.ge, HSD.out.below⟩⟩
      case rest =>
        obtain ⟨rfl, HPE⟩ := hcut
        clear HSD HS HW HOP HP4 e1 e2 e3 e4
        go_wp2_with fail
        obtain ⟨wt, rfl⟩ : ∃ y, y = wc := ⟨_, rfl⟩
        obtain ⟨dt, HPT⟩ : ∃ dt, Hid (Pl w g r v dt wt) := ⟨_, HPE⟩
        clear HPE
        obtain ⟨AT, cT, hvT, _⟩ := HPT.out.ref.rows HPT.out.disk.ok
        subst hvT
        have HPD := Lib.hid (HPT.out.on (Below.drew (Below.refl _ wt)))
        have HS := And.intro (show wt.drew.cell? ⟨r, 0, none⟩ = some (.slice AT dt.ss.length cT) from HPT.out.ref.cells.1) (And.intro (show wt.drew.cell? ⟨r, 1, none⟩ = some (.int .i64 dt.wr) from HPT.out.ref.cells.2.1) (show wt.drew.cell? ⟨r, 3, none⟩ = some (.bool dt.off) from HPT.out.ref.cells.2.2.2))
        go_region_held3 (fun y : World => y.cell? ⟨r, 0, none⟩ = some (.slice AT dt.ss.length cT) ∧ y.cell? ⟨r, 1, none⟩ = some (.int .i64 dt.wr) ∧ y.cell? ⟨r, 3, none⟩ = some (.bool dt.off))
          (first
            | exact HS
            | (go_keep; done))
          (first
            | (go_at_call 24; refine (Writes_any HPD.out.disk).mono ?_; rintro e y ⟨rfl, rfl⟩)
            | (go_at_call 25; refine (Off_any HPD.out.disk).mono ?_; rintro e y ⟨rfl, rfl⟩)
            | (go_at_call 11; refine (Len_any HPD.out.disk).mono ?_; rintro e y ⟨rfl, rfl⟩))
        all_goals
          go_wp2_with fail
          go_roundw
          case rel => exact ⟨k + 1, dt, rfl, hlt, HPD⟩
          case measure => simp only [intOf]; omega
      -- END
    · have hkk := hk
      -- BEGIN
      go_wp2_with fail
      obtain ⟨AI, cI, hvI, hrI⟩ := HP.out.ref.rows HP.out.disk.ok
      subst hvI
      have HRD := Lib.hid (show RowsAt wr.drew AI d.ss from hrI.below (Below.drew (Below.refl _ wr)))
      have HPD := Lib.hid (HP.out.on (Below.drew (Below.refl _ wr)))
      have HS := show wr.drew.cell? ⟨r, 0, none⟩ = some (.slice AI d.ss.length cI) from HP.out.ref.cells.1
      have HLE := Lib.hid (show d.ss.length ≤ 9223372036854775807 by have := HP.out.disk.ok.le; omega)
      clear hrI HP
      go_region_held3 (fun y : World => y.cell? ⟨r, 0, none⟩ = some (.slice AI d.ss.length cI))
        (first
          | exact HS
          | (go_keep; done))
        (first
          | (go_at_call 20; refine (Image_any HPD.out.disk).mono ?_; rintro e y ⟨rfl, hI⟩; have HRI := Lib.hid (hI.out.rows HPD.out.disk.ok.len); have HRR := Lib.hid (HRD.out.below hI.out.below); replace HPD := Lib.hid (HPD.out.on hI.out.below); clear hI; replace HS := HPD.out.ref.cells.1)
          | (go_at_call 19; refine (Same_any d.ss d.ss _ AI d.ss.length cI _ HRI.out HRR.out HLE.out).mono ?_; rintro e y ⟨rfl, hI⟩; rw [decide_eq_true (rfl : d.ss = d.ss)]; replace HPD := Lib.hid (HPD.out.on hI.out); clear hI; replace HS := HPD.out.ref.cells.1))
      all_goals
        go_wp2_with fail
        go_ret
        exact ⟨rfl, HPD.out.below⟩
      -- END

end Go.Proofs.Ytdagmkkkiaacoaa.lawDiskPlays
