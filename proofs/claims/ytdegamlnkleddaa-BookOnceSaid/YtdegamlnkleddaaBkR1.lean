/- Two books: the document's call. -/
import Derived.Test.YtdegamlnkleddaaBkW32
import Derived.Test.YtdegamlnkleddaaBkW12
namespace Go.Proofs.Ytdegamlnkleddaa
open Go.RowKit
open BM (Gr Rc Bk g0 r0 b0)
set_option linter.unusedVariables false
set_option linter.unusedSimpArgs false
set_option maxRecDepth 100000
/-- What Apply leaves is of 64 bits. -/
theorem in_ok {c : Bk} (h : BM.okBk c = true) : In64 c.next ∧ In64 c.boots ∧ In64 c.longest := by
  obtain ⟨p1, p2, p3, _, _⟩ := BM.okBk_parts h
  refine ⟨by unfold In64; omega, by unfold In64; omega, ?_⟩
  rcases p3 with e | e
  · rw [e]; unfold In64; omega
  · have := BM.legal_rng e; unfold In64; omega
theorem same_neq {x y : Int} (h : ¬ x = y) : (x != y) = true := by simpa using h
set_option maxHeartbeats 8000000 in
theorem r_Same (u v : Value) (a b : Bk) (w : World) (hA : FitB w u a) (hB : FitB w v b) :
    Calls Try.prog 16 #[.agg (four a u), .agg (four b v)] w fun e w' => e = .returned (.bool (decide (a = b))) ∧ Below w.heap.size w w' := by
  obtain ⟨AA, ca, hu, hga, hca, hcam, _⟩ := hA.gs
  obtain ⟨AB, cb, hv, hgb, hcb, hcbm, _⟩ := hB.gs
  subst hu hv
  have HX := Lib.hid (((Below.refl _ w).alloc (Nat.le_refl _) (.cells (four a (.slice AA a.gs.length ca)) 25)).alloc (by simp) (.cells (four b (.slice AB b.gs.length cb)) 25))
  have HA := Lib.hid (hga.below HX.out)
  have HB := Lib.hid (hgb.below HX.out)
  have HKA := Lib.hid ((Whole.new w 25 (four a (.slice AA a.gs.length ca))).alloc (.cells (four b (.slice AB b.gs.length cb)) 25))
  have HKB := Lib.hid (show Whole ((w.alloc (.cells (four a (.slice AA a.gs.length ca)) 25)).alloc (.cells (four b (.slice AB b.gs.length cb)) 25)) (w.heap.size + 1) 25 (four b (.slice AB b.gs.length cb)) from by have h := Whole.new (w.alloc (.cells (four a (.slice AA a.gs.length ca)) 25)) 25 (four b (.slice AB b.gs.length cb)); have e : (w.alloc (.cells (four a (.slice AA a.gs.length ca)) 25)).heap.size = w.heap.size + 1 := (by simp); rw [e] at h; exact h)
  clear hA hB hga hgb
  go_enter Try.func16, Try.ntmps16
  generalize hw0 : ((w.alloc (.cells (four a (.slice AA a.gs.length ca)) 25)).alloc (.cells (four b (.slice AB b.gs.length cb)) 25)) = w0 at HX HA HB HKA HKB
  obtain ⟨a0, a1, a2, a3⟩ := four_cells HKA.out
  obtain ⟨b0, b1, b2, b3⟩ := four_cells HKB.out

  go_upto_region 1 with (fail)
  try rw [hw0]
  by_cases e0 : a.next = b.next
  rotate_left
  · have HN := Lib.hid (show ¬ a = b from fun e => e0 (by rw [e]))
    have d0 := same_neq e0
    go_wp2_with fail
    go_ret
    exact bools (decide_eq_false HN.out).symm HX.out
  rw [← e0] at b0
  have E0 := Lib.hid e0
  clear e0
  by_cases e1 : a.boots = b.boots
  rotate_left
  · have HN := Lib.hid (show ¬ a = b from fun e => e1 (by rw [e]))
    have d1 := same_neq e1
    go_wp2_with fail
    go_ret
    exact bools (decide_eq_false HN.out).symm HX.out
  rw [← e1] at b1
  have E1 := Lib.hid e1
  clear e1
  by_cases e2 : a.longest = b.longest
  rotate_left
  · have HN := Lib.hid (show ¬ a = b from fun e => e2 (by rw [e]))
    have d2 := same_neq e2
    go_wp2_with fail
    go_ret
    exact bools (decide_eq_false HN.out).symm HX.out
  rw [← e2] at b2
  have E2 := Lib.hid e2
  clear e2
  by_cases e3 : a.gs.length = b.gs.length
  rotate_left
  · have HN := Lib.hid (show ¬ a = b from fun e => e3 (by rw [e]))
    have d3 : ((a.gs.length : Int) != (b.gs.length : Int)) = true := same_neq (by omega)
    have d3' : ¬ ((a.gs.length : Int) = (b.gs.length : Int)) := by omega
    go_wp2_with fail
    go_ret
    exact bools (decide_eq_false HN.out).symm HX.out
  obtain ⟨n, hn⟩ : ∃ n, n = a.gs.length := ⟨_, rfl⟩
  have HNA := Lib.hid hn.symm
  have HNB := Lib.hid (show b.gs.length = n by omega)
  rw [← e3, ← hn] at b3
  rw [← hn] at a3 hca
  have hcb' : n ≤ cb := by omega
  rw [← e3, ← hn] at HKB
  rw [← hn] at HKA
  clear e3 hn hcb
  go_wp2_with fail
  go_loopw [5] (fun i wx => ∃ k : Nat, i = .int .i64 (k : Int) ∧ k ≤ n ∧ Hid (Below w0.heap.size w0 wx) ∧ Hid (a.gs.take k = b.gs.take k)) (fun i _ => n - (intOf i).toNat)
  case atStart => exact ⟨0, rfl, Nat.zero_le _, Lib.hid (Below.refl _ _), Lib.hid (by rw [List.take_zero, List.take_zero])⟩
  case round =>
    obtain ⟨k, rfl, hk, HW, HT⟩ := hrel
    clear a0 a1 a2 b0 b1 b2
    have a3' : wr.cell? ⟨w.heap.size, 3, none⟩ = some (.slice AA n ca) := ((Mod.of_below HW.out []).whole HKA.out (by simp)).cell 3
    by_cases hlt : k < n
    · have hla : k < a.gs.length := by rw [HNA.out]; exact hlt
      have hlb : k < b.gs.length := by rw [HNB.out]; exact hlt
      have HLA := Lib.hid hla
      have HLB := Lib.hid hlb
      obtain ⟨ba, oa, eA, hza, hca'⟩ := (HA.out.below HW.out) (by omega)
      obtain ⟨bb, ob, eB, hzb, hcb''⟩ := (HB.out.below HW.out) (by omega)
      subst eA eB
      obtain ⟨Ax, cx, hxa, hfa⟩ := (hca' k a.gs[k] (List.getElem?_eq_getElem hla)).open_
      obtain ⟨Ay, cy, hxb, hfb⟩ := (hcb'' k b.gs[k] (List.getElem?_eq_getElem hlb)).open_
      have HZA := Lib.hid hza
      have HZB := Lib.hid hzb
      have HXA := Lib.hid hxa
      have HXB := Lib.hid hxb
      have HFA := Lib.hid hfa
      have HFB := Lib.hid hfb
      have HS := Lib.hid (fun he => take_same HT.out hla hlb he)
      have HN := Lib.hid (fun (he : a.gs[k] ≠ b.gs[k]) => take_not hla hlb he)
      clear hza hzb hxa hxb hfa hfb hca' hcb''
      generalize a.gs[k]'HLA.out = xa at HXA HFA HS HN
      generalize b.gs[k]'HLB.out = xb at HXB HFB HS HN
      have j0 : (0 : Int) ≤ (k : Int) := by omega
      have j1 : (k : Int) < (n : Int) := by omega
      go_upto_region 6 with (fail)
      go_cut [52] (fun s wx => s = .bool (!decide (xa = xb)) ∧ Hid (Below wr.heap.size wr wx))
      case first =>
        have hKeep : ∀ (us : Nat → Value) (wa wb : World), Below wa.heap.size wa wb → ∀ j, known [fun us y => us 0 = .pointer (some ⟨w.heap.size, 3, none⟩), fun us y => us 1 = .slice (some ⟨ba, oa, none⟩) n ca, fun us y => us 2 = .int .i64 (k : Int), fun us y => us 3 = .pointer (some ⟨ba, oa + k * 6, none⟩), fun us y => us 4 = .agg (six xa (.slice Ax xa.stamp.length cx)), fun us y => us 5 = .pointer (some ⟨w.heap.size + 1, 3, none⟩), fun us y => us 6 = .slice (some ⟨bb, ob, none⟩) n cb, fun us y => us 7 = .int .i64 (k : Int), fun us y => us 8 = .pointer (some ⟨bb, ob + k * 6, none⟩), fun us y => us 9 = .agg (six xb (.slice Ay xb.stamp.length cy)), fun us y => us 10 = .bool (decide (xa = xb)), fun us y => us 11 = .bool (!decide (xa = xb))] j us wa → known [fun us y => us 0 = .pointer (some ⟨w.heap.size, 3, none⟩), fun us y => us 1 = .slice (some ⟨ba, oa, none⟩) n ca, fun us y => us 2 = .int .i64 (k : Int), fun us y => us 3 = .pointer (some ⟨ba, oa + k * 6, none⟩), fun us y => us 4 = .agg (six xa (.slice Ax xa.stamp.length cx)), fun us y => us 5 = .pointer (some ⟨w.heap.size + 1, 3, none⟩), fun us y => us 6 = .slice (some ⟨bb, ob, none⟩) n cb, fun us y => us 7 = .int .i64 (k : Int), fun us y => us 8 = .pointer (some ⟨bb, ob + k * 6, none⟩), fun us y => us 9 = .agg (six xb (.slice Ay xb.stamp.length cy)), fun us y => us 10 = .bool (decide (xa = xb)), fun us y => us 11 = .bool (!decide (xa = xb))] j us wb := by
          intro us wa wb hb j h
          match j, h with
          | 0, h => exact h
          | 1, h => exact h
          | 2, h => exact h
          | 3, h => exact h
          | 4, h => exact h
          | 5, h => exact h
          | 6, h => exact h
          | 7, h => exact h
          | 8, h => exact h
          | 9, h => exact h
          | 10, h => exact h
          | 11, h => exact h
          | q + 12, h => exact trivial
        have HKEEP := Lib.hid hKeep
        clear hKeep
        refine region_each (known [fun us y => us 0 = .pointer (some ⟨w.heap.size, 3, none⟩), fun us y => us 1 = .slice (some ⟨ba, oa, none⟩) n ca, fun us y => us 2 = .int .i64 (k : Int), fun us y => us 3 = .pointer (some ⟨ba, oa + k * 6, none⟩), fun us y => us 4 = .agg (six xa (.slice Ax xa.stamp.length cx)), fun us y => us 5 = .pointer (some ⟨w.heap.size + 1, 3, none⟩), fun us y => us 6 = .slice (some ⟨bb, ob, none⟩) n cb, fun us y => us 7 = .int .i64 (k : Int), fun us y => us 8 = .pointer (some ⟨bb, ob + k * 6, none⟩), fun us y => us 9 = .agg (six xb (.slice Ay xb.stamp.length cy)), fun us y => us 10 = .bool (decide (xa = xb)), fun us y => us 11 = .bool (!decide (xa = xb))]) (fun y => Below wr.heap.size wr y) (fun y => True) [] [[], [0], [], [0, 1, 2], [0, 1, 2, 3], [], [5], [], [5, 6, 7], [5, 6, 7, 8], [0, 1, 2, 3, 4, 5, 6, 7, 8, 9], [0, 1, 2, 3, 4, 5, 6, 7, 8, 9, 10]] (by
          intro j us us' y h hF
          match j, h, hF with
          | 0, h, hF => (have hF : us 0 = .pointer (some ⟨w.heap.size, 3, none⟩) := hF; rw [h 0 (.inl rfl)] at hF; exact hF)
          | 1, h, hF => (have hF : us 1 = .slice (some ⟨ba, oa, none⟩) n ca := hF; rw [h 1 (.inl rfl)] at hF; exact hF)
          | 2, h, hF => (have hF : us 2 = .int .i64 (k : Int) := hF; rw [h 2 (.inl rfl)] at hF; exact hF)
          | 3, h, hF => (have hF : us 3 = .pointer (some ⟨ba, oa + k * 6, none⟩) := hF; rw [h 3 (.inl rfl)] at hF; exact hF)
          | 4, h, hF => (have hF : us 4 = .agg (six xa (.slice Ax xa.stamp.length cx)) := hF; rw [h 4 (.inl rfl)] at hF; exact hF)
          | 5, h, hF => (have hF : us 5 = .pointer (some ⟨w.heap.size + 1, 3, none⟩) := hF; rw [h 5 (.inl rfl)] at hF; exact hF)
          | 6, h, hF => (have hF : us 6 = .slice (some ⟨bb, ob, none⟩) n cb := hF; rw [h 6 (.inl rfl)] at hF; exact hF)
          | 7, h, hF => (have hF : us 7 = .int .i64 (k : Int) := hF; rw [h 7 (.inl rfl)] at hF; exact hF)
          | 8, h, hF => (have hF : us 8 = .pointer (some ⟨bb, ob + k * 6, none⟩) := hF; rw [h 8 (.inl rfl)] at hF; exact hF)
          | 9, h, hF => (have hF : us 9 = .agg (six xb (.slice Ay xb.stamp.length cy)) := hF; rw [h 9 (.inl rfl)] at hF; exact hF)
          | 10, h, hF => (have hF : us 10 = .bool (decide (xa = xb)) := hF; rw [h 10 (.inl rfl)] at hF; exact hF)
          | 11, h, hF => (have hF : us 11 = .bool (!decide (xa = xb)) := hF; rw [h 11 (.inl rfl)] at hF; exact hF)
          | q + 12, h, hF => exact trivial) (by kernel_rfl) rfl (by kernel_rfl) (by exact (Below.refl _ _).drew) (trivial) (Z := fun vs => Act.put (Act.put (Act.put (Act.put (Act.put (Act.put (Act.put (Act.put (Act.put (Act.put (Act.put (Act.put (_) (some 41) (vs 0)) (some 42) (vs 1)) (some 43) (vs 2)) (some 44) (vs 3)) (some 45) (vs 4)) (some 46) (vs 5)) (some 47) (vs 6)) (some 48) (vs 7)) (some 49) (vs 8)) (some 50) (vs 9)) (some 51) (vs 10)) (some 52) (vs 11)) (fun _ => rfl) ?_ ?_
        · skip
          refine EachAll.snoc (i := 11) (o := { dst := some 52, op := Op.unOp UnOp.not 4 (Operand.tmp 51), type := 4, pos := _, after := #[{ on := 10, ground := Ground.data }], guard := none }) (l := [0, 1, 2, 3, 4, 5, 6, 7, 8, 9, 10]) (A := fun vs => Act.put (Act.put (Act.put (Act.put (Act.put (Act.put (Act.put (Act.put (Act.put (Act.put (Act.put (_) (some 51) (vs 10)) (some 50) (vs 9)) (some 49) (vs 8)) (some 48) (vs 7)) (some 47) (vs 6)) (some 46) (vs 5)) (some 45) (vs 4)) (some 44) (vs 3)) (some 43) (vs 2)) (some 42) (vs 1)) (some 41) (vs 0)) ?_ rfl rfl (fun _ => rfl) ?_
          rotate_left
          · intro vs y hI hJ hA K hK
            have hB := hI
            clear hJ
            have e10 : vs 10 = .bool (decide (xa = xb)) := hA 10 (by decide)
            clear hA
            refine Box.mk ?_
            try simp only [e10, allPut, puts, Act.put, List.setIfInBounds_toArray, List.set_cons_zero, List.set_cons_succ] at hK ⊢
            go_simp
            exact hK.out _ _ hB (show (updv vs 11 _) 11 = .bool (!decide (xa = xb)) from rfl) (fun _ _ _ h => h) (fun _ h => h)
          refine EachAll.snoc (i := 10) (o := { dst := some 51, op := Op.call { callee := Callee.value (Operand.func 42), args := #[Operand.tmp 45, Operand.tmp 50], argTypes := #[30, 30] }, type := 4, pos := _, after := #[{ on := 4, ground := Ground.data }, { on := 9, ground := Ground.data }], guard := none }) (l := [0, 1, 2, 3, 4, 5, 6, 7, 8, 9]) (A := fun vs => Act.put (Act.put (Act.put (Act.put (Act.put (Act.put (Act.put (Act.put (Act.put (Act.put (_) (some 50) (vs 9)) (some 49) (vs 8)) (some 48) (vs 7)) (some 47) (vs 6)) (some 46) (vs 5)) (some 45) (vs 4)) (some 44) (vs 3)) (some 43) (vs 2)) (some 42) (vs 1)) (some 41) (vs 0)) ?_ rfl rfl (fun _ => rfl) ?_
          rotate_left
          · intro vs y hI hJ hA K hK
            have hB := hI
            clear hJ
            have e4 : vs 4 = .agg (six xa (.slice Ax xa.stamp.length cx)) := hA 4 (by decide)
            have e9 : vs 9 = .agg (six xb (.slice Ay xb.stamp.length cy)) := hA 9 (by decide)
            clear hA
            refine Box.mk ?_
            try simp only [e4, e9, allPut, puts, Act.put, List.setIfInBounds_toArray, List.set_cons_zero, List.set_cons_succ] at hK ⊢
            go_simp
            with_reducible refine (r_SameGrant (.slice Ax xa.stamp.length cx) (.slice Ay xb.stamp.length cy) xa xb y (HFA.out.hd.below hB) (HFB.out.hd.below hB)).mono ?_
            rintro e w5 ⟨rfl, hb⟩
            go_simp
            exact hK.out _ _ (below_on hB hb) (show (updv vs 10 _) 10 = .bool (decide (xa = xb)) from rfl) (fun j _ _ h => HKEEP.out vs y w5 hb j h) (fun _ h => h)
          refine EachAll.snoc (i := 9) (o := { dst := some 50, op := Op.load 30 (Operand.tmp 49), type := 30, pos := _, after := #[{ on := 8, ground := Ground.data }], guard := none }) (l := [5, 6, 7, 8]) (A := fun vs => Act.put (Act.put (Act.put (Act.put (_) (some 49) (vs 8)) (some 48) (vs 7)) (some 47) (vs 6)) (some 46) (vs 5)) ?_ rfl rfl (fun _ => rfl) ?_
          rotate_left
          · intro vs y hI hJ hA K hK
            have hB := hI
            clear hJ
            have e8 : vs 8 = .pointer (some ⟨bb, ob + k * 6, none⟩) := hA 8 (by decide)
            clear hA
            refine Box.mk ?_
            try simp only [e8, allPut, puts, Act.put, List.setIfInBounds_toArray, List.set_cons_zero, List.set_cons_succ] at hK ⊢
            have x0 := (hB.cell (p := ⟨bb, ob + k * 6, none⟩) HZB.out).trans HXB.out.1
            have x1 := (hB.cell (p := ⟨bb, ob + k * 6 + 1, none⟩) HZB.out).trans HXB.out.2.1
            have x2 := (hB.cell (p := ⟨bb, ob + k * 6 + 2, none⟩) HZB.out).trans HXB.out.2.2.1
            have x3 := (hB.cell (p := ⟨bb, ob + k * 6 + 3, none⟩) HZB.out).trans HXB.out.2.2.2.1
            have x4 := (hB.cell (p := ⟨bb, ob + k * 6 + 4, none⟩) HZB.out).trans HXB.out.2.2.2.2.1
            have x5 := (hB.cell (p := ⟨bb, ob + k * 6 + 5, none⟩) HZB.out).trans HXB.out.2.2.2.2.2
            go_simp
            exact hK.out _ _ hB (show (updv vs 9 _) 9 = .agg (six xb (.slice Ay xb.stamp.length cy)) from rfl) (fun _ _ _ h => h) (fun _ h => h)
          refine EachAll.snoc (i := 8) (o := { dst := some 49, op := Op.indexAddr 23 (Operand.tmp 47) (Operand.tmp 48), type := 0, pos := _, after := #[{ on := 6, ground := Ground.data }, { on := 7, ground := Ground.data }], guard := none }) (l := [5, 6, 7]) (A := fun vs => Act.put (Act.put (Act.put (_) (some 48) (vs 7)) (some 47) (vs 6)) (some 46) (vs 5)) ?_ rfl rfl (fun _ => rfl) ?_
          rotate_left
          · intro vs y hI hJ hA K hK
            have hB := hI
            clear hJ
            have e6 : vs 6 = .slice (some ⟨bb, ob, none⟩) n cb := hA 6 (by decide)
            have e7 : vs 7 = .int .i64 (k : Int) := hA 7 (by decide)
            clear hA
            refine Box.mk ?_
            try simp only [e6, e7, allPut, puts, Act.put, List.setIfInBounds_toArray, List.set_cons_zero, List.set_cons_succ] at hK ⊢
            go_simp
            exact hK.out _ _ hB (show (updv vs 8 _) 8 = .pointer (some ⟨bb, ob + k * 6, none⟩) from rfl) (fun _ _ _ h => h) (fun _ h => h)
          refine EachAll.snoc (i := 7) (o := { dst := some 48, op := Op.move (Operand.tmp 5), type := 3, pos := _, after := #[], guard := none }) (l := []) (A := fun vs => _) ?_ rfl rfl (fun _ => rfl) ?_
          rotate_left
          · intro vs y hI hJ hA K hK
            have hB := hI
            clear hJ
            clear hA
            refine Box.mk ?_
            try simp only [allPut, puts, Act.put, List.setIfInBounds_toArray, List.set_cons_zero, List.set_cons_succ] at hK ⊢
            go_simp
            exact hK.out _ _ hB (show (updv vs 7 _) 7 = .int .i64 (k : Int) from rfl) (fun _ _ _ h => h) (fun _ h => h)
          refine EachAll.snoc (i := 6) (o := { dst := some 47, op := Op.load 23 (Operand.tmp 46), type := 23, pos := _, after := #[{ on := 5, ground := Ground.data }], guard := none }) (l := [5]) (A := fun vs => Act.put (_) (some 46) (vs 5)) ?_ rfl rfl (fun _ => rfl) ?_
          rotate_left
          · intro vs y hI hJ hA K hK
            have hB := hI
            clear hJ
            have e5 : vs 5 = .pointer (some ⟨w.heap.size + 1, 3, none⟩) := hA 5 (by decide)
            clear hA
            refine Box.mk ?_
            try simp only [e5, allPut, puts, Act.put, List.setIfInBounds_toArray, List.set_cons_zero, List.set_cons_succ] at hK ⊢
            have z3 : y.cell? ⟨w.heap.size + 1, 3, none⟩ = some (.slice (some ⟨bb, ob, none⟩) n cb) := ((Mod.of_below (below_on HW.out hB) []).whole HKB.out (by simp)).cell 3
            go_simp
            exact hK.out _ _ hB (show (updv vs 6 _) 6 = .slice (some ⟨bb, ob, none⟩) n cb from rfl) (fun _ _ _ h => h) (fun _ h => h)
          refine EachAll.snoc (i := 5) (o := { dst := some 46, op := Op.fieldAddr 25 (Operand.tmp 3) 3, type := 0, pos := _, after := #[], guard := none }) (l := []) (A := fun vs => _) ?_ rfl rfl (fun _ => rfl) ?_
          rotate_left
          · intro vs y hI hJ hA K hK
            have hB := hI
            clear hJ
            clear hA
            refine Box.mk ?_
            try simp only [allPut, puts, Act.put, List.setIfInBounds_toArray, List.set_cons_zero, List.set_cons_succ] at hK ⊢
            go_simp
            exact hK.out _ _ hB (show (updv vs 5 _) 5 = .pointer (some ⟨w.heap.size + 1, 3, none⟩) from rfl) (fun _ _ _ h => h) (fun _ h => h)
          refine EachAll.snoc (i := 4) (o := { dst := some 45, op := Op.load 30 (Operand.tmp 44), type := 30, pos := _, after := #[{ on := 3, ground := Ground.data }], guard := none }) (l := [0, 1, 2, 3]) (A := fun vs => Act.put (Act.put (Act.put (Act.put (_) (some 44) (vs 3)) (some 43) (vs 2)) (some 42) (vs 1)) (some 41) (vs 0)) ?_ rfl rfl (fun _ => rfl) ?_
          rotate_left
          · intro vs y hI hJ hA K hK
            have hB := hI
            clear hJ
            have e3 : vs 3 = .pointer (some ⟨ba, oa + k * 6, none⟩) := hA 3 (by decide)
            clear hA
            refine Box.mk ?_
            try simp only [e3, allPut, puts, Act.put, List.setIfInBounds_toArray, List.set_cons_zero, List.set_cons_succ] at hK ⊢
            have x0 := (hB.cell (p := ⟨ba, oa + k * 6, none⟩) HZA.out).trans HXA.out.1
            have x1 := (hB.cell (p := ⟨ba, oa + k * 6 + 1, none⟩) HZA.out).trans HXA.out.2.1
            have x2 := (hB.cell (p := ⟨ba, oa + k * 6 + 2, none⟩) HZA.out).trans HXA.out.2.2.1
            have x3 := (hB.cell (p := ⟨ba, oa + k * 6 + 3, none⟩) HZA.out).trans HXA.out.2.2.2.1
            have x4 := (hB.cell (p := ⟨ba, oa + k * 6 + 4, none⟩) HZA.out).trans HXA.out.2.2.2.2.1
            have x5 := (hB.cell (p := ⟨ba, oa + k * 6 + 5, none⟩) HZA.out).trans HXA.out.2.2.2.2.2
            go_simp
            exact hK.out _ _ hB (show (updv vs 4 _) 4 = .agg (six xa (.slice Ax xa.stamp.length cx)) from rfl) (fun _ _ _ h => h) (fun _ h => h)
          refine EachAll.snoc (i := 3) (o := { dst := some 44, op := Op.indexAddr 23 (Operand.tmp 42) (Operand.tmp 43), type := 0, pos := _, after := #[{ on := 1, ground := Ground.data }, { on := 2, ground := Ground.data }], guard := none }) (l := [0, 1, 2]) (A := fun vs => Act.put (Act.put (Act.put (_) (some 43) (vs 2)) (some 42) (vs 1)) (some 41) (vs 0)) ?_ rfl rfl (fun _ => rfl) ?_
          rotate_left
          · intro vs y hI hJ hA K hK
            have hB := hI
            clear hJ
            have e1 : vs 1 = .slice (some ⟨ba, oa, none⟩) n ca := hA 1 (by decide)
            have e2 : vs 2 = .int .i64 (k : Int) := hA 2 (by decide)
            clear hA
            refine Box.mk ?_
            try simp only [e1, e2, allPut, puts, Act.put, List.setIfInBounds_toArray, List.set_cons_zero, List.set_cons_succ] at hK ⊢
            go_simp
            exact hK.out _ _ hB (show (updv vs 3 _) 3 = .pointer (some ⟨ba, oa + k * 6, none⟩) from rfl) (fun _ _ _ h => h) (fun _ h => h)
          refine EachAll.snoc (i := 2) (o := { dst := some 43, op := Op.move (Operand.tmp 5), type := 3, pos := _, after := #[], guard := none }) (l := []) (A := fun vs => _) ?_ rfl rfl (fun _ => rfl) ?_
          rotate_left
          · intro vs y hI hJ hA K hK
            have hB := hI
            clear hJ
            clear hA
            refine Box.mk ?_
            try simp only [allPut, puts, Act.put, List.setIfInBounds_toArray, List.set_cons_zero, List.set_cons_succ] at hK ⊢
            go_simp
            exact hK.out _ _ hB (show (updv vs 2 _) 2 = .int .i64 (k : Int) from rfl) (fun _ _ _ h => h) (fun _ h => h)
          refine EachAll.snoc (i := 1) (o := { dst := some 42, op := Op.load 23 (Operand.tmp 41), type := 23, pos := _, after := #[{ on := 0, ground := Ground.data }], guard := none }) (l := [0]) (A := fun vs => Act.put (_) (some 41) (vs 0)) ?_ rfl rfl (fun _ => rfl) ?_
          rotate_left
          · intro vs y hI hJ hA K hK
            have hB := hI
            clear hJ
            have e0 : vs 0 = .pointer (some ⟨w.heap.size, 3, none⟩) := hA 0 (by decide)
            clear hA
            refine Box.mk ?_
            try simp only [e0, allPut, puts, Act.put, List.setIfInBounds_toArray, List.set_cons_zero, List.set_cons_succ] at hK ⊢
            have z3 : y.cell? ⟨w.heap.size, 3, none⟩ = some (.slice (some ⟨ba, oa, none⟩) n ca) := ((Mod.of_below (below_on HW.out hB) []).whole HKA.out (by simp)).cell 3
            go_simp
            exact hK.out _ _ hB (show (updv vs 1 _) 1 = .slice (some ⟨ba, oa, none⟩) n ca from rfl) (fun _ _ _ h => h) (fun _ h => h)
          refine EachAll.snoc (i := 0) (o := { dst := some 41, op := Op.fieldAddr 25 (Operand.tmp 2) 3, type := 0, pos := _, after := #[], guard := none }) (l := []) (A := fun vs => _) ?_ rfl rfl (fun _ => rfl) ?_
          rotate_left
          · intro vs y hI hJ hA K hK
            have hB := hI
            clear hJ
            clear hA
            refine Box.mk ?_
            try simp only [allPut, puts, Act.put, List.setIfInBounds_toArray, List.set_cons_zero, List.set_cons_succ] at hK ⊢
            go_simp
            exact hK.out _ _ hB (show (updv vs 0 _) 0 = .pointer (some ⟨w.heap.size, 3, none⟩) from rfl) (fun _ _ _ h => h) (fun _ h => h)
          exact EachAll.nil
        · intro vs y hI hall
          have hB := hI
          have e0 : vs 0 = .pointer (some ⟨w.heap.size, 3, none⟩) := hall 0 (by decide)
          have e1 : vs 1 = .slice (some ⟨ba, oa, none⟩) n ca := hall 1 (by decide)
          have e2 : vs 2 = .int .i64 (k : Int) := hall 2 (by decide)
          have e3 : vs 3 = .pointer (some ⟨ba, oa + k * 6, none⟩) := hall 3 (by decide)
          have e4 : vs 4 = .agg (six xa (.slice Ax xa.stamp.length cx)) := hall 4 (by decide)
          have e5 : vs 5 = .pointer (some ⟨w.heap.size + 1, 3, none⟩) := hall 5 (by decide)
          have e6 : vs 6 = .slice (some ⟨bb, ob, none⟩) n cb := hall 6 (by decide)
          have e7 : vs 7 = .int .i64 (k : Int) := hall 7 (by decide)
          have e8 : vs 8 = .pointer (some ⟨bb, ob + k * 6, none⟩) := hall 8 (by decide)
          have e9 : vs 9 = .agg (six xb (.slice Ay xb.stamp.length cy)) := hall 9 (by decide)
          have e10 : vs 10 = .bool (decide (xa = xb)) := hall 10 (by decide)
          have e11 : vs 11 = .bool (!decide (xa = xb)) := hall 11 (by decide)
          clear hall HKEEP
          refine Box.mk ?_
          simp only [e0, e1, e2, e3, e4, e5, e6, e7, e8, e9, e10, e11, allPut, puts, Act.put, List.setIfInBounds_toArray, List.set_cons_zero, List.set_cons_succ]
          have HBB := Lib.hid hB
          clear e0 e1 e2 e3 e4 e5 e6 e7 e8 e9 e10 e11 hB
          go_wp2_with fail
          go_meet
          exact ⟨rfl, HBB⟩
      case rest =>
        obtain ⟨rfl, HB6⟩ := hcut
        have HBW := Lib.hid (below_on HW.out HB6.out)
        by_cases he : xa = xb
        · have hd : decide (xa = xb) = true := decide_eq_true he
          rw [hd]
          have HS2 := Lib.hid (HS.out he)
          clear he hd
          go_wp2_with fail
          go_roundw
          case rel => exact ⟨k + 1, rfl, by omega, HBW, HS2⟩
          case measure => simp only [intOf]; omega
        · have hd : decide (xa = xb) = false := decide_eq_false he
          rw [hd]
          have HN2 := Lib.hid (HN.out he)
          clear he hd
          go_wp2_with fail
          try rw [Exit.noGoto_ret]
          go_ret
          exact bools (decide_eq_false (fun e => HN2.out (by rw [e]))).symm (below_on HX.out HBW.out)
    · have HE := Lib.hid (show a = b from same_bk E0.out E1.out E2.out (by have h1 := HT.out; rwa [List.take_of_length_le (by have := HNA.out; omega), List.take_of_length_le (by have := HNB.out; omega)] at h1))
      go_wp2_with fail
      go_ret
      exact bools (decide_eq_true HE.out).symm (below_on HX.out HW.out)
end Go.Proofs.Ytdegamlnkleddaa
