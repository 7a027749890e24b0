/- A call more: Open. -/
import Derived.Test.YtnacchldecjcaaaCaMay
import Derived.Test.YtnacchldecjcaaaCaSet
namespace Go.Proofs.Ytnacchldecjcaaa
open Go.RowKit
open Go.MapKept Go.ChangeMaps
open CA (Cl St)
set_option linter.unusedVariables false
set_option linter.unusedSimpArgs false
set_option maxRecDepth 100000
/-- What a call is when it is opened. -/
def first (s : St) (now : Int) (x : Cl) : Cl := { x with seq := s.next, sent := now, tries := 1 }
section
variable {w w' : World} {g M : Nat} {s : St}
theorem CallsAt.more (h : CallsAt w g M s) {now : Int} {x : Cl} (hx : ClW x) (h0 : CA.fault s now x = 0) (hw : Whole w' g 54 #[.int .i64 s.boot, .int .i64 (s.next + 1), .map (some M)]) (hM : MapAt w' M (.int .i64) (pairsC (s.on ++ [first s now x]))) : CallsAt w' g M (CA.put s now x) := by
  have hi := h.inv.put h0
  have hn := h.inv.next
  refine ⟨hw, hM, hi, fun y hy => ?_⟩
  rcases List.mem_append.1 (show y ∈ s.on ++ [first s now x] from hy) with hy | hy
  · exact h.wide y hy
  · rw [List.mem_singleton] at hy
    subst hy
    have ht : 0 ≤ now ∧ now ≤ 1152921504606846976 := by
      unfold CA.fault at h0
      split at h0
      · omega
      · omega
    exact ⟨by show In64 s.next; unfold In64; omega, hx.dst, hx.verb, hx.mode, hx.term, hx.id, by show In64 now; unfold In64; omega, by show In64 1; unfold In64; omega, hx.path⟩
theorem CallsAt.grow (h : CallsAt w g M s) (y : Cl) (hy : y.seq = s.next) :
    ∃ w', (Instr.mapUpdate 52 (.map (some M)) (.int .i64 s.next) (aggC y)).run Try.prog w = .ok () w' ∧ MapAt w' M (.int .i64) (pairsC (s.on ++ [y])) ∧ Mod [M] w w' ∧ w'.heap.size = w.heap.size := by
  obtain ⟨w', h1, h2, h3, h4⟩ := h.map.store (P := Try.prog) Try.underlying52 Try.underlying3 (key_int s.next) (pairsC_no fun x hx e => by have := (h.inv.lo x hx).2; omega) (aggC y)
  refine ⟨w', h1, ?_, (Mod.refl [M] w).grown h3 (fun k hk => .inl (by cases hk; simp)), h4⟩
  rw [pairsC_snoc, hy]
  exact h2
theorem CallsAt.len (h : CallsAt w g M s) (ty : TypeId) : (Builtin.len_ #[52] ty #[.map (some M)]).run Try.prog w = .ok (.int .i64 (s.on.length : Int)) w := by
  have := h.map.len (P := Try.prog) Try.underlying52 ty
  rw [pairsC_len] at this
  exact this
end
section
variable {w : World} {g M : Nat} {s : St}
set_option maxHeartbeats 1000000 in
theorem Open_nil (now : Int) (x : Cl) (w : World) : Calls Try.prog 8 #[.pointer none, .int .i64 now, aggC x] w fun e w' => e = .returned (.tuple #[.int .i64 0, .int .i64 1]) ∧ Below w.heap.size w w' := by
  have HX := Lib.hid ((Below.refl _ w).alloc (Nat.le_refl _) (.cells (ten x) 32))
  unfold aggC
  unfold ten at HX ⊢
  go_enter Try.func8, Try.ntmps8
  go_wp2_with fail
  generalize w.alloc _ = w1 at HX ⊢
  refine (Boot_nil w1).mono ?_
  rintro e w2 ⟨rfl, rfl⟩
  go_wp2_with fail
  go_ret2
  exact ⟨rfl, HX.out⟩
set_option maxHeartbeats 4000000 in
theorem Open_f1 (h : CallsAt w g M s) (now : Int) (x : Cl) (hx : ClW x) (h1 : now < 0) : Calls Try.prog 8 #[.pointer (some ⟨g, 0, none⟩), .int .i64 now, aggC x] w fun e w' => e = .returned (.tuple #[.int .i64 0, .int .i64 2]) ∧ Below w.heap.size w w' := by
  have HC := Lib.hid (h.below ((Below.refl _ w).alloc (Nat.le_refl _) (.cells (ten x) 32)))
  have HX := Lib.hid ((Below.refl _ w).alloc (Nat.le_refl _) (.cells (ten x) 32))
  have HK := Lib.hid (show ClBlk (w.alloc (.cells (ten x) 32)) w.heap.size x from Whole.new w _ _)
  have HW := Lib.hid hx
  have HH := Lib.hid h
  have HLT := Lib.hid (show g < w.heap.size ∧ M < w.heap.size from ⟨h.lt, h.ltM⟩)
  have HGM := Lib.hid h.ne
  have hb0 : (s.boot == 0) = false := by have := h.inv.boot; simp; omega
  have hn1 := h.inv.next
  clear h hx
  unfold aggC
  unfold ten at HX HC HK ⊢
  go_enter Try.func8, Try.ntmps8
  go_wp2_with fail
  generalize w.alloc _ = w1 at HX HC HK ⊢
  refine (Boot_any HC.out).mono ?_
  rintro e w2 ⟨rfl, rfl⟩
  go_wp2_with fail
  go_ret2
  exact ⟨rfl, HX.out⟩
set_option maxHeartbeats 4000000 in
theorem Open_f2 (h : CallsAt w g M s) (now : Int) (x : Cl) (hx : ClW x) (h1 : ¬ now < 0) (h2 : 1152921504606846976 < now) : Calls Try.prog 8 #[.pointer (some ⟨g, 0, none⟩), .int .i64 now, aggC x] w fun e w' => e = .returned (.tuple #[.int .i64 0, .int .i64 2]) ∧ Below w.heap.size w w' := by
  have HC := Lib.hid (h.below ((Below.refl _ w).alloc (Nat.le_refl _) (.cells (ten x) 32)))
  have HX := Lib.hid ((Below.refl _ w).alloc (Nat.le_refl _) (.cells (ten x) 32))
  have HK := Lib.hid (show ClBlk (w.alloc (.cells (ten x) 32)) w.heap.size x from Whole.new w _ _)
  have HW := Lib.hid hx
  have HH := Lib.hid h
  have HLT := Lib.hid (show g < w.heap.size ∧ M < w.heap.size from ⟨h.lt, h.ltM⟩)
  have HGM := Lib.hid h.ne
  have hb0 : (s.boot == 0) = false := by have := h.inv.boot; simp; omega
  have hn1 := h.inv.next
  clear h hx
  unfold aggC
  unfold ten at HX HC HK ⊢
  go_enter Try.func8, Try.ntmps8
  go_wp2_with fail
  generalize w.alloc _ = w1 at HX HC HK ⊢
  refine (Boot_any HC.out).mono ?_
  rintro e w2 ⟨rfl, rfl⟩
  go_wp2_with fail
  go_ret2
  exact ⟨rfl, HX.out⟩
set_option maxHeartbeats 4000000 in
theorem Open_f3 (h : CallsAt w g M s) (now : Int) (x : Cl) (hx : ClW x) (h1 : ¬ now < 0) (h2 : ¬ 1152921504606846976 < now) (hm : CA.mayBe x = false) : Calls Try.prog 8 #[.pointer (some ⟨g, 0, none⟩), .int .i64 now, aggC x] w fun e w' => e = .returned (.tuple #[.int .i64 0, .int .i64 22]) ∧ Below w.heap.size w w' := by
  have HC := Lib.hid (h.below ((Below.refl _ w).alloc (Nat.le_refl _) (.cells (ten x) 32)))
  have HX := Lib.hid ((Below.refl _ w).alloc (Nat.le_refl _) (.cells (ten x) 32))
  have HK := Lib.hid (show ClBlk (w.alloc (.cells (ten x) 32)) w.heap.size x from Whole.new w _ _)
  have HW := Lib.hid hx
  have HH := Lib.hid h
  have HLT := Lib.hid (show g < w.heap.size ∧ M < w.heap.size from ⟨h.lt, h.ltM⟩)
  have HGM := Lib.hid h.ne
  have hb0 : (s.boot == 0) = false := by have := h.inv.boot; simp; omega
  have hn1 := h.inv.next
  clear h hx
  unfold aggC
  unfold ten at HX HC HK ⊢
  go_enter Try.func8, Try.ntmps8
  go_wp2_with fail
  generalize w.alloc _ = w1 at HX HC HK ⊢
  refine (Boot_any HC.out).mono ?_
  rintro e w2 ⟨rfl, rfl⟩
  obtain ⟨c0, c1, c2, c3, c4, c5, c6, c7, c8, c9⟩ := cl_cells (x := x) HK.out
  go_wp2_with fail
  clear c0 c1 c2 c3 c4 c5 c6 c7 c8 c9
  refine (mayBeAsked_any x HW.out w2).mono ?_
  rintro e w3 ⟨rfl, hb⟩
  have HX3 := Lib.hid (below_on HX.out hb)
  have HC3 := Lib.hid (HC.out.below hb)
  have HK3 := Lib.hid (show ClBlk w3 w.heap.size x from (Mod.of_below hb []).whole HK.out (by simp))
  clear hb HX HC HK
  rw [hm]
  have g1 := HC3.out.c1
  go_wp2_with fail
  go_ret2
  exact ⟨rfl, HX3.out⟩
set_option maxHeartbeats 4000000 in
theorem Open_f4 (h : CallsAt w g M s) (now : Int) (x : Cl) (hx : ClW x) (h1 : ¬ now < 0) (h2 : ¬ 1152921504606846976 < now) (hm : CA.mayBe x = true) (h3 : 1099511627776 < s.next) : Calls Try.prog 8 #[.pointer (some ⟨g, 0, none⟩), .int .i64 now, aggC x] w fun e w' => e = .returned (.tuple #[.int .i64 0, .int .i64 66]) ∧ Below w.heap.size w w' := by
  have HC := Lib.hid (h.below ((Below.refl _ w).alloc (Nat.le_refl _) (.cells (ten x) 32)))
  have HX := Lib.hid ((Below.refl _ w).alloc (Nat.le_refl _) (.cells (ten x) 32))
  have HK := Lib.hid (show ClBlk (w.alloc (.cells (ten x) 32)) w.heap.size x from Whole.new w _ _)
  have HW := Lib.hid hx
  have HH := Lib.hid h
  have HLT := Lib.hid (show g < w.heap.size ∧ M < w.heap.size from ⟨h.lt, h.ltM⟩)
  have HGM := Lib.hid h.ne
  have hb0 : (s.boot == 0) = false := by have := h.inv.boot; simp; omega
  have hn1 := h.inv.next
  clear h hx
  unfold aggC
  unfold ten at HX HC HK ⊢
  go_enter Try.func8, Try.ntmps8
  go_wp2_with fail
  generalize w.alloc _ = w1 at HX HC HK ⊢
  refine (Boot_any HC.out).mono ?_
  rintro e w2 ⟨rfl, rfl⟩
  obtain ⟨c0, c1, c2, c3, c4, c5, c6, c7, c8, c9⟩ := cl_cells (x := x) HK.out
  go_wp2_with fail
  clear c0 c1 c2 c3 c4 c5 c6 c7 c8 c9
  refine (mayBeAsked_any x HW.out w2).mono ?_
  rintro e w3 ⟨rfl, hb⟩
  have HX3 := Lib.hid (below_on HX.out hb)
  have HC3 := Lib.hid (HC.out.below hb)
  have HK3 := Lib.hid (show ClBlk w3 w.heap.size x from (Mod.of_below hb []).whole HK.out (by simp))
  clear hb HX HC HK
  rw [hm]
  have g1 := HC3.out.c1
  go_wp2_with fail
  go_ret2
  exact ⟨rfl, HX3.out⟩
set_option maxHeartbeats 4000000 in
theorem Open_f5 (h : CallsAt w g M s) (now : Int) (x : Cl) (hx : ClW x) (h1 : ¬ now < 0) (h2 : ¬ 1152921504606846976 < now) (hm : CA.mayBe x = true) (h3 : ¬ 1099511627776 < s.next) (h4 : 4 ≤ s.on.length) : Calls Try.prog 8 #[.pointer (some ⟨g, 0, none⟩), .int .i64 now, aggC x] w fun e w' => e = .returned (.tuple #[.int .i64 0, .int .i64 52]) ∧ Below w.heap.size w w' := by
  have HC := Lib.hid (h.below ((Below.refl _ w).alloc (Nat.le_refl _) (.cells (ten x) 32)))
  have HX := Lib.hid ((Below.refl _ w).alloc (Nat.le_refl _) (.cells (ten x) 32))
  have HK := Lib.hid (show ClBlk (w.alloc (.cells (ten x) 32)) w.heap.size x from Whole.new w _ _)
  have HW := Lib.hid hx
  have HH := Lib.hid h
  have HLT := Lib.hid (show g < w.heap.size ∧ M < w.heap.size from ⟨h.lt, h.ltM⟩)
  have HGM := Lib.hid h.ne
  have hb0 : (s.boot == 0) = false := by have := h.inv.boot; simp; omega
  have hn1 := h.inv.next
  clear h hx
  unfold aggC
  unfold ten at HX HC HK ⊢
  go_enter Try.func8, Try.ntmps8
  go_wp2_with fail
  generalize w.alloc _ = w1 at HX HC HK ⊢
  refine (Boot_any HC.out).mono ?_
  rintro e w2 ⟨rfl, rfl⟩
  obtain ⟨c0, c1, c2, c3, c4, c5, c6, c7, c8, c9⟩ := cl_cells (x := x) HK.out
  go_wp2_with fail
  clear c0 c1 c2 c3 c4 c5 c6 c7 c8 c9
  refine (mayBeAsked_any x HW.out w2).mono ?_
  rintro e w3 ⟨rfl, hb⟩
  have HX3 := Lib.hid (below_on HX.out hb)
  have HC3 := Lib.hid (HC.out.below hb)
  have HK3 := Lib.hid (show ClBlk w3 w.heap.size x from (Mod.of_below hb []).whole HK.out (by simp))
  clear hb HX HC HK
  rw [hm]
  have g1 := HC3.out.c1
  have g2 := HC3.out.c2
  have hl := HC3.out.len
  have hlo := HC3.out.inv.low_rng
  have hw1 : IntKind.i64.wrap (CA.low s + 8) = CA.low s + 8 := by rw [IntWalk.i64_left]; exact IntWalk.wrap64_in _ (by omega)
  have hd : decide ((4 : Int) ≤ (s.on.length : Int)) = true := by simp; omega
  have hd2 :  (4 : Int) ≤ (s.on.length : Int) := by omega
  go_upto_region 9 with (fail)
  go_cut [29] from 30 to 45 (fun s29 wx => s29 = .bool true ∧ Hid (CallsAt wx g M s) ∧ Hid (Below w.heap.size w wx) ∧ Hid (ClBlk wx w.heap.size x))
  case first =>
    go_wp2_with fail
    have HC4 := Lib.hid (HC3.out.below ((Below.refl _ w3).drew))
    have HX4 := Lib.hid HX3.out.drew
    have HK4 := Lib.hid (show ClBlk w3.drew w.heap.size x from HK3.out)
    have hl2 := HC4.out.len
    have HS0 := (show w3.drew.cell? ⟨g, 1, none⟩ = some (.int .i64 s.next) ∧ w3.drew.cell? ⟨g, 2, none⟩ = some (.map (some M)) ∧ ∀ ty, (Builtin.len_ #[52] ty #[.map (some M)]).run Try.prog w3.drew = .ok (.int .i64 (s.on.length : Int)) w3.drew from ⟨HC4.out.c1, HC4.out.c2, HC4.out.len⟩)
    go_region
    all_goals
      go_wp2_with fail
      go_meet
      exact ⟨by first | rfl | (simp [hw1]; omega), HC4, HX4, HK4⟩
  case rest =>
  obtain ⟨rfl, HC5, HX5, HK5⟩ := hcut

  go_wp2_with fail
  go_ret2
  exact ⟨rfl, HX5.out⟩
set_option maxHeartbeats 4000000 in
theorem Open_f6 (h : CallsAt w g M s) (now : Int) (x : Cl) (hx : ClW x) (h1 : ¬ now < 0) (h2 : ¬ 1152921504606846976 < now) (hm : CA.mayBe x = true) (h3 : ¬ 1099511627776 < s.next) (h4 : ¬ 4 ≤ s.on.length) (h5 : CA.low s + 8 ≤ s.next) : Calls Try.prog 8 #[.pointer (some ⟨g, 0, none⟩), .int .i64 now, aggC x] w fun e w' => e = .returned (.tuple #[.int .i64 0, .int .i64 52]) ∧ Below w.heap.size w w' := by
  have HC := Lib.hid (h.below ((Below.refl _ w).alloc (Nat.le_refl _) (.cells (ten x) 32)))
  have HX := Lib.hid ((Below.refl _ w).alloc (Nat.le_refl _) (.cells (ten x) 32))
  have HK := Lib.hid (show ClBlk (w.alloc (.cells (ten x) 32)) w.heap.size x from Whole.new w _ _)
  have HW := Lib.hid hx
  have HH := Lib.hid h
  have HLT := Lib.hid (show g < w.heap.size ∧ M < w.heap.size from ⟨h.lt, h.ltM⟩)
  have HGM := Lib.hid h.ne
  have hb0 : (s.boot == 0) = false := by have := h.inv.boot; simp; omega
  have hn1 := h.inv.next
  clear h hx
  unfold aggC
  unfold ten at HX HC HK ⊢
  go_enter Try.func8, Try.ntmps8
  go_wp2_with fail
  generalize w.alloc _ = w1 at HX HC HK ⊢
  refine (Boot_any HC.out).mono ?_
  rintro e w2 ⟨rfl, rfl⟩
  obtain ⟨c0, c1, c2, c3, c4, c5, c6, c7, c8, c9⟩ := cl_cells (x := x) HK.out
  go_wp2_with fail
  clear c0 c1 c2 c3 c4 c5 c6 c7 c8 c9
  refine (mayBeAsked_any x HW.out w2).mono ?_
  rintro e w3 ⟨rfl, hb⟩
  have HX3 := Lib.hid (below_on HX.out hb)
  have HC3 := Lib.hid (HC.out.below hb)
  have HK3 := Lib.hid (show ClBlk w3 w.heap.size x from (Mod.of_below hb []).whole HK.out (by simp))
  clear hb HX HC HK
  rw [hm]
  have g1 := HC3.out.c1
  have g2 := HC3.out.c2
  have hl := HC3.out.len
  have hlo := HC3.out.inv.low_rng
  have hw1 : IntKind.i64.wrap (CA.low s + 8) = CA.low s + 8 := by rw [IntWalk.i64_left]; exact IntWalk.wrap64_in _ (by omega)
  have hd : decide ((4 : Int) ≤ (s.on.length : Int)) = false := by simp; omega
  have hd2 : ¬ (4 : Int) ≤ (s.on.length : Int) := by omega
  go_upto_region 9 with (fail)
  go_cut [29] from 30 to 45 (fun s29 wx => s29 = .bool true ∧ Hid (CallsAt wx g M s) ∧ Hid (Below w.heap.size w wx) ∧ Hid (ClBlk wx w.heap.size x))
  case first =>
    go_wp2_with fail
    have HC4 := Lib.hid (HC3.out.below ((Below.refl _ w3).drew))
    have HX4 := Lib.hid HX3.out.drew
    have HK4 := Lib.hid (show ClBlk w3.drew w.heap.size x from HK3.out)
    have HS0 := (show w3.drew.cell? ⟨g, 1, none⟩ = some (.int .i64 s.next) ∧ w3.drew.cell? ⟨g, 2, none⟩ = some (.map (some M)) ∧ ∀ ty, (Builtin.len_ #[52] ty #[.map (some M)]).run Try.prog w3.drew = .ok (.int .i64 (s.on.length : Int)) w3.drew from ⟨HC4.out.c1, HC4.out.c2, HC4.out.len⟩)
    go_region_held3 (fun w' : World => w'.cell? ⟨g, 1, none⟩ = some (.int .i64 s.next) ∧ w'.cell? ⟨g, 2, none⟩ = some (.map (some M)) ∧ ∀ ty, (Builtin.len_ #[52] ty #[.map (some M)]).run Try.prog w' = .ok (.int .i64 (s.on.length : Int)) w')
      (first
        | exact HSK
        | exact HS0
        | (go_keep; done))
      (first
        | (go_at_call 14; refine (Low_any HC4.out).mono ?_; rintro e5 w5 ⟨rfl, hb⟩; have HSK := (show w5.cell? ⟨g, 1, none⟩ = some (.int .i64 s.next) ∧ w5.cell? ⟨g, 2, none⟩ = some (.map (some M)) ∧ ∀ ty, (Builtin.len_ #[52] ty #[.map (some M)]).run Try.prog w5 = .ok (.int .i64 (s.on.length : Int)) w5 from ⟨(HC4.out.below hb).c1, (HC4.out.below hb).c2, (HC4.out.below hb).len⟩); replace HX4 := Lib.hid (below_on HX4.out hb); replace HK4 := Lib.hid ((Mod.of_below hb []).whole HK4.out (by simp)); replace HC4 := Lib.hid (HC4.out.below hb); clear hb))
    all_goals
      go_wp2_with fail
      go_meet
      exact ⟨by first | rfl | (simp [hw1]; omega), HC4, HX4, HK4⟩
  case rest =>
  obtain ⟨rfl, HC5, HX5, HK5⟩ := hcut

  go_wp2_with fail
  go_ret2
  exact ⟨rfl, HX5.out⟩
set_option maxHeartbeats 4000000 in
theorem Open_ok (h : CallsAt w g M s) (now : Int) (x : Cl) (hx : ClW x) (h1 : ¬ now < 0) (h2 : ¬ 1152921504606846976 < now) (hm : CA.mayBe x = true) (h3 : ¬ 1099511627776 < s.next) (h4 : ¬ 4 ≤ s.on.length) (h5 : ¬ CA.low s + 8 ≤ s.next) (h0 : CA.fault s now x = 0) : Calls Try.prog 8 #[.pointer (some ⟨g, 0, none⟩), .int .i64 now, aggC x] w fun e w' => e = .returned (.tuple #[.int .i64 s.next, .int .i64 0]) ∧ Turned w g M [g, M] (CA.put s now x) w' := by
  have HC := Lib.hid (h.below ((Below.refl _ w).alloc (Nat.le_refl _) (.cells (ten x) 32)))
  have HX := Lib.hid ((Below.refl _ w).alloc (Nat.le_refl _) (.cells (ten x) 32))
  have HK := Lib.hid (show ClBlk (w.alloc (.cells (ten x) 32)) w.heap.size x from Whole.new w _ _)
  have HW := Lib.hid hx
  have HH := Lib.hid h
  have HLT := Lib.hid (show g < w.heap.size ∧ M < w.heap.size from ⟨h.lt, h.ltM⟩)
  have HGM := Lib.hid h.ne
  have hb0 : (s.boot == 0) = false := by have := h.inv.boot; simp; omega
  have hn1 := h.inv.next
  clear h hx
  unfold aggC
  unfold ten at HX HC HK ⊢
  go_enter Try.func8, Try.ntmps8
  go_wp2_with fail
  generalize w.alloc _ = w1 at HX HC HK ⊢
  refine (Boot_any HC.out).mono ?_
  rintro e w2 ⟨rfl, rfl⟩
  obtain ⟨c0, c1, c2, c3, c4, c5, c6, c7, c8, c9⟩ := cl_cells (x := x) HK.out
  go_wp2_with fail
  clear c0 c1 c2 c3 c4 c5 c6 c7 c8 c9
  refine (mayBeAsked_any x HW.out w2).mono ?_
  rintro e w3 ⟨rfl, hb⟩
  have HX3 := Lib.hid (below_on HX.out hb)
  have HC3 := Lib.hid (HC.out.below hb)
  have HK3 := Lib.hid (show ClBlk w3 w.heap.size x from (Mod.of_below hb []).whole HK.out (by simp))
  clear hb HX HC HK
  rw [hm]
  have g1 := HC3.out.c1
  have g2 := HC3.out.c2
  have hl := HC3.out.len
  have hlo := HC3.out.inv.low_rng
  have hw1 : IntKind.i64.wrap (CA.low s + 8) = CA.low s + 8 := by rw [IntWalk.i64_left]; exact IntWalk.wrap64_in _ (by omega)
  have hd : decide ((4 : Int) ≤ (s.on.length : Int)) = false := by simp; omega
  have hd2 : ¬ (4 : Int) ≤ (s.on.length : Int) := by omega
  go_upto_region 9 with (fail)
  go_cut [29] from 30 to 45 (fun s29 wx => s29 = .bool false ∧ Hid (CallsAt wx g M s) ∧ Hid (Below w.heap.size w wx) ∧ Hid (ClBlk wx w.heap.size x))
  case first =>
    go_wp2_with fail
    have HC4 := Lib.hid (HC3.out.below ((Below.refl _ w3).drew))
    have HX4 := Lib.hid HX3.out.drew
    have HK4 := Lib.hid (show ClBlk w3.drew w.heap.size x from HK3.out)
    have HS0 := (show w3.drew.cell? ⟨g, 1, none⟩ = some (.int .i64 s.next) ∧ w3.drew.cell? ⟨g, 2, none⟩ = some (.map (some M)) ∧ ∀ ty, (Builtin.len_ #[52] ty #[.map (some M)]).run Try.prog w3.drew = .ok (.int .i64 (s.on.length : Int)) w3.drew from ⟨HC4.out.c1, HC4.out.c2, HC4.out.len⟩)
    go_region_held3 (fun w' : World => w'.cell? ⟨g, 1, none⟩ = some (.int .i64 s.next) ∧ w'.cell? ⟨g, 2, none⟩ = some (.map (some M)) ∧ ∀ ty, (Builtin.len_ #[52] ty #[.map (some M)]).run Try.prog w' = .ok (.int .i64 (s.on.length : Int)) w')
      (first
        | exact HSK
        | exact HS0
        | (go_keep; done))
      (first
        | (go_at_call 14; refine (Low_any HC4.out).mono ?_; rintro e5 w5 ⟨rfl, hb⟩; have HSK := (show w5.cell? ⟨g, 1, none⟩ = some (.int .i64 s.next) ∧ w5.cell? ⟨g, 2, none⟩ = some (.map (some M)) ∧ ∀ ty, (Builtin.len_ #[52] ty #[.map (some M)]).run Try.prog w5 = .ok (.int .i64 (s.on.length : Int)) w5 from ⟨(HC4.out.below hb).c1, (HC4.out.below hb).c2, (HC4.out.below hb).len⟩); replace HX4 := Lib.hid (below_on HX4.out hb); replace HK4 := Lib.hid ((Mod.of_below hb []).whole HK4.out (by simp)); replace HC4 := Lib.hid (HC4.out.below hb); clear hb))
    all_goals
      go_wp2_with fail
      go_meet
      exact ⟨by first | rfl | (simp [hw1]; omega), HC4, HX4, HK4⟩
  case rest =>
  obtain ⟨rfl, HC5, HX5, HK5⟩ := hcut

  clear g1 g2 hl hd hd2 hw1 hlo
  have HSZ := Lib.hid HX5.out.size
  have g1 := HC5.out.c1
  obtain ⟨c0, c1, c2, c3, c4, c5, c6, c7, c8, c9⟩ := cl_cells HK5.out
  have f0 := HK5.out.frozen 0
  have f8 := HK5.out.frozen 8
  have f9 := HK5.out.frozen 9
  have HK6 := Lib.hid (show ClBlk (((wc.setCell ⟨w.heap.size, 0, none⟩ (.int .i64 s.next)).setCell ⟨w.heap.size, 8, none⟩ (.int .i64 now)).setCell ⟨w.heap.size, 9, none⟩ (.int .i64 1)) w.heap.size (first s now x) from ((HK5.out.store 0 _).store 8 _).store 9 _)
  have hm6 : Mod [w.heap.size] wc (((wc.setCell ⟨w.heap.size, 0, none⟩ (.int .i64 s.next)).setCell ⟨w.heap.size, 8, none⟩ (.int .i64 now)).setCell ⟨w.heap.size, 9, none⟩ (.int .i64 1)) := (((Mod.refl [w.heap.size] wc).store (p := ⟨w.heap.size, 0, none⟩) (.inl (by simp)) _).store (p := ⟨w.heap.size, 8, none⟩) (.inl (by simp)) _).store (p := ⟨w.heap.size, 9, none⟩) (.inl (by simp)) _
  have HC6 := Lib.hid (HC5.out.mod hm6 (by have := HLT.out; simp; omega) (by have := HLT.out; simp; omega))
  have HX6 := Lib.hid (HX5.out.trans (hm6.below HSZ.out (by simp)))
  clear hm6 HC5 HX5 HK5
  go_upto_region 12 with (fail)
  clear c0 c1 c2 c3 c4 c5 c6 c7 c8 c9 f0 f8 f9 g1
  generalize (World.setCell (World.setCell (World.setCell _ _ _) _ _) _ _) = w6 at HK6 HC6 HX6 ⊢
  obtain ⟨w7, hupd, hM7, hm7, hs7⟩ := CallsAt.grow (w := w6.drew) (HC6.out.mod ((Mod.refl [] w6).drew) (by simp) (by simp)) (first s now x) rfl
  have HM7 := Lib.hid hM7
  have HMM := Lib.hid (show Mod [g, M] w w7 from (Mod.of_below HX6.out [g, M]).drew.trans hm7 (fun k hk => .inl (by simp at hk; simp [hk])))
  have HK7 := Lib.hid (show ClBlk w7 w.heap.size (first s now x) from hm7.whole (show ClBlk w6.drew w.heap.size (first s now x) from HK6.out) (by have := HLT.out; simp; omega))
  have HW7 := Lib.hid (hm7.whole (show Whole w6.drew g 54 _ from HC6.out.cells) (by have := HGM.out; simpa using this))
  obtain ⟨c0, c1, c2, c3, c4, c5, c6, c7, c8, c9⟩ := cl_cells HK6.out
  have g2 := HC6.out.c2
  clear hM7 hm7 hs7 HC6 HX6
  unfold aggC ten first at hupd
  unfold first at c0 c1 c2 c3 c4 c5 c6 c7 c8 c9
  simp only at hupd c0 c1 c2 c3 c4 c5 c6 c7 c8 c9
  go_cut [54] from 55 to 60 (fun s54 wx => wx = w7)
  case first =>
    go_wp2_with fail
    go_region
    all_goals
      go_wp2_with fail
      go_meet
      rfl
  case rest =>
  obtain rfl := hcut
  clear hupd c0 c1 c2 c3 c4 c5 c6 c7 c8 c9 g2
  have g1 : wc.cell? ⟨g, 1, none⟩ = some (.int .i64 s.next) := HW7.out.cell 1
  have fg := HW7.out.frozen 1
  have hw2 : wrap64 (s.next + 1) = s.next + 1 := IntWalk.wrap64_in _ (by omega)
  have HK8 := Lib.hid (show ClBlk (wc.setCell ⟨g, 1, none⟩ (.int .i64 (s.next + 1))) w.heap.size (first s now x) from HK7.out.far (q := ⟨g, 1, none⟩) (by have := HLT.out; show w.heap.size ≠ g; omega) _)
  have HW8 := Lib.hid (show Whole (wc.setCell ⟨g, 1, none⟩ (.int .i64 (s.next + 1))) g 54 #[.int .i64 s.boot, .int .i64 (s.next + 1), .map (some M)] from HW7.out.store 1 _)
  have hm8 : Mod [g] wc (wc.setCell ⟨g, 1, none⟩ (.int .i64 (s.next + 1))) := (Mod.refl [g] wc).store (p := ⟨g, 1, none⟩) (.inl (by simp)) _
  have HM8 := Lib.hid (HM7.out.mod hm8 (by have := HGM.out; simp; exact fun e => this e.symm))
  have HMM8 := Lib.hid (HMM.out.trans hm8 (fun k hk => .inl (by simp at hk; simp [hk])))
  clear hm8
  go_upto_region 14 with (fail)
  clear g1 fg
  try rw [hw2]
  generalize (World.setCell _ _ _) = w9 at HK8 HW8 HM8 HMM8 ⊢
  have c0 : w9.cell? ⟨w.heap.size, 0, none⟩ = some (.int .i64 s.next) := HK8.out.cell 0
  go_wp2_with fail
  go_ret2
  exact ⟨rfl, HH.out.more HW.out h0 HW8.out HM8.out, HMM8.out⟩

theorem Turned.same {F : List Nat} {w' : World} (h : CallsAt w g M s) (hb : Below w.heap.size w w') : Turned w g M F s w' := ⟨h.below hb, Mod.of_below hb F⟩
theorem Open_any (h : CallsAt w g M s) (now : Int) (x : Cl) (hx : ClW x) : Calls Try.prog 8 #[.pointer (some ⟨g, 0, none⟩), .int .i64 now, aggC x] w fun e w' => e = .returned (.tuple #[.int .i64 (CA.given s now x), .int .i64 (CA.fault s now x)]) ∧ Turned w g M [g, M] (CA.start s now x) w' := by
  have bad : ∀ {k : Int} {e : Ending} {w' : World}, CA.fault s now x = k → k ≠ 0 → (e = .returned (.tuple #[.int .i64 0, .int .i64 k]) ∧ Below w.heap.size w w') → e = .returned (.tuple #[.int .i64 (CA.given s now x), .int .i64 (CA.fault s now x)]) ∧ Turned w g M [g, M] (CA.start s now x) w' := by
    intro k e w' hf hk hp
    have h1 : CA.given s now x = 0 := by unfold CA.given; rw [hf, if_neg hk]
    have h2 : CA.start s now x = s := by unfold CA.start; rw [hf, if_neg hk]
    rw [h1, h2, hf]
    exact ⟨hp.1, Turned.same h hp.2⟩
  by_cases h1 : now < 0
  · exact (Open_f1 h now x hx h1).mono fun e w' hp => bad (by unfold CA.fault; rw [if_pos (.inl h1)]) (by decide) hp
  by_cases h2 : 1152921504606846976 < now
  · exact (Open_f2 h now x hx h1 h2).mono fun e w' hp => bad (by unfold CA.fault; rw [if_pos (.inr h2)]) (by decide) hp
  have e1 : ¬ (now < 0 ∨ 1152921504606846976 < now) := by omega
  cases hm : CA.mayBe x with
  | false => exact (Open_f3 h now x hx h1 h2 hm).mono fun e w' hp => bad (by unfold CA.fault; rw [if_neg e1, if_pos hm]) (by decide) hp
  | true =>
    have e2 : ¬ CA.mayBe x = false := by rw [hm]; decide
    by_cases h3 : 1099511627776 < s.next
    · exact (Open_f4 h now x hx h1 h2 hm h3).mono fun e w' hp => bad (by unfold CA.fault; rw [if_neg e1, if_neg e2, if_pos h3]) (by decide) hp
    by_cases h4 : 4 ≤ s.on.length
    · exact (Open_f5 h now x hx h1 h2 hm h3 h4).mono fun e w' hp => bad (by unfold CA.fault; rw [if_neg e1, if_neg e2, if_neg h3, if_pos (.inl h4)]) (by decide) hp
    by_cases h5 : CA.low s + 8 ≤ s.next
    · exact (Open_f6 h now x hx h1 h2 hm h3 h4 h5).mono fun e w' hp => bad (by unfold CA.fault; rw [if_neg e1, if_neg e2, if_neg h3, if_pos (.inr h5)]) (by decide) hp
    have h0 : CA.fault s now x = 0 := by unfold CA.fault; rw [if_neg e1, if_neg e2, if_neg h3, if_neg (by omega)]
    have g1 : CA.given s now x = s.next := by unfold CA.given; rw [if_pos h0]
    have g2 : CA.start s now x = CA.put s now x := by unfold CA.start; rw [if_pos h0]
    rw [g1, g2, h0]
    exact Open_ok h now x hx h1 h2 hm h3 h4 h5 h0
end
end Go.Proofs.Ytnacchldecjcaaa
