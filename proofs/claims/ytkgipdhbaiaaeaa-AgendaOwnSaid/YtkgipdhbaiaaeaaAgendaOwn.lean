/- Lists that are answered share no memory, a nil agenda is empty, and two agendas do not touch each other; for every list of items and every item. -/
import Derived.Test.YtkgipdhbaiaaeaaRows
import Derived.Test.YtkgipdhbaiaaeaaAgSt
import Derived.Test.YtkgipdhbaiaaeaaAgR3
import Derived.Test.YtkgipdhbaiaaeaaAgArg
import Derived.Test.YtkgipdhbaiaaeaaLawBare
import Derived.JoinedCond
import Derived.OpenShut
import Derived.Deep.CutBlock
namespace Go.Proofs.Ytkgipdhbaiaaeaa.lawAgendaOwn
open Go Go.RowKit Go.ChangeShapes Go.WideShapes Go.ChangeAt
set_option linter.unusedVariables false
set_option linter.unusedSimpArgs false
open AM (It HS g sw)
/-- Boxes of the law's own. -/
structure Bs (w0 w : World) (l : List (Nat × It)) : Prop where
  below : Below w0.heap.size w0 w
  bx : ∀ p ∈ l, Whole w p.1 29 (three p.2)
section
variable {w0 w w' : World} {l : List (Nat × It)}
theorem Bs.on (h : Bs w0 w l) (hb : Below w.heap.size w w') : Bs w0 w' l := ⟨below_on h.below hb, fun p hp => (Mod.of_below hb []).whole (h.bx p hp) (by simp)⟩
theorem Bs.box (h : Bs w0 w l) (x : It) : Bs w0 (w.alloc (.cells (three x) 29)) ((w.heap.size, x) :: l) :=
  ⟨h.below.alloc h.below.size _, fun p hp => by
    rcases List.mem_cons.1 hp with rfl | hp
    · exact Whole.new w _ _
    · exact (h.bx p hp).alloc _⟩
theorem Bs.cells (h : Bs w0 w l) {p : Nat} {x : It} (hp : (p, x) ∈ l) : w.cell? ⟨p, 0, none⟩ = some (.int .i64 x.due) ∧ w.cell? ⟨p, 1, none⟩ = some (.int .i64 x.kind) ∧ w.cell? ⟨p, 2, none⟩ = some (.int .i64 x.key) := three_cells (h.bx _ hp)
end
theorem new_two (w0 w : World) (hb : Below w0.heap.size w0 w) : Sx w0 ((w.alloc (.cells ag0 59)).alloc (.cells ag0 59)) w.heap.size (w.heap.size + 1) [] [] := by
  have e : (w.alloc (.cells ag0 59)).heap.size = w.heap.size + 1 := by simp
  have h2 := AgAt.new (w.alloc (.cells ag0 59))
  rw [e] at h2
  exact ⟨(hb.alloc hb.size _).alloc (by rw [e]; have := hb.size; omega) _, (AgAt.new w).below ((Below.refl _ _).alloc (Nat.le_refl _) _), h2, by omega, hb.size, by have := hb.size; omega⟩
def neg (d : Int) : It := ⟨d, 0, 0⟩
theorem row_open {w : World} {base m c : Nat} {PA : Option Addr} {ps : List It} (h : w.ownsRow base 29 3 (.slice PA m c) m (flat ps)) (hm : 0 < m) : ∃ pg, PA = some ⟨pg, 0, none⟩ ∧ (∀ o, w.frozen? ⟨pg, o, none⟩ = false) ∧ ∀ i, i < m → w.cell? ⟨pg, i * 3, none⟩ = some (.int .i64 (g ps i).due) ∧ w.cell? ⟨pg, i * 3 + 1, none⟩ = some (.int .i64 (g ps i).kind) ∧ w.cell? ⟨pg, i * 3 + 2, none⟩ = some (.int .i64 (g ps i).key) := by
  have hl := h.1
  rw [flat_len] at hl
  have hI := ItsAt.own h
  rcases h.2 with ⟨e, e0⟩ | ⟨pg, cap, cur, e, hb, hh, _⟩
  · omega
  · injection e with e1
    subst e1
    refine ⟨pg, rfl, fun o => Whole.frozen (show Whole w pg _ cur from hh) o, fun i hi => ?_⟩
    obtain ⟨b, o, e, _, i0, i1, i2⟩ := hI.at (k := i) (by omega)
    injection e with e
    injection e with e1 e2
    subst e1 e2
    rw [Nat.zero_add] at i0 i1 i2
    exact ⟨i0, i1, i2⟩
def cnt (s : Nat) (w : World) : Nat := (intOf ((w.cell? ⟨s, 96, none⟩).getD (.int .i64 0))).toNat
theorem cnt_of {w : World} {s : Nat} {M : List It} (h : AgAt w s M) : cnt s w = M.length := by
  obtain ⟨hh, h1, _⟩ := h
  unfold cnt
  rw [h1.num]
  simp [intOf]
set_option maxRecDepth 100000 in
set_option maxHeartbeats 16000000 in
theorem walk (A : Option Addr) (c : Nat) (xs : List It) (x : It) (w : World) (hP : ItsAt w A xs) (hc : xs.length ≤ c) (hm : c * 24 ≤ 140737488351232) (hl : ∀ x ∈ xs, ItW x) (hX : ItW x) : Calls Try.prog 7 #[.slice A xs.length c, agg x] w (LK.True_ w) := by
  obtain ⟨n, hn⟩ : ∃ n, xs.length = n := ⟨_, rfl⟩
  have HN := Lib.hid hn
  rw [hn] at hc ⊢
  have hn9 : n ≤ 5864062014806 := by omega
  have HB0 := Lib.hid ((⟨Below.refl _ w, by simp⟩ : Bs w w []).box x)
  have HPW := Lib.hid hP
  clear hP hl hn hX
  obtain ⟨px, hpx⟩ : ∃ p, w.heap.size = p := ⟨_, rfl⟩
  unfold agg
  unfold three at HB0
  go_enter Try.func7, Try.ntmps7
  go_upto_region 1 with (fail)
  generalize w.alloc (.cells #[.int .i64 x.due, .int .i64 x.kind, .int .i64 x.key] 29) = w0 at HB0 ⊢
  rw [hpx] at HB0
  clear hpx
  go_wp2_with fail
  refine (awake_any w0).mono ?_
  rintro e w1 ⟨rfl, hb⟩
  have HB1 := Lib.hid (HB0.out.on hb)
  clear hb HB0
  go_wp2_with fail
  refine (First_nil w1).mono ?_
  rintro e w2 ⟨hb, he⟩
  have he2 : e = .returned (tup itz false) := he
  subst he2
  have HB2 := Lib.hid ((HB1.out.on hb).box itz)
  obtain ⟨c0, c1, c2⟩ := HB2.out.cells (p := px) (x := x) (by simp)
  clear hb he HB1
  unfold tup agg itz
  unfold three itz at HB2 c0 c1 c2
  go_wp2_with fail
  clear c0 c1 c2
  generalize hp : w2.heap.size = pf at HB2 ⊢
  clear hp
  generalize w2.alloc (.cells #[.int .i64 0, .int .i64 0, .int .i64 0] 29) = w3 at HB2 ⊢
  refine (Get_nil x.kind x.key w3).mono ?_
  rintro e w4 ⟨rfl, hb⟩
  have HB4 := Lib.hid ((HB2.out.on hb).box itz)
  obtain ⟨c0, c1, c2⟩ := HB4.out.cells (p := px) (x := x) (by simp)
  clear hb HB2
  unfold tup agg itz
  unfold three itz at HB4 c0 c1 c2
  go_wp2_with fail
  clear c0 c1 c2
  generalize hp : w4.heap.size = pg at HB4 ⊢
  clear hp
  generalize w4.alloc (.cells #[.int .i64 0, .int .i64 0, .int .i64 0] 29) = w5 at HB4 ⊢
  refine (Take_nil x.due w5).mono ?_
  rintro e w6 ⟨rfl, hb⟩
  have HB6 := Lib.hid ((HB4.out.on hb).box itz)
  obtain ⟨c0, c1, c2⟩ := HB6.out.cells (p := px) (x := x) (by simp)
  clear hb HB4
  unfold tup agg itz
  unfold three itz at HB6 c0 c1 c2
  go_wp2_with fail
  clear c0 c1 c2
  generalize hp : w6.heap.size = ph at HB6 ⊢
  clear hp
  generalize w6.alloc (.cells #[.int .i64 0, .int .i64 0, .int .i64 0] 29) = w7 at HB6 ⊢
  have HC := Lib.hid (Put_nil x w7)
  unfold agg at HC
  refine HC.out.mono ?_
  rintro e w8 ⟨rfl, hb⟩
  have HB8 := Lib.hid (HB6.out.on hb)
  clear hb HB6 HC
  obtain ⟨c0, c1, c2⟩ := HB8.out.cells (p := px) (x := x) (by simp)
  go_wp2_with fail
  refine (Drop_nil x.kind x.key w8).mono ?_
  rintro e w9 ⟨rfl, hb⟩
  have HB9 := Lib.hid (HB8.out.on hb)
  clear hb HB8 c0 c1 c2
  obtain ⟨f0, f1, f2⟩ := HB9.out.cells (p := pf) (x := ⟨0, 0, 0⟩) (by simp)
  obtain ⟨g0, g1, g2⟩ := HB9.out.cells (p := pg) (x := ⟨0, 0, 0⟩) (by simp)
  obtain ⟨h0, h1, h2⟩ := HB9.out.cells (p := ph) (x := ⟨0, 0, 0⟩) (by simp)
  go_wp2_with fail
  refine (Len_nil w9).mono ?_
  rintro e w10 ⟨rfl, e0⟩
  obtain rfl := e0.symm
  clear e0 f0 f1 f2 g0 g1 g2 h0 h1 h2
  go_wp2_with fail
  refine (List_nil w9).mono ?_
  rintro e w10 ⟨v, rfl, ho, hb⟩
  obtain ⟨A10, c10, hv, _, _⟩ := own_shapeI ho
  have hv2 : v = .slice A10 0 c10 := hv
  subst hv2
  have HB10 := Lib.hid (HB9.out.on hb)
  clear hb HB9 ho hv
  go_wp2_with fail
  refine (New_any w10).mono ?_
  rintro e w11 ⟨rfl, e1⟩
  subst e1
  go_wp2_with fail
  refine (New_any _).mono ?_
  rintro e w12 ⟨rfl, e1⟩
  have HX := Lib.hid (new_two w w10 HB10.out.below)
  rw [← e1] at HX
  have hz : (w10.alloc (.cells ag0 59)).heap.size = w10.heap.size + 1 := by simp
  rw [hz]
  generalize w10.heap.size + 1 = t at HX ⊢
  generalize w10.heap.size = s at HX ⊢
  clear e1 hz HB10
  go_wp2_with fail
  go_loopw [95] (fun i wx => ∃ (k : Nat) (L : List It), i = .int .i64 (k : Int) ∧ k ≤ n ∧ Hid (Sx w wx s t L L) ∧ Hid (Mays L)) (fun i _ => n - (intOf i).toNat)
  case atStart => exact ⟨0, [], rfl, Nat.zero_le _, HX, Lib.hid (fun z hz => absurd hz (by simp))⟩
  case round =>
    obtain ⟨k, L, rfl, hk, HS, HMY⟩ := hrel
    by_cases hlt : k < n
    · have hw : IntKind.i64.wrap ((k : Int) + 1) = (k : Int) + 1 := IntWalk.i64_in _ (by omega)
      have d1 : (k : Int) < (n : Int) := by omega
      have d2 : (0 : Int) ≤ (k : Int) := by omega
      obtain ⟨bb, o, hA, hb, i0, i1, i2⟩ := (HPW.out.below HS.out.below).at (k := k) (by rw [HN.out]; exact hlt)
      subst hA
      have HSX := Lib.hid (HS.out.on ((Below.refl _ wr).alloc (Nat.le_refl _) (.cells (three (g xs k)) 29)))
      have HW := Lib.hid (Whole.new wr 29 (three (g xs k)))
      unfold three at HSX HW
      go_wp2_with fail
      clear i0 i1 i2
      generalize hpp : wr.heap.size = py at HW ⊢
      clear hpp
      generalize wr.alloc (.cells #[.int .i64 (g xs k).due, .int .i64 (g xs k).kind, .int .i64 (g xs k).key] 29) = w3 at HSX HW ⊢
      have HC := Lib.hid (Put_any HSX.out.sa (g xs k))
      unfold agg at HC
      refine HC.out.mono ?_
      rintro e w4 ⟨rfl, ha, hm4⟩
      have HS4 := Lib.hid (HSX.out.puts ha hm4)
      have HW4 := Lib.hid (show Whole w4 py 29 (three (g xs k)) from hm4.whole HW.out (by simpa using HSX.out.sa.ne HW.out))
      clear ha hm4 HSX HC HS HW
      obtain ⟨c0, c1, c2⟩ := three_cells HW4.out
      go_wp2_with fail
      have HC := Lib.hid (Put_any HS4.out.ta (g xs k))
      unfold agg at HC
      refine HC.out.mono ?_
      rintro e w5 ⟨rfl, ha, hm5⟩
      have HS5 := Lib.hid (HS4.out.putt ha hm5)
      clear ha hm5 HS4 HC HW4 c0 c1 c2
      go_wp2_with fail
      go_roundw
      case rel => exact ⟨k + 1, _, rfl, by omega, HS5, Lib.hid (HMY.out.put _)⟩
      case measure => simp [intOf]; omega
    · have d1 : decide ((k : Int) < (n : Int)) = false := by simp; omega
      go_wp2_with fail
      refine (List_any HS.out.sa).mono ?_
      rintro e w3 ⟨v, rfl, ho, hb⟩
      have HS3 := Lib.hid (HS.out.on hb)
      have HV := Lib.hid ho
      have HLO := Lib.hid HS.out.below.size
      clear hb HS ho
      go_wp2_with fail
      refine (List_any HS3.out.sa).mono ?_
      rintro e w4 ⟨v2, rfl, ho2, hb2⟩
      have HQ := Lib.hid (show Pq w w4 s t L L v L v2 from ⟨HS3.out.on hb2, own_base ho2 HS3.out.below.size, own_base ((Mod.of_below hb2 []).own HV.out (by simp)) HLO.out, fun k hk hq => by
        have h1 := (HV.out.lt k hk).2
        have h2 := (ho2.lt k hq).1
        omega⟩)
      obtain ⟨PA, pc, hv, _, _⟩ := own_shapeI HV.out
      obtain ⟨QA, qc, hv2, _, _⟩ := own_shapeI ho2
      subst hv hv2
      clear ho2 hb2 HS3 HV
      have hm32 : L.length ≤ 32 := HQ.out.sx.sa.good.le
      obtain ⟨m, hm1⟩ : ∃ m, L.length = m := ⟨_, rfl⟩
      have HM := Lib.hid hm1
      rw [hm1] at HQ hm32 ⊢
      clear hm1
      go_wp2_with fail
      go_loopw [112] (fun i wx => ∃ (j : Nat) (ps : List It), i = .int .i64 (j : Int) ∧ j ≤ m ∧ Hid (ps.length = m) ∧ Hid (Pq w wx s t L L (.slice PA m pc) ps (.slice QA m qc))) (fun i _ => m - (intOf i).toNat)
      case atStart => exact ⟨0, L, rfl, Nat.zero_le _, HM, HQ⟩
      case round =>
        obtain ⟨j, ps, rfl, hj, HPL, HK⟩ := hrel
        by_cases hjm : j < m
        · have hw : IntKind.i64.wrap ((j : Int) + 1) = (j : Int) + 1 := IntWalk.i64_in _ (by omega)
          have d2 : (j : Int) < (m : Int) := by omega
          have d3 : (0 : Int) ≤ (j : Int) := by omega
          have hrow := HK.out.pp
          rw [HPL.out] at hrow
          obtain ⟨pg, hpa, hfr, hce⟩ := row_open hrow (by omega)
          subst hpa
          obtain ⟨i0, i1, i2⟩ := hce j hjm
          have f0 := hfr (j * 3)
          have f1 := hfr (j * 3 + 1)
          have f2 := hfr (j * 3 + 2)
          have hset := set_row hrow hjm (neg (-9))
          have HK2 := Lib.hid (HK.out.turn (mod3 wr pg (j * 3) (j * 3 + 1) (j * 3 + 2) (.int .i64 (neg (-9)).due) (.int .i64 (neg (-9)).kind) (.int .i64 (neg (-9)).key)) (v' := .slice (some ⟨pg, 0, none⟩) m pc) (ps' := ps.set j (neg (-9))) (by rw [List.length_set, HPL.out]; exact hset) (.inl rfl))
          clear hrow hfr hce hset
          simp only [neg] at HK2
          go_wp2_with fail
          go_roundw
          case rel => exact ⟨j + 1, _, rfl, by omega, Lib.hid (by rw [List.length_set]; exact HPL.out), HK2⟩
          case measure => simp [intOf]; omega
        · have d2 : decide ((j : Int) < (m : Int)) = false := by simp; omega
          go_wp2_with fail
          go_loopw [16, 19] (fun pv i wx => ∃ (r : Nat) (ps : List It), i = .int .i64 (r : Int) ∧ r ≤ 20 ∧ Hid (ps.length = m + r) ∧ Hid (Pq w wx s t L L pv ps (.slice QA m qc))) (fun pv i _ => 20 - (intOf i).toNat)
          case atStart => exact ⟨0, ps, rfl, Nat.zero_le _, HPL, HK⟩
          case round =>
            obtain ⟨r, ps3, rfl, hr, HPL3, HK3⟩ := hrel
            obtain ⟨PA3, pc3, hv3, _, _⟩ := own_shapeI HK3.out.pp
            subst hv3
            by_cases hr20 : r < 20
            · have hw : IntKind.i64.wrap ((r : Int) + 1) = (r : Int) + 1 := IntWalk.i64_in _ (by omega)
              have d4 : decide ((r : Int) < 20) = true := by simp; omega
              have HKA := Lib.hid (HK3.out.on ((Below.refl _ wr).alloc (Nat.le_refl _) (.cells (three (neg (-8))) 29)))
              have HWA := Lib.hid (Whole.new wr 29 (three (neg (-8))))
              go_wp2_with (at_builtin; refine app_row rfl (.tmp 124) (.tmp 126) rfl HKA.out.pp HWA.out (by have := HPL3.out; omega) HKA.out.sx.below.size rfl rfl ?_; intro v' w6 hn1 hn2 hn3; have HK6 := Lib.hid (HKA.out.turn hn2 hn1 hn3); clear hn1 hn2 hn3)
              go_roundw
              case rel => exact ⟨r + 1, _, rfl, by omega, Lib.hid (by rw [List.length_append, HPL3.out]; rfl), HK6⟩
              case measure => simp [intOf]; omega
            · have d4 : decide ((r : Int) < 20) = false := by simp; omega
              have HY := HMY
              go_wp2_with fail
              go_loopw [20] (fun u20 wx => ∃ M : List It, Hid (Mays M) ∧ Hid (Pq w wx s t L M (.slice PA3 ps3.length pc3) ps3 (.slice QA m qc))) (fun _ wx => cnt s wx)
              case atStart => exact ⟨L, HMY, HK3⟩
              case round =>
                obtain ⟨M, HMM, HK4⟩ := hrel
                have HCN := Lib.hid (cnt_of HK4.out.sx.sa)
                obtain ⟨hh, k1, k2⟩ := HK4.out.sx.sa
                clear k2
                go_wp2_with fail
                refine (Len_any k1).mono ?_
                rintro e w7 ⟨rfl, q, e1⟩
                have hb : Below wr.heap.size wr w7 := by rw [e1]; exact drewN_below wr q
                have HK5 := Lib.hid (HK4.out.on hb)
                clear hb e1 k1 HK4
                cases M with
                | nil =>
                  have hz : ((([] : List It).length : Nat) : Int) = 0 := rfl
                  rw [hz]
                  go_wp2_with fail
                  refine (List_any HK5.out.sx.ta).mono ?_
                  rintro e w8 ⟨v8, rfl, ho8, hb8⟩
                  obtain ⟨A8, c8, hv8, _, _⟩ := own_shapeI ho8
                  subst hv8
                  have HK6 := Lib.hid (HK5.out.on hb8)
                  have HI1 := Lib.hid (ItsAt.own (A := QA) (n := m) (c := qc) (by have h := HK6.out.qq; rw [HM.out] at h; exact h))
                  have HI2 := Lib.hid (ItsAt.own ho8)
                  have hm9 : L.length = m := HM.out
                  rw [hm9]
                  clear ho8 hb8 HK5 hm9
                  go_wp2_with fail
                  refine (RSame HI1.out HI2.out HM.out HM.out (by omega)).mono ?_
                  rintro e w9 ⟨he, hb9⟩
                  have he2 : e = .returned (.bool true) := by rw [he, decide_eq_true rfl]
                  subst he2
                  have HB9 := Lib.hid (below_on HK6.out.sx.below hb9)
                  clear he hb9 HI1 HI2 HK6
                  go_wp2_with fail
                  go_ret
                  exact ⟨rfl, HB9.out⟩
                | cons y M =>
                  have hz : (((y :: M).length : Nat) : Int) = (M.length : Int) + 1 := by simp
                  have hM32 : M.length < 32 := by have := HK5.out.sx.sa.good.le; simp at this; omega
                  have HMZ := Lib.hid (show Mays M from fun z hz => HMM.out z (List.mem_cons_of_mem _ hz))
                  have HTK := Lib.hid (tk_all (r := M) (HMM.out y (List.mem_cons_self ..)))
                  rw [hz]
                  have d5 : decide ((0 : Int) < (M.length : Int) + 1) = true := decide_eq_true (by omega)
                  have s1 : IntKind.i64.wrap ((M.length : Int) + 1 - 1) = (M.length : Int) := by rw [IntWalk.i64_in _ (by omega)]; omega
                  obtain ⟨hh5, k5, k6⟩ := HK5.out.sx.sa
                  clear k6
                  have HL5 := Lib.hid (Len_any k5)
                  rw [hz] at HL5
                  clear k5 hz
                  go_wp2_with fail
                  refine HL5.out.mono ?_
                  rintro e w8 ⟨rfl, q, e1⟩
                  have hb : Below w7.heap.size w7 w8 := by rw [e1]; exact drewN_below w7 q
                  have HK6 := Lib.hid (HK5.out.on hb)
                  clear hb e1 HK5 HL5
                  go_wp2_with fail
                  refine (Take_any HK6.out.sx.sa 4611686018427387904).mono ?_
                  rintro e w9 ⟨rfl, ha, hm9⟩
                  rw [HTK.out.1] at ha
                  rw [HTK.out.2]
                  have HK7 := Lib.hid (HK6.out.puts ha hm9)
                  clear ha hm9 HK6
                  obtain ⟨hh7, k7, k8⟩ := HK7.out.sx.sa
                  clear k8
                  go_wp2_with fail
                  refine (Len_any k7).mono ?_
                  rintro e w10 ⟨rfl, q2, e1⟩
                  have hb : Below w9.heap.size w9 w10 := by rw [e1]; exact drewN_below w9 q2
                  have HK8 := Lib.hid (HK7.out.on hb)
                  clear hb e1 k7 HK7
                  go_wp2_with fail
                  go_roundw
                  case rel => exact ⟨M, HMZ, HK8⟩
                  case measure =>
                    rw [cnt_of HK8.out.sx.sa, HCN.out]
                    simp

theorem own : ownKnob Try.prog.godebug = none := by kernel_rfl
theorem laidOut : laidOutB Try.prog = true := by kernel_rfl
set_option maxRecDepth 100000 in
theorem lifted (os : Os) (started : os.Started) (H : Type) (enc : TypeId × Value → H) :
    ReturnsInHanded {} Try.checked os 7 .any (Rows.agendaOwnSpec.pre6 enc Try.prog Try.f7 [] false) (Rows.agendaOwnSpec.post enc Try.prog Try.f7 false true false false) := by
  refine LK.lifted_bare (C := Try.checked) (tb := 4) own started (by kernel_rfl) Try.func7 laidOut rfl (by kernel_rfl) (by kernel_rfl) Try.underlying4
    (fun ds h => by
      match ds, h with
      | [_, _], _ => rfl)
    (ChangeSpec.witness6 (enc := enc) (C := Try.checked) false ⟨#[], #[.slice none 0 0, .agg #[.int .i64 0, .int .i64 0, .int .i64 0]], []⟩ 8 (by kernel_rfl) (by kernel_rfl) (by kernel_rfl) (by kernel_rfl)) ?_
  intro W base args ds ps hval hA hwt _
  rw [show Try.f7.params.toList = [32, 29] by kernel_rfl] at hA hwt
  have hval' : ∀ (j : Nat) t v, (#[32, 29] : Array TypeId)[j]? = some t → args[j]? = some v → Value.okWide Try.prog W .any base t v := by
    rw [← Try.params7]; exact hval
  clear hval
  obtain ⟨v0, v1, d0, d1, pl0, pl1, rfl, rfl, rfl, h0, h1⟩ := trodAll_two hA
  obtain ⟨A0, c0, xs0, rfl, hP0, hc0, hm0, hl0⟩ := open_items (hval' 0 32 v0 rfl rfl) h0 hwt (j := 0) rfl rfl
  obtain ⟨x1, rfl, hX1⟩ := open_item (hval' 1 29 v1 rfl rfl) h1
  exact walk A0 c0 xs0 x1 W hP0 hc0 hm0 hl0 hX1

/-- The statement. -/
theorem proved : Rows.AgendaOwnSaid :=
  OpenClaim.holds_of_wide 7 Try.f7 rfl rfl rfl rfl rfl rfl rfl ⟨rfl, rfl, rfl, rfl, rfl⟩ rfl rfl rfl rfl rfl (by kernel_rfl) Try.func7 (by kernel_rfl)
    (of_decide_eq_true (by kernel_rfl)) (by unfold Func.isWrapper; first | (rw [if_pos (by decide +kernel)]; kernel_rfl) | (rw [if_neg (by decide +kernel)]; exact ⟨rfl, rfl⟩))
    (fun os started H enc _ => lifted os started H enc)

end Go.Proofs.Ytkgipdhbaiaaeaa.lawAgendaOwn
