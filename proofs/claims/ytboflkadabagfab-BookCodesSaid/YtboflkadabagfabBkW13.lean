/- May a book be? The package's calls. -/
import Derived.Test.YtboflkadabagfabBkW12
namespace Go.Proofs.Ytboflkadabagfab
open Go.RowKit
open BM (Gr Rc Bk g0 r0 b0)
set_option linter.unusedVariables false
set_option linter.unusedSimpArgs false
set_option maxRecDepth 100000
theorem stand_at {l : List Gr} {n ah : Int} {k : Nat} (h : BM.stand 0 n l = BM.stand ah n (l.drop k)) (hk : k < l.length) : BM.stand 0 n l = (BM.okGr l[k] && (decide (ah < (l[k]).id) && (decide (BM.last (l[k]).stamp < n) && BM.stand (l[k]).id n (l.drop (k + 1))))) := by
  rw [h, List.drop_eq_getElem_cons hk, BM.stand]
set_option maxHeartbeats 4000000 in
theorem b_mayStand (v : Value) (l : List Gr) (n : Int) (w : World) (h : HdG w v l) (hn : In64 n) :
    Calls Try.prog 35 #[v, .int .i64 n] w fun e w' => e = .returned (.bool (decide (l.length ≤ 6) && BM.stand 0 n l)) ∧ Below w.heap.size w w' := by
  obtain ⟨A, c, rfl, hA, ha, hc, hca⟩ := h
  have HA := Lib.hid hA; clear hA
  by_cases h6 : l.length ≤ 6
  · rw [decide_eq_true h6, Bool.true_and]
    go_enter Try.func35, Try.ntmps35
    go_wp2_with fail
    go_loopw [5, 13] (fun s5 i wx => ∃ (k : Nat) (ah : Int), i = .int .i64 (k : Int) ∧ s5 = .int .i64 ah ∧ k ≤ l.length ∧ Below w.heap.size w wx ∧ Hid (BM.stand 0 n l = BM.stand ah n (l.drop k))) (fun _ i _ => l.length - (intOf i).toNat)
    case atStart => exact ⟨0, 0, rfl, rfl, by omega, Below.refl _ _, Lib.hid (by rw [List.drop_zero])⟩
    case round =>
      obtain ⟨k, ah, rfl, rfl, hk, hW, HT⟩ := hrel
      have HW := Lib.hid hW; clear hW
      by_cases hlt : k < l.length
      · obtain ⟨ba, oa, eA, hza, hca'⟩ := (HA.out.below HW.out) (by omega)
        subst eA
        obtain ⟨Ax, cx, ⟨a0, a1, a2, a3, a4, a5⟩, hfa⟩ := (hca' k l[k] (List.getElem?_eq_getElem hlt)).open_
        have HFA := Lib.hid hfa; clear hfa
        clear hca'
        have HS := Lib.hid (stand_at HT.out hlt)
        generalize l[k] = x at HFA a0 a1 a2 a3 a4 a5 HS
        have HX0 := Lib.hid ((Below.refl _ wr).alloc (Nat.le_refl _) (.cells (six x (.slice Ax x.stamp.length cx)) 26))
        have HK0 := Lib.hid (Whole.new wr 26 (six x (.slice Ax x.stamp.length cx)))
        go_wp2_with fail
        refine (b_mayGrant (.slice Ax x.stamp.length cx) x _ (HFA.out.below HX0.out)).mono ?_
        rintro e w5 ⟨rfl, hb5⟩
        have HX5 := Lib.hid (below_on (below_on HW.out HX0.out) hb5)
        have HK5 := (Mod.of_below hb5 []).whole HK0.out (by simp)
        have HF5 := Lib.hid (HFA.out.below (HX0.out.trans (hb5.mono HX0.out.size)))
        have k0 : w5.cell? ⟨wr.heap.size, 0, none⟩ = some (.int .i64 x.id) := HK5.cell 0
        have k4 : w5.cell? ⟨wr.heap.size, 4, none⟩ = some (.slice Ax x.stamp.length cx) := HK5.cell 4
        clear hb5 HK5 a0 a1 a2 a3 a4 a5
        by_cases ok : BM.okGr x = true
        · rw [ok]
          have HOK := Lib.hid ok
          clear ok
          by_cases h1 : ah < x.id
          · have d1 : decide (x.id ≤ ah) = false := by simp; omega
            go_wp2_with fail
            refine (b_last _ x.stamp _ HF5.out.hd (BM.stamp_parts (BM.okGr_parts HOK.out).2.2.2.2.1).1).mono ?_
            rintro e w6 ⟨rfl, rfl⟩
            by_cases h2 : BM.last x.stamp < n
            · have d2 : decide (n ≤ BM.last x.stamp) = false := by simp; omega
              have HN := Lib.hid (show BM.stand 0 n l = BM.stand x.id n (l.drop (k + 1)) by rw [HS.out, HOK.out, decide_eq_true h1, decide_eq_true h2]; rfl)
              clear h1 h2
              go_wp2_with fail
              go_roundw
              case rel => exact ⟨k + 1, x.id, rfl, rfl, by omega, HX5.out, HN⟩
              case measure => simp only [intOf]; omega
            · have d2 : decide (n ≤ BM.last x.stamp) = true := by simp; omega
              have HN := Lib.hid (show BM.stand 0 n l = false by rw [HS.out, HOK.out, decide_eq_true h1, decide_eq_false h2]; rfl)
              clear h1 h2
              go_wp2_with fail
              try rw [Exit.noGoto_ret]
              go_ret
              exact bools HN.out.symm HX5.out
          · have d1 : decide (x.id ≤ ah) = true := by simp; omega
            have HN := Lib.hid (show BM.stand 0 n l = false by rw [HS.out, HOK.out, decide_eq_false h1]; rfl)
            clear h1
            go_wp2_with fail
            try rw [Exit.noGoto_ret]
            go_ret
            exact bools HN.out.symm HX5.out
        · have okf : BM.okGr x = false := by simpa using ok
          rw [okf]
          have HN := Lib.hid (show BM.stand 0 n l = false by rw [HS.out, okf]; rfl)
          clear ok okf
          go_wp2_with fail
          try rw [Exit.noGoto_ret]
          go_ret
          exact bools HN.out.symm HX5.out
      · have HN := Lib.hid (show BM.stand 0 n l = true by rw [HT.out, List.drop_of_length_le (by omega)]; rfl)
        go_wp2_with fail
        go_ret
        exact bools HN.out.symm HW.out
  · rw [decide_eq_false h6, Bool.false_and]
    go_enter Try.func35, Try.ntmps35
    go_wp2_with fail
    go_ret
    exact bools rfl (Below.refl _ _)
set_option maxHeartbeats 4000000 in
theorem b_Valid (v : Value) (b : Bk) (w : World) (h : FitB w v b) :
    Calls Try.prog 14 #[.agg (four b v)] w fun e w' => e = .returned (.bool (BM.okBk b)) ∧ Below w.heap.size w w' := by
  have HX := Lib.hid ((Below.refl _ w).alloc (Nat.le_refl _) (.cells (four b v) 45))
  have HB := Lib.hid (h.below HX.out)
  have HK := (Whole.new w 45 (four b v))
  have a0 : (w.alloc (.cells (four b v) 45)).cell? ⟨w.heap.size, 0, none⟩ = some (.int .i64 b.next) := HK.cell 0
  have a1 : (w.alloc (.cells (four b v) 45)).cell? ⟨w.heap.size, 1, none⟩ = some (.int .i64 b.boots) := HK.cell 1
  have a2 : (w.alloc (.cells (four b v) 45)).cell? ⟨w.heap.size, 2, none⟩ = some (.int .i64 b.longest) := HK.cell 2
  have a3 : (w.alloc (.cells (four b v) 45)).cell? ⟨w.heap.size, 3, none⟩ = some v := HK.cell 3
  clear HK h
  have HE := Lib.hid (show BM.okBk b = (BM.isNext b.next && (BM.isBoots b.boots && (BM.isLongest b.longest && (decide (b.gs.length ≤ 6) && BM.stand 0 b.next b.gs)))) from rfl)
  have QN := Lib.hid (b_isNext b.next)
  have QB := Lib.hid (b_isBoots b.boots)
  have QL := Lib.hid (fun w => b_isLongest b.longest w HB.out.longest)
  cases hq1 : BM.isNext b.next with
  | false =>
    rw [hq1] at QN HE
    clear hq1
    go_enter Try.func14, Try.ntmps14
    go_wp2_with (go_at_call 32; refine (QN.out _).mono ?_; rintro x w9 ⟨rfl, rfl⟩)
    go_ret
    exact bools HE.out.symm HX.out
  | true =>
    rw [hq1] at QN HE
    clear hq1
    cases hq2 : BM.isBoots b.boots with
    | false =>
      rw [hq2] at QB HE
      clear hq2
      go_enter Try.func14, Try.ntmps14
      go_wp2_with (first | (go_at_call 32; refine (QN.out _).mono ?_; rintro x w9 ⟨rfl, rfl⟩) | (go_at_call 33; refine (QB.out _).mono ?_; rintro x w9 ⟨rfl, rfl⟩))
      go_ret
      exact bools HE.out.symm HX.out
    | true =>
      rw [hq2] at QB HE
      clear hq2
      cases hq3 : BM.isLongest b.longest with
      | false =>
        rw [hq3] at QL HE
        clear hq3
        go_enter Try.func14, Try.ntmps14
        go_wp2_with (first | (go_at_call 32; refine (QN.out _).mono ?_; rintro x w9 ⟨rfl, rfl⟩) | (go_at_call 33; refine (QB.out _).mono ?_; rintro x w9 ⟨rfl, rfl⟩) | (go_at_call 34; refine (QL.out _).mono ?_; rintro x w9 ⟨rfl, rfl⟩))
        go_ret
        exact bools HE.out.symm HX.out
      | true =>
        rw [hq3] at QL HE
        clear hq3
        go_enter Try.func14, Try.ntmps14
        go_wp2_with (first | (go_at_call 32; refine (QN.out _).mono ?_; rintro x w9 ⟨rfl, rfl⟩) | (go_at_call 33; refine (QB.out _).mono ?_; rintro x w9 ⟨rfl, rfl⟩) | (go_at_call 34; refine (QL.out _).mono ?_; rintro x w9 ⟨rfl, rfl⟩) | (go_at_call 35; refine (b_mayStand v b.gs b.next _ HB.out.gs HB.out.next).mono ?_; rintro x w9 ⟨rfl, hb⟩; replace HX := Lib.hid (below_on HX.out hb); clear hb a0 a1 a2 a3))
        go_ret
        exact bools HE.out.symm HX.out
end Go.Proofs.Ytboflkadabagfab
