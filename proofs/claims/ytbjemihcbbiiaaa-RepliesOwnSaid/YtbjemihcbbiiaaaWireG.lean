/- Texts that belong together: WireW5a, WireW5r. -/
import Derived.Test.YtbjemihcbbiiaaaWireE
namespace Go.Proofs.Ytbjemihcbbiiaaa
open Go.RowKit
open Oct (RAt BytesAt)
open WM (Msg)
set_option linter.unusedVariables false
set_option maxRecDepth 100000
theorem askT_1 (m : Msg) (s : WM.St) (h0 : (WM.tnum ((WM.tnum ((WM.tnum ((WM.tnum (s)).2)).2)).2)).1 = 1) : WM.askT m s = (({ ({ ({ ({ ({ ({ ({ (m) with boot := (WM.tnum (s)).1 }) with seq := (WM.tnum ((WM.tnum (s)).2)).1 }) with low := (WM.tnum ((WM.tnum ((WM.tnum (s)).2)).2)).1 }) with verb := (WM.tnum ((WM.tnum ((WM.tnum ((WM.tnum (s)).2)).2)).2)).1 }) with path := (WM.ttext ((WM.tnum ((WM.tnum ((WM.tnum ((WM.tnum (s)).2)).2)).2)).2)).1 }) with mode := (WM.tnum ((WM.ttext ((WM.tnum ((WM.tnum ((WM.tnum ((WM.tnum (s)).2)).2)).2)).2)).2)).1 }) with term := (WM.tnum ((WM.tnum ((WM.ttext ((WM.tnum ((WM.tnum ((WM.tnum ((WM.tnum (s)).2)).2)).2)).2)).2)).2)).1 } : Msg), (WM.tnum ((WM.tnum ((WM.ttext ((WM.tnum ((WM.tnum ((WM.tnum ((WM.tnum (s)).2)).2)).2)).2)).2)).2)).2) := by
  unfold WM.askT
  simp only [if_pos h0]
theorem askT_2 (m : Msg) (s : WM.St) (h0 : ¬ (WM.tnum ((WM.tnum ((WM.tnum ((WM.tnum (s)).2)).2)).2)).1 = 1) (h1 : (WM.tnum ((WM.tnum ((WM.tnum ((WM.tnum (s)).2)).2)).2)).1 = 2) : WM.askT m s = (({ ({ ({ ({ ({ ({ ({ (m) with boot := (WM.tnum (s)).1 }) with seq := (WM.tnum ((WM.tnum (s)).2)).1 }) with low := (WM.tnum ((WM.tnum ((WM.tnum (s)).2)).2)).1 }) with verb := (WM.tnum ((WM.tnum ((WM.tnum ((WM.tnum (s)).2)).2)).2)).1 }) with id := (WM.tnum ((WM.tnum ((WM.tnum ((WM.tnum ((WM.tnum (s)).2)).2)).2)).2)).1 }) with term := (WM.tnum ((WM.tnum ((WM.tnum ((WM.tnum ((WM.tnum ((WM.tnum (s)).2)).2)).2)).2)).2)).1 }) with fresh := decide ((WM.tnum ((WM.tnum ((WM.tnum ((WM.tnum ((WM.tnum ((WM.tnum ((WM.tnum (s)).2)).2)).2)).2)).2)).2)).1 = 1) } : Msg), (WM.tnum ((WM.tnum ((WM.tnum ((WM.tnum ((WM.tnum ((WM.tnum ((WM.tnum (s)).2)).2)).2)).2)).2)).2)).2) := by
  unfold WM.askT
  simp only [if_neg h0, if_pos h1]
theorem askT_3 (m : Msg) (s : WM.St) (h0 : ¬ (WM.tnum ((WM.tnum ((WM.tnum ((WM.tnum (s)).2)).2)).2)).1 = 1) (h1 : ¬ (WM.tnum ((WM.tnum ((WM.tnum ((WM.tnum (s)).2)).2)).2)).1 = 2) (h2 : (WM.tnum ((WM.tnum ((WM.tnum ((WM.tnum (s)).2)).2)).2)).1 = 3) : WM.askT m s = (({ ({ ({ ({ ({ (m) with boot := (WM.tnum (s)).1 }) with seq := (WM.tnum ((WM.tnum (s)).2)).1 }) with low := (WM.tnum ((WM.tnum ((WM.tnum (s)).2)).2)).1 }) with verb := (WM.tnum ((WM.tnum ((WM.tnum ((WM.tnum (s)).2)).2)).2)).1 }) with id := (WM.tnum ((WM.tnum ((WM.tnum ((WM.tnum ((WM.tnum (s)).2)).2)).2)).2)).1 } : Msg), (WM.tnum ((WM.tnum ((WM.tnum ((WM.tnum ((WM.tnum (s)).2)).2)).2)).2)).2) := by
  unfold WM.askT
  simp only [if_neg h0, if_neg h1, if_pos h2]
theorem askT_4 (m : Msg) (s : WM.St) (h0 : ¬ (WM.tnum ((WM.tnum ((WM.tnum ((WM.tnum (s)).2)).2)).2)).1 = 1) (h1 : ¬ (WM.tnum ((WM.tnum ((WM.tnum ((WM.tnum (s)).2)).2)).2)).1 = 2) (h2 : ¬ (WM.tnum ((WM.tnum ((WM.tnum ((WM.tnum (s)).2)).2)).2)).1 = 3) : WM.askT m s = (({ ({ ({ ({ (m) with boot := (WM.tnum (s)).1 }) with seq := (WM.tnum ((WM.tnum (s)).2)).1 }) with low := (WM.tnum ((WM.tnum ((WM.tnum (s)).2)).2)).1 }) with verb := (WM.tnum ((WM.tnum ((WM.tnum ((WM.tnum (s)).2)).2)).2)).1 } : Msg), (WM.tnum ((WM.tnum ((WM.tnum ((WM.tnum (s)).2)).2)).2)).2) := by
  unfold WM.askT
  simp only [if_neg h0, if_neg h1, if_neg h2]
set_option maxHeartbeats 4000000 in
theorem rask_any (w0 w : World) (q r b g : Nat) (s : WM.St) (m : Msg) (sv : Value) (h : Both6 w0 w q r b g s m sv) :
    Calls Try.prog 47 #[.pointer (some ⟨q, 0, none⟩), .pointer (some ⟨g, 0, none⟩)] w fun e w' => e = .returned (.tuple #[]) ∧ ∃ sv', Both6 w0 w' q r b g (WM.askT m s).2 (WM.askT m s).1 sv' := by
  have HB := Lib.hid h.drew
  have hgq := h.gq
  have HS := h.drew.rd.ptr
  clear h
  go_enter Try.func47, Try.ntmps47
  go_wp2_with fail
  go_region_held3 (fun w2 : World => w2.cell? ⟨q, 0, none⟩ = some (.pointer (some ⟨r, 0, none⟩)))
    (first
      | exact HS
      | (go_keep; done))
    (first
      | (go_at_call 65; refine (num_tnum _ q r b _ HB.out.rd).mono ?_; rintro x w1 ⟨rfl, hT⟩; replace HB := Lib.hid (HB.out.took hT); clear hT; (try clear c0 c1 c2 c3 c4 c5 c6 c7 c8 c9 c10 c11 c12 c13 c14 c15); (try clear f3 f4 f5 f6); replace HS := HB.out.rd.ptr; have f3 := HB.out.blk.frozen 3; have f4 := HB.out.blk.frozen 4; have f5 := HB.out.blk.frozen 5; have f6 := HB.out.blk.frozen 6; obtain ⟨c0, c1, c2, c3, c4, c5, c6, c7, c8, c9, c10, c11, c12, c13, c14, c15⟩ := msg_cells HB.out.blk))
  all_goals
    have HB2 := Lib.hid (((((HB.out).stored 3 (.int .i64 (WM.tnum (s)).1) ({ (m) with boot := (WM.tnum (s)).1 } : Msg) rfl rfl).stored 4 (.int .i64 (WM.tnum ((WM.tnum (s)).2)).1) ({ ({ (m) with boot := (WM.tnum (s)).1 }) with seq := (WM.tnum ((WM.tnum (s)).2)).1 } : Msg) rfl rfl).stored 5 (.int .i64 (WM.tnum ((WM.tnum ((WM.tnum (s)).2)).2)).1) ({ ({ ({ (m) with boot := (WM.tnum (s)).1 }) with seq := (WM.tnum ((WM.tnum (s)).2)).1 }) with low := (WM.tnum ((WM.tnum ((WM.tnum (s)).2)).2)).1 } : Msg) rfl rfl).stored 6 (.int .i64 (WM.tnum ((WM.tnum ((WM.tnum ((WM.tnum (s)).2)).2)).2)).1) ({ ({ ({ ({ (m) with boot := (WM.tnum (s)).1 }) with seq := (WM.tnum ((WM.tnum (s)).2)).1 }) with low := (WM.tnum ((WM.tnum ((WM.tnum (s)).2)).2)).1 }) with verb := (WM.tnum ((WM.tnum ((WM.tnum ((WM.tnum (s)).2)).2)).2)).1 } : Msg) rfl rfl)
    clear HB HS c0 c1 c2 c3 c4 c5 c6 c7 c8 c9 c10 c11 c12 c13 c14 c15 f3 f4 f5 f6
    generalize ((((w1.setCell ⟨g, 3, none⟩ (.int .i64 (WM.tnum (s)).1)).setCell ⟨g, 4, none⟩ (.int .i64 (WM.tnum ((WM.tnum (s)).2)).1)).setCell ⟨g, 5, none⟩ (.int .i64 (WM.tnum ((WM.tnum ((WM.tnum (s)).2)).2)).1)).setCell ⟨g, 6, none⟩ (.int .i64 (WM.tnum ((WM.tnum ((WM.tnum ((WM.tnum (s)).2)).2)).2)).1)) = w2 at HB2 ⊢
    have c6 : w2.cell? ⟨g, 6, none⟩ = some (.int .i64 (WM.tnum ((WM.tnum ((WM.tnum ((WM.tnum (s)).2)).2)).2)).1) := HB2.out.blk.cell 6
    by_cases h1 : (WM.tnum ((WM.tnum ((WM.tnum ((WM.tnum (s)).2)).2)).2)).1 = 1
    · have d1 : ((WM.tnum ((WM.tnum ((WM.tnum ((WM.tnum (s)).2)).2)).2)).1 == 1) = true := by simpa using h1
      have H1 := Lib.hid h1; clear h1
      go_wp2_with fail
      clear c6
      have HB := Lib.hid HB2.out.drew
      have HS := HB.out.rd.ptr
      go_region_held3 (fun w2 : World => w2.cell? ⟨q, 0, none⟩ = some (.pointer (some ⟨r, 0, none⟩)))
        (first
          | exact HS
          | (go_keep; done))
        (first
          | (go_at_call 73; refine (path_any _ q r b _ HB.out.rd).mono ?_; rintro x w1 ⟨rfl, hT⟩; replace HB := Lib.hid (HB.out.took hT); clear hT; (try clear c0 c1 c2 c3 c4 c5 c6 c7 c8 c9 c10 c11 c12 c13 c14 c15); (try clear f7 f8 f9); replace HS := HB.out.rd.ptr; have f7 := HB.out.blk.frozen 7; have f8 := HB.out.blk.frozen 8; have f9 := HB.out.blk.frozen 9; obtain ⟨c0, c1, c2, c3, c4, c5, c6, c7, c8, c9, c10, c11, c12, c13, c14, c15⟩ := msg_cells HB.out.blk)
          | (go_at_call 65; refine (num_tnum _ q r b _ HB.out.rd).mono ?_; rintro x w1 ⟨rfl, hT⟩; replace HB := Lib.hid (HB.out.took hT); clear hT; (try clear c0 c1 c2 c3 c4 c5 c6 c7 c8 c9 c10 c11 c12 c13 c14 c15); (try clear f7 f8 f9); replace HS := HB.out.rd.ptr; have f7 := HB.out.blk.frozen 7; have f8 := HB.out.blk.frozen 8; have f9 := HB.out.blk.frozen 9; obtain ⟨c0, c1, c2, c3, c4, c5, c6, c7, c8, c9, c10, c11, c12, c13, c14, c15⟩ := msg_cells HB.out.blk))
      all_goals
        go_wp2_with fail
        go_end0
        rw [askT_1 m s H1.out]
        exact ⟨rfl, _, (((HB.out).stored 7 _ ({ ({ ({ ({ ({ (m) with boot := (WM.tnum (s)).1 }) with seq := (WM.tnum ((WM.tnum (s)).2)).1 }) with low := (WM.tnum ((WM.tnum ((WM.tnum (s)).2)).2)).1 }) with verb := (WM.tnum ((WM.tnum ((WM.tnum ((WM.tnum (s)).2)).2)).2)).1 }) with path := (WM.ttext ((WM.tnum ((WM.tnum ((WM.tnum ((WM.tnum (s)).2)).2)).2)).2)).1 } : Msg) rfl rfl).stored 8 _ ({ ({ ({ ({ ({ ({ (m) with boot := (WM.tnum (s)).1 }) with seq := (WM.tnum ((WM.tnum (s)).2)).1 }) with low := (WM.tnum ((WM.tnum ((WM.tnum (s)).2)).2)).1 }) with verb := (WM.tnum ((WM.tnum ((WM.tnum ((WM.tnum (s)).2)).2)).2)).1 }) with path := (WM.ttext ((WM.tnum ((WM.tnum ((WM.tnum ((WM.tnum (s)).2)).2)).2)).2)).1 }) with mode := (WM.tnum ((WM.ttext ((WM.tnum ((WM.tnum ((WM.tnum ((WM.tnum (s)).2)).2)).2)).2)).2)).1 } : Msg) rfl rfl).stored 9 _ ({ ({ ({ ({ ({ ({ ({ (m) with boot := (WM.tnum (s)).1 }) with seq := (WM.tnum ((WM.tnum (s)).2)).1 }) with low := (WM.tnum ((WM.tnum ((WM.tnum (s)).2)).2)).1 }) with verb := (WM.tnum ((WM.tnum ((WM.tnum ((WM.tnum (s)).2)).2)).2)).1 }) with path := (WM.ttext ((WM.tnum ((WM.tnum ((WM.tnum ((WM.tnum (s)).2)).2)).2)).2)).1 }) with mode := (WM.tnum ((WM.ttext ((WM.tnum ((WM.tnum ((WM.tnum ((WM.tnum (s)).2)).2)).2)).2)).2)).1 }) with term := (WM.tnum ((WM.tnum ((WM.ttext ((WM.tnum ((WM.tnum ((WM.tnum ((WM.tnum (s)).2)).2)).2)).2)).2)).2)).1 } : Msg) rfl rfl⟩
    have d1 : ((WM.tnum ((WM.tnum ((WM.tnum ((WM.tnum (s)).2)).2)).2)).1 == 1) = false := by simpa using h1
    have H1 := Lib.hid h1; clear h1
    by_cases h2 : (WM.tnum ((WM.tnum ((WM.tnum ((WM.tnum (s)).2)).2)).2)).1 = 2
    · have d2 : ((WM.tnum ((WM.tnum ((WM.tnum ((WM.tnum (s)).2)).2)).2)).1 == 2) = true := by simpa using h2
      have H2 := Lib.hid h2; clear h2
      go_wp2_with fail
      clear c6
      have HB := Lib.hid HB2.out.drew
      have HS := HB.out.rd.ptr
      go_region_held3 (fun w2 : World => w2.cell? ⟨q, 0, none⟩ = some (.pointer (some ⟨r, 0, none⟩)))
        (first
          | exact HS
          | (go_keep; done))
        (first
          | (go_at_call 65; refine (num_tnum _ q r b _ HB.out.rd).mono ?_; rintro x w1 ⟨rfl, hT⟩; replace HB := Lib.hid (HB.out.took hT); clear hT; (try clear c0 c1 c2 c3 c4 c5 c6 c7 c8 c9 c10 c11 c12 c13 c14 c15); (try clear f10 f9 f11); replace HS := HB.out.rd.ptr; have f10 := HB.out.blk.frozen 10; have f9 := HB.out.blk.frozen 9; have f11 := HB.out.blk.frozen 11; obtain ⟨c0, c1, c2, c3, c4, c5, c6, c7, c8, c9, c10, c11, c12, c13, c14, c15⟩ := msg_cells HB.out.blk)
          | (go_at_call 74; refine (rflag_any _ q r b _ HB.out.rd).mono ?_; rintro x w1 ⟨rfl, hT⟩; replace HB := Lib.hid (HB.out.took hT); clear hT; (try clear c0 c1 c2 c3 c4 c5 c6 c7 c8 c9 c10 c11 c12 c13 c14 c15); (try clear f10 f9 f11); replace HS := HB.out.rd.ptr; have f10 := HB.out.blk.frozen 10; have f9 := HB.out.blk.frozen 9; have f11 := HB.out.blk.frozen 11; obtain ⟨c0, c1, c2, c3, c4, c5, c6, c7, c8, c9, c10, c11, c12, c13, c14, c15⟩ := msg_cells HB.out.blk))
      all_goals
        go_wp2_with fail
        go_end0
        rw [askT_2 m s H1.out H2.out]
        exact ⟨rfl, _, (((HB.out).stored 10 _ ({ ({ ({ ({ ({ (m) with boot := (WM.tnum (s)).1 }) with seq := (WM.tnum ((WM.tnum (s)).2)).1 }) with low := (WM.tnum ((WM.tnum ((WM.tnum (s)).2)).2)).1 }) with verb := (WM.tnum ((WM.tnum ((WM.tnum ((WM.tnum (s)).2)).2)).2)).1 }) with id := (WM.tnum ((WM.tnum ((WM.tnum ((WM.tnum ((WM.tnum (s)).2)).2)).2)).2)).1 } : Msg) rfl rfl).stored 9 _ ({ ({ ({ ({ ({ ({ (m) with boot := (WM.tnum (s)).1 }) with seq := (WM.tnum ((WM.tnum (s)).2)).1 }) with low := (WM.tnum ((WM.tnum ((WM.tnum (s)).2)).2)).1 }) with verb := (WM.tnum ((WM.tnum ((WM.tnum ((WM.tnum (s)).2)).2)).2)).1 }) with id := (WM.tnum ((WM.tnum ((WM.tnum ((WM.tnum ((WM.tnum (s)).2)).2)).2)).2)).1 }) with term := (WM.tnum ((WM.tnum ((WM.tnum ((WM.tnum ((WM.tnum ((WM.tnum (s)).2)).2)).2)).2)).2)).1 } : Msg) rfl rfl).stored 11 _ ({ ({ ({ ({ ({ ({ ({ (m) with boot := (WM.tnum (s)).1 }) with seq := (WM.tnum ((WM.tnum (s)).2)).1 }) with low := (WM.tnum ((WM.tnum ((WM.tnum (s)).2)).2)).1 }) with verb := (WM.tnum ((WM.tnum ((WM.tnum ((WM.tnum (s)).2)).2)).2)).1 }) with id := (WM.tnum ((WM.tnum ((WM.tnum ((WM.tnum ((WM.tnum (s)).2)).2)).2)).2)).1 }) with term := (WM.tnum ((WM.tnum ((WM.tnum ((WM.tnum ((WM.tnum ((WM.tnum (s)).2)).2)).2)).2)).2)).1 }) with fresh := decide ((WM.tnum ((WM.tnum ((WM.tnum ((WM.tnum ((WM.tnum ((WM.tnum ((WM.tnum (s)).2)).2)).2)).2)).2)).2)).1 = 1) } : Msg) rfl rfl⟩
    have d2 : ((WM.tnum ((WM.tnum ((WM.tnum ((WM.tnum (s)).2)).2)).2)).1 == 2) = false := by simpa using h2
    have H2 := Lib.hid h2; clear h2
    by_cases h3 : (WM.tnum ((WM.tnum ((WM.tnum ((WM.tnum (s)).2)).2)).2)).1 = 3
    · have d3 : ((WM.tnum ((WM.tnum ((WM.tnum ((WM.tnum (s)).2)).2)).2)).1 == 3) = true := by simpa using h3
      have H3 := Lib.hid h3; clear h3
      have HS := HB2.out.rd.ptr
      go_wp2_with fail
      refine (num_tnum _ q r b _ HB2.out.rd).mono ?_
      rintro x w1 ⟨rfl, hT⟩
      have HB := Lib.hid (HB2.out.took hT)
      clear hT HS c6
      have f10 := HB.out.blk.frozen 10
      obtain ⟨c0, c1, c2, c3, c4, c5, c6, c7, c8, c9, c10, c11, c12, c13, c14, c15⟩ := msg_cells HB.out.blk
      go_wp2_with fail
      go_end0
      rw [askT_3 m s H1.out H2.out H3.out]
      exact ⟨rfl, _, (HB.out).stored 10 _ ({ ({ ({ ({ ({ (m) with boot := (WM.tnum (s)).1 }) with seq := (WM.tnum ((WM.tnum (s)).2)).1 }) with low := (WM.tnum ((WM.tnum ((WM.tnum (s)).2)).2)).1 }) with verb := (WM.tnum ((WM.tnum ((WM.tnum ((WM.tnum (s)).2)).2)).2)).1 }) with id := (WM.tnum ((WM.tnum ((WM.tnum ((WM.tnum ((WM.tnum (s)).2)).2)).2)).2)).1 } : Msg) rfl rfl⟩
    have d3 : ((WM.tnum ((WM.tnum ((WM.tnum ((WM.tnum (s)).2)).2)).2)).1 == 3) = false := by simpa using h3
    have H3 := Lib.hid h3; clear h3
    go_wp2_with fail
    go_end0
    rw [askT_4 m s H1.out H2.out H3.out]
    exact ⟨rfl, _, HB2.out⟩
end Go.Proofs.Ytbjemihcbbiiaaa
namespace Go.Proofs.Ytbjemihcbbiiaaa
open Go.RowKit
open Oct (RAt BytesAt)
open WM (Msg)
set_option linter.unusedVariables false
set_option maxRecDepth 100000
theorem replyT_0 (m : Msg) (s : WM.St) (h0 : (WM.tnum ((WM.tnum ((WM.tnum (s)).2)).2)).1 = 0) : WM.replyT 4 m s = (({ ({ ({ ({ ({ ({ (m) with boot := (WM.tnum (s)).1 }) with seq := (WM.tnum ((WM.tnum (s)).2)).1 }) with code := (WM.tnum ((WM.tnum ((WM.tnum (s)).2)).2)).1 }) with id := (WM.tnum ((WM.tnum ((WM.tnum ((WM.tnum (s)).2)).2)).2)).1 }) with term := (WM.tnum ((WM.tnum ((WM.tnum ((WM.tnum ((WM.tnum (s)).2)).2)).2)).2)).1 }) with stamp := (WM.tstamp 4 ((WM.tnum ((WM.tnum ((WM.tnum ((WM.tnum ((WM.tnum (s)).2)).2)).2)).2)).2)).1 } : Msg), (WM.tstamp 4 ((WM.tnum ((WM.tnum ((WM.tnum ((WM.tnum ((WM.tnum (s)).2)).2)).2)).2)).2)).2) := by
  unfold WM.replyT
  simp only [if_pos h0]
theorem replyT_1 (m : Msg) (s : WM.St) (h0 : ¬ (WM.tnum ((WM.tnum ((WM.tnum (s)).2)).2)).1 = 0) : WM.replyT 4 m s = (({ ({ ({ (m) with boot := (WM.tnum (s)).1 }) with seq := (WM.tnum ((WM.tnum (s)).2)).1 }) with code := (WM.tnum ((WM.tnum ((WM.tnum (s)).2)).2)).1 } : Msg), (WM.tnum ((WM.tnum ((WM.tnum (s)).2)).2)).2) := by
  unfold WM.replyT
  simp only [if_neg h0]
set_option maxHeartbeats 4000000 in
theorem rreply_any (w0 w : World) (q r b g : Nat) (s : WM.St) (m : Msg) (sv : Value) (h : Both6 w0 w q r b g s m sv) :
    Calls Try.prog 50 #[.pointer (some ⟨q, 0, none⟩), .pointer (some ⟨g, 0, none⟩)] w fun e w' => e = .returned (.tuple #[]) ∧ ∃ sv', Both6 w0 w' q r b g (WM.replyT 4 m s).2 (WM.replyT 4 m s).1 sv' := by
  have HB := Lib.hid h.drew
  have hgq := h.gq
  have HS := h.drew.rd.ptr
  clear h
  go_enter Try.func50, Try.ntmps50
  go_wp2_with fail
  go_region_held3 (fun w2 : World => w2.cell? ⟨q, 0, none⟩ = some (.pointer (some ⟨r, 0, none⟩)))
    (first
      | exact HS
      | (go_keep; done))
    (first
      | (go_at_call 65; refine (num_tnum _ q r b _ HB.out.rd).mono ?_; rintro x w1 ⟨rfl, hT⟩; replace HB := Lib.hid (HB.out.took hT); clear hT; (try clear c0 c1 c2 c3 c4 c5 c6 c7 c8 c9 c10 c11 c12 c13 c14 c15); (try clear f3 f4 f12); replace HS := HB.out.rd.ptr; have f3 := HB.out.blk.frozen 3; have f4 := HB.out.blk.frozen 4; have f12 := HB.out.blk.frozen 12; obtain ⟨c0, c1, c2, c3, c4, c5, c6, c7, c8, c9, c10, c11, c12, c13, c14, c15⟩ := msg_cells HB.out.blk))
  all_goals
    have HB2 := Lib.hid ((((HB.out).stored 3 (.int .i64 (WM.tnum (s)).1) ({ (m) with boot := (WM.tnum (s)).1 } : Msg) rfl rfl).stored 4 (.int .i64 (WM.tnum ((WM.tnum (s)).2)).1) ({ ({ (m) with boot := (WM.tnum (s)).1 }) with seq := (WM.tnum ((WM.tnum (s)).2)).1 } : Msg) rfl rfl).stored 12 (.int .i64 (WM.tnum ((WM.tnum ((WM.tnum (s)).2)).2)).1) ({ ({ ({ (m) with boot := (WM.tnum (s)).1 }) with seq := (WM.tnum ((WM.tnum (s)).2)).1 }) with code := (WM.tnum ((WM.tnum ((WM.tnum (s)).2)).2)).1 } : Msg) rfl rfl)
    clear HB HS c0 c1 c2 c3 c4 c5 c6 c7 c8 c9 c10 c11 c12 c13 c14 c15 f3 f4 f12
    generalize (((w1.setCell ⟨g, 3, none⟩ (.int .i64 (WM.tnum (s)).1)).setCell ⟨g, 4, none⟩ (.int .i64 (WM.tnum ((WM.tnum (s)).2)).1)).setCell ⟨g, 12, none⟩ (.int .i64 (WM.tnum ((WM.tnum ((WM.tnum (s)).2)).2)).1)) = w2 at HB2 ⊢
    have c6 : w2.cell? ⟨g, 12, none⟩ = some (.int .i64 (WM.tnum ((WM.tnum ((WM.tnum (s)).2)).2)).1) := HB2.out.blk.cell 12
    by_cases h1 : (WM.tnum ((WM.tnum ((WM.tnum (s)).2)).2)).1 = 0
    · have d1 : ((WM.tnum ((WM.tnum ((WM.tnum (s)).2)).2)).1 == 0) = true := by simpa using h1
      have H1 := Lib.hid h1; clear h1
      go_wp2_with fail
      clear c6
      have HB := Lib.hid HB2.out.drew
      have HS := HB.out.rd.ptr
      go_region_held3 (fun w2 : World => w2.cell? ⟨q, 0, none⟩ = some (.pointer (some ⟨r, 0, none⟩)))
        (first
          | exact HS
          | (go_keep; done))
        (first
          | (go_at_call 65; refine (num_tnum _ q r b _ HB.out.rd).mono ?_; rintro x w1 ⟨rfl, hT⟩; replace HB := Lib.hid (HB.out.took hT); clear hT; (try clear c0 c1 c2 c3 c4 c5 c6 c7 c8 c9 c10 c11 c12 c13 c14 c15); (try clear f10 f9 f13); replace HS := HB.out.rd.ptr; have f10 := HB.out.blk.frozen 10; have f9 := HB.out.blk.frozen 9; have f13 := HB.out.blk.frozen 13; obtain ⟨c0, c1, c2, c3, c4, c5, c6, c7, c8, c9, c10, c11, c12, c13, c14, c15⟩ := msg_cells HB.out.blk)
          | (go_at_call 78; refine (rstamp_any _ q r b _ HB.out.rd (Nat.lt_of_lt_of_le HB.out.old.1 HB.out.mod.size) (Nat.lt_of_lt_of_le HB.out.old.2.1 HB.out.mod.size) (Nat.lt_of_lt_of_le HB.out.old.2.2.1 HB.out.mod.size)).mono ?_; rintro x w1 ⟨lv, rfl, hG, hT⟩; have HBS := Lib.hid (HB.out.stamped hG.out hT); obtain ⟨A9, n9, hA9, hn9⟩ : ∃ A n, lv = .slice A (WM.tstamp 4 _).1.length n ∧ True := (let ⟨A, c, e, _, _⟩ := own_shape hG.out.1; ⟨A, c, e, trivial⟩); subst hA9; replace HB := Lib.hid HBS.out.both; clear hG; clear hT; (try clear c0 c1 c2 c3 c4 c5 c6 c7 c8 c9 c10 c11 c12 c13 c14 c15); (try clear f10 f9 f13); replace HS := HB.out.rd.ptr; have f10 := HB.out.blk.frozen 10; have f9 := HB.out.blk.frozen 9; have f13 := HB.out.blk.frozen 13; obtain ⟨c0, c1, c2, c3, c4, c5, c6, c7, c8, c9, c10, c11, c12, c13, c14, c15⟩ := msg_cells HB.out.blk))
      all_goals
        go_wp2_with fail
        go_end0
        rw [replyT_0 m s H1.out]
        exact ⟨rfl, _, (((HBS.out).stored 10 _ ({ ({ ({ ({ (m) with boot := (WM.tnum (s)).1 }) with seq := (WM.tnum ((WM.tnum (s)).2)).1 }) with code := (WM.tnum ((WM.tnum ((WM.tnum (s)).2)).2)).1 }) with id := (WM.tnum ((WM.tnum ((WM.tnum ((WM.tnum (s)).2)).2)).2)).1 } : Msg) rfl rfl).stored 9 _ ({ ({ ({ ({ ({ (m) with boot := (WM.tnum (s)).1 }) with seq := (WM.tnum ((WM.tnum (s)).2)).1 }) with code := (WM.tnum ((WM.tnum ((WM.tnum (s)).2)).2)).1 }) with id := (WM.tnum ((WM.tnum ((WM.tnum ((WM.tnum (s)).2)).2)).2)).1 }) with term := (WM.tnum ((WM.tnum ((WM.tnum ((WM.tnum ((WM.tnum (s)).2)).2)).2)).2)).1 } : Msg) rfl rfl).put⟩
    have d1 : ((WM.tnum ((WM.tnum ((WM.tnum (s)).2)).2)).1 == 0) = false := by simpa using h1
    have H1 := Lib.hid h1; clear h1
    go_wp2_with fail
    go_end0
    rw [replyT_1 m s H1.out]
    exact ⟨rfl, _, HB2.out⟩
end Go.Proofs.Ytbjemihcbbiiaaa
