/- The document's own answers of layer 2: the reader. -/
import Derived.Test.YtboflkadabagfabOctetsW6
import Derived.Maps.AppendAt
namespace Go.Proofs.Ytboflkadabagfab.Oct
open Go.RowKit
set_option maxRecDepth 100000
/-- What the document's reader answers: a first value, and the reader behind it; its bytes lie where they lay. -/
def RefRead (w : World) (v : Value) (l : List UInt8) (e : Nat) (x : Ending) (w' : World) : Prop :=
  ∃ A c, x = .returned (.tuple #[v, .agg #[.slice A l.length c, .int .i64 (e : Int)]]) ∧ BytesAt w A l ∧ l.length ≤ c ∧ c ≤ 9223372036854775807 ∧ Below w.heap.size w w'
theorem results_tmp_cell {fn : Func} {p u : Tmp} {ty : TypeId} (h : fn.results = #[.tmp u, .cell p ty]) (tmps : Array Value) (P : Program) (w : World) :
    (results fn tmps).run P w =
      ((asAddr (tmps.getD p undef)).run P w).andThen fun a w₁ => ((loadVar ty a).run P w₁).andThen fun v w₂ => .ok (.tuple #[tmps.getD u undef, v]) w₂ := by
  simp only [results, h]
  simp [Sem.run_bind, Result.andThen]
theorem refRead {w w' : World} {l m : List UInt8} {e a x n : Nat} {A : Option Addr} {c : Nat} {k : Int} (h : OM.rnum l e = (a, m, x)) (hk : k = (a : Int)) (hn : m.length = n) (hB : BytesAt w A m) (h3 : n ≤ c) (h4 : c ≤ 9223372036854775807) (hb : Below w.heap.size w w') :
    RefRead w (.int .i64 ((OM.rnum l e).1 : Int)) (OM.rnum l e).2.1 (OM.rnum l e).2.2 (.returned (.tuple #[.int .i64 k, .agg #[.slice A n c, .int .i64 (x : Int)]])) w' := by
  rw [h, hk]
  subst hn
  exact ⟨A, c, rfl, hB, h3, h4, hb⟩
set_option maxRecDepth 100000 in
set_option maxHeartbeats 2000000 in
theorem ReadNum_any (A : Option Addr) (c : Nat) (l : List UInt8) (e : Nat) (w : World) (h : BytesAt w A l) (h3 : l.length ≤ c) (h4 : c ≤ 9223372036854775807) :
    Calls Try.prog 58 #[.agg #[.slice A l.length c, .int .i64 (e : Int)]] w (RefRead w (.int .i64 ((OM.rnum l e).1 : Int)) (OM.rnum l e).2.1 (OM.rnum l e).2.2) := by
  have K2 := Lib.hid h; clear h
  by_cases he : e = 0
  · subst he
    rcases OM.take_err l with ⟨a, s, ht⟩ | ht | ht
    · have hs := OM.take_le ht
      have T := Lib.hid ht; clear ht
      go_enter Try.func58, Try.ntmps58
      go_wp2_with (go_at_call 82; refine (TakeNum_any _ _ l _ ((K2.out.below ((Below.refl _ w).alloc (Nat.le_refl _) _)).below ((Below.refl _ _).alloc (Nat.le_refl _) _)) (by omega)).mono ?_; rintro x w' ⟨rfl, rfl⟩; rw [T.out])
      go_region
      all_goals go_wp2
      · have hB := K2.out.cut (k := s) (c := c) hs h3
        rw [if_pos (by assumption)] at hB
        refine bodyPost_ret (v := .tuple #[.int .i64 (a : Int), .agg #[.slice A (l.length - s) 0, .int .i64 0]]) ?_ rfl ?_
        · rw [results_tmp_cell rfl]
          go_simp
        · exact refRead (rnum_ok T.out) rfl (by rw [List.length_drop]) hB (by omega) (by omega) (((Below.refl _ _).alloc (Nat.le_refl _) _).alloc (by simp) _).drew
      · have hB := K2.out.cut (k := s) (c := c) hs h3
        rw [if_neg (by assumption)] at hB
        refine bodyPost_ret (v := .tuple #[.int .i64 (a : Int), .agg #[.slice (Option.map (fun x => x.add s) A) (l.length - s) (c - s), .int .i64 0]]) ?_ rfl ?_
        · rw [results_tmp_cell rfl]
          go_simp
        · exact refRead (rnum_ok T.out) rfl (by rw [List.length_drop]) hB (by omega) (by omega) (((Below.refl _ _).alloc (Nat.le_refl _) _).alloc (by simp) _).drew
    · have T := Lib.hid ht; clear ht
      go_enter Try.func58, Try.ntmps58
      go_wp2_with (go_at_call 82; refine (TakeNum_any _ _ l _ ((K2.out.below ((Below.refl _ w).alloc (Nat.le_refl _) _)).below ((Below.refl _ _).alloc (Nat.le_refl _) _)) (by omega)).mono ?_; rintro x w' ⟨rfl, rfl⟩; rw [T.out])
      go_region
      go_wp2
      refine bodyPost_ret (v := .tuple #[.int .i64 0, .agg #[.slice A l.length c, .int .i64 20]]) ?_ rfl ?_
      · rw [results_tmp_cell rfl]
        go_simp
      · exact refRead (rnum_bad T.out (by decide)) rfl rfl K2.out h3 h4 (((Below.refl _ _).alloc (Nat.le_refl _) _).alloc (by simp) _).drew
    · have T := Lib.hid ht; clear ht
      go_enter Try.func58, Try.ntmps58
      go_wp2_with (go_at_call 82; refine (TakeNum_any _ _ l _ ((K2.out.below ((Below.refl _ w).alloc (Nat.le_refl _) _)).below ((Below.refl _ _).alloc (Nat.le_refl _) _)) (by omega)).mono ?_; rintro x w' ⟨rfl, rfl⟩; rw [T.out])
      go_region
      go_wp2
      refine bodyPost_ret (v := .tuple #[.int .i64 0, .agg #[.slice A l.length c, .int .i64 21]]) ?_ rfl ?_
      · rw [results_tmp_cell rfl]
        go_simp
      · exact refRead (rnum_bad T.out (by decide)) rfl rfl K2.out h3 h4 (((Below.refl _ _).alloc (Nat.le_refl _) _).alloc (by simp) _).drew
  · have he' : ¬ (e : Int) = 0 := by omega
    go_enter Try.func58, Try.ntmps58
    go_wp2_with fail
    go_region
    go_wp2
    refine bodyPost_ret (v := .tuple #[.int .i64 0, .agg #[.slice A l.length c, .int .i64 (e : Int)]]) ?_ rfl ?_
    · rw [results_tmp_cell rfl]
      go_simp
    · exact refRead (rnum_stuck he) rfl rfl K2.out h3 h4 (((Below.refl _ _).alloc (Nat.le_refl _) _).alloc (by simp) _).drew
theorem refReadT {w w' : World} {l m t : List UInt8} {e x n : Nat} {most : Int} {A : Option Addr} {c : Nat} {k : ByteArray} (h : OM.rtext l e most = (t, m, x)) (hk : k = ⟨t.toArray⟩) (hn : m.length = n) (hB : BytesAt w A m) (h3 : n ≤ c) (h4 : c ≤ 9223372036854775807) (hb : Below w.heap.size w w') :
    RefRead w (.string ⟨(OM.rtext l e most).1.toArray⟩) (OM.rtext l e most).2.1 (OM.rtext l e most).2.2 (.returned (.tuple #[.string k, .agg #[.slice A n c, .int .i64 (x : Int)]])) w' := by
  rw [h, hk]
  subst hn
  exact ⟨A, c, rfl, hB, h3, h4, hb⟩
theorem tt_good {l t : List UInt8} {k : Nat} {most : Int} (h : tt l most = (t, k, 0)) : OM.rtext l 0 most = (t, l.drop k, 0) := by
  rw [rtext_tt, h]
  simp
theorem tt_fail {l t : List UInt8} {k x : Nat} {most : Int} (h : tt l most = (t, k, x)) (hx : x ≠ 0) : OM.rtext l 0 most = ([], l, x) := by
  rw [rtext_tt, h]
  simp [hx]
set_option maxRecDepth 100000 in
set_option maxHeartbeats 2000000 in
theorem ReadText_any (A : Option Addr) (c : Nat) (l : List UInt8) (e : Nat) (most : Int) (w : World) (hmost : -9223372036854775808 ≤ most ∧ most ≤ 9223372036854775807) (h : BytesAt w A l) (h3 : l.length ≤ c) (h4 : c ≤ 9223372036854775807) :
    Calls Try.prog 26 #[.agg #[.slice A l.length c, .int .i64 (e : Int)], .int .i64 most] w (RefRead w (.string ⟨(OM.rtext l e most).1.toArray⟩) (OM.rtext l e most).2.1 (OM.rtext l e most).2.2) := by
  have K2 := Lib.hid h; clear h
  by_cases he : e = 0
  · subst he
    obtain ⟨t, k, x, ht⟩ : ∃ t k x, tt l most = (t, k, x) := ⟨_, _, _, rfl⟩
    have hs := tt_le l most
    rw [ht] at hs
    have T := Lib.hid ht; clear ht
    by_cases hx : x = 0
    · subst hx
      go_enter Try.func26, Try.ntmps26
      go_wp2_with (go_at_call 59; refine (TakeText_any _ _ l most _ hmost ((K2.out.below ((Below.refl _ w).alloc (Nat.le_refl _) _)).below ((Below.refl _ _).alloc (Nat.le_refl _) _)) h3 h4).mono ?_; rintro x w' ⟨rfl, rfl⟩; rw [T.out])
      go_region
      all_goals go_wp2
      · have hB := K2.out.cut (k := k) (c := c) hs h3
        rw [if_pos (by assumption)] at hB
        refine bodyPost_ret (v := .tuple #[.string ⟨t.toArray⟩, .agg #[.slice A (l.length - k) 0, .int .i64 0]]) ?_ rfl ?_
        · rw [results_tmp_cell rfl]
          go_simp
        · exact refReadT (tt_good T.out) rfl (by rw [List.length_drop]) hB (by omega) (by omega) (((Below.refl _ _).alloc (Nat.le_refl _) _).alloc (by simp) _).drew
      · have hB := K2.out.cut (k := k) (c := c) hs h3
        rw [if_neg (by assumption)] at hB
        refine bodyPost_ret (v := .tuple #[.string ⟨t.toArray⟩, .agg #[.slice (Option.map (fun x => x.add k) A) (l.length - k) (c - k), .int .i64 0]]) ?_ rfl ?_
        · rw [results_tmp_cell rfl]
          go_simp
        · exact refReadT (tt_good T.out) rfl (by rw [List.length_drop]) hB (by omega) (by omega) (((Below.refl _ _).alloc (Nat.le_refl _) _).alloc (by simp) _).drew
    · have hx' : ¬ (x : Int) = 0 := by omega
      go_enter Try.func26, Try.ntmps26
      go_wp2_with (go_at_call 59; refine (TakeText_any _ _ l most _ hmost ((K2.out.below ((Below.refl _ w).alloc (Nat.le_refl _) _)).below ((Below.refl _ _).alloc (Nat.le_refl _) _)) h3 h4).mono ?_; rintro x w' ⟨rfl, rfl⟩; rw [T.out])
      go_region
      go_wp2
      refine bodyPost_ret (v := .tuple #[.string ⟨#[]⟩, .agg #[.slice A l.length c, .int .i64 (x : Int)]]) ?_ rfl ?_
      · rw [results_tmp_cell rfl]
        go_simp
      · exact refReadT (tt_fail T.out hx) rfl rfl K2.out h3 h4 (((Below.refl _ _).alloc (Nat.le_refl _) _).alloc (by simp) _).drew
  · have he' : ¬ (e : Int) = 0 := by omega
    go_enter Try.func26, Try.ntmps26
    go_wp2_with fail
    go_region
    go_wp2
    refine bodyPost_ret (v := .tuple #[.string ⟨#[]⟩, .agg #[.slice A l.length c, .int .i64 (e : Int)]]) ?_ rfl ?_
    · rw [results_tmp_cell rfl]
      go_simp
    · exact refReadT (rtext_stuck he) rfl rfl K2.out h3 h4 (((Below.refl _ _).alloc (Nat.le_refl _) _).alloc (by simp) _).drew
end Go.Proofs.Ytboflkadabagfab.Oct
