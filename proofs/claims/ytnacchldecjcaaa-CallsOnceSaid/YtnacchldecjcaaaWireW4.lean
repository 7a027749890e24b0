/- The reader's calls of layer 6: a text, a flag, a stamp, a kind's fields. -/
import Derived.Test.YtnacchldecjcaaaOctB
import Derived.Test.YtnacchldecjcaaaWireF
import Derived.Deep.RegionHeld3
namespace Go.Proofs.Ytnacchldecjcaaa
open Go.RowKit
open Oct (RAt BytesAt)
open WM (Msg)
set_option linter.unusedVariables false
set_option maxRecDepth 100000
/-- A reader of layer 6 at block q, over the octets' reader at block r. -/
structure RdAt (w : World) (q r b : Nat) (s : WM.St) : Prop where
  at_ : Whole w q 85 #[.pointer (some ⟨r, 0, none⟩)]
  rd : RAt w r b s.1 s.2
  ne : q ≠ r
theorem RdAt.ptr {w : World} {q r b : Nat} {s : WM.St} (h : RdAt w q r b s) : w.cell? ⟨q, 0, none⟩ = some (.pointer (some ⟨r, 0, none⟩)) := h.at_.cell 0
/-- What a call on it leaves. -/
def Took (w : World) (q r b : Nat) (s : WM.St) (w' : World) : Prop := RdAt w' q r b s ∧ Mod [r] w w'
theorem took_of {w w' : World} {q r b : Nat} {s : WM.St} {l : List UInt8} {e : Nat} (h : RdAt w q r b s) (k : Oct.Read w r b l e w') : Took w q r b (l, e) w' :=
  ⟨⟨k.2.whole h.at_ (by simpa using h.ne), k.1, h.ne⟩, k.2⟩
theorem num_tnum (w : World) (q r b : Nat) (s : WM.St) (h : RdAt w q r b s) :
    Calls Try.prog 52 #[.pointer (some ⟨r, 0, none⟩)] w fun e w' => e = .returned (.int .i64 (WM.tnum s).1) ∧ Took w q r b (WM.tnum s).2 w' :=
  (Oct.RNum_any r b s.1 s.2 w h.rd).mono fun _ _ k => ⟨k.1, took_of h k.2⟩
theorem text_ttext (w : World) (q r b : Nat) (s : WM.St) (h : RdAt w q r b s) :
    Calls Try.prog 87 #[.pointer (some ⟨r, 0, none⟩), .int .i64 200] w fun e w' => e = .returned (.string (WM.ttext s).1) ∧ Took w q r b (WM.ttext s).2 w' :=
  (Oct.RText_any r b s.1 s.2 200 w (by omega) h.rd).mono fun _ _ k => ⟨k.1, took_of h k.2⟩
set_option maxHeartbeats 1000000 in
theorem path_any (w : World) (q r b : Nat) (s : WM.St) (h : RdAt w q r b s) :
    Calls Try.prog 62 #[.pointer (some ⟨q, 0, none⟩)] w fun e w' => e = .returned (.string (WM.ttext s).1) ∧ Took w q r b (WM.ttext s).2 w' := by
  have c0 := h.ptr
  have H := Lib.hid h; clear h
  go_enter Try.func62, Try.ntmps62
  go_wp2_with fail
  refine (text_ttext w q r b s H.out).mono ?_
  rintro e w1 ⟨rfl, hT⟩
  have HT := Lib.hid hT; clear hT c0
  go_wp2_with fail
  go_ret
  exact ⟨rfl, HT.out⟩
set_option maxHeartbeats 1000000 in
theorem rflag_any (w : World) (q r b : Nat) (s : WM.St) (h : RdAt w q r b s) :
    Calls Try.prog 63 #[.pointer (some ⟨q, 0, none⟩)] w fun e w' => e = .returned (.bool (decide ((WM.tnum s).1 = 1))) ∧ Took w q r b (WM.tnum s).2 w' := by
  have c0 := h.ptr
  have H := Lib.hid h; clear h
  go_enter Try.func63, Try.ntmps63
  go_wp2_with fail
  refine (num_tnum w q r b s H.out).mono ?_
  rintro e w1 ⟨rfl, hT⟩
  have HT := Lib.hid hT; clear hT c0
  go_wp2_with fail
  go_ret
  exact ⟨ret_bool (by rw [Bool.eq_iff_iff]; simp), HT.out⟩
theorem Took.refl {w : World} {q r b : Nat} {s : WM.St} (h : RdAt w q r b s) : Took w q r b s w := ⟨h, Mod.refl _ _⟩
theorem RdAt.drew {w : World} {q r b : Nat} {s : WM.St} (h : RdAt w q r b s) : RdAt w.drew q r b s :=
  ⟨h.at_, ⟨h.rd.choose, h.rd.choose_spec.choose, h.rd.choose_spec.choose_spec.1, h.rd.choose_spec.choose_spec.2.1.below (Below.drew (Below.refl _ w)), h.rd.choose_spec.choose_spec.2.2⟩, h.ne⟩
/-- What a call has grown while it turned the blocks of F. -/
def GrewF (F : List Nat) (w : World) (xs : List Int) (v : Value) (w' : World) : Prop := w'.ownsRow w.heap.size 3 1 v xs.length (i64s xs) ∧ Mod F w w'
theorem app_oneF {F : List Nat} {w w1 : World} {ops : Array Oper} {rest : List Oper} {o : Oper} {a : Act} {Q : Exit → Act → World → Prop} (hgd : o.guard = none) (s x : Operand)
    (ho : o.op = .call { callee := .builtin .append, args := #[s, x], argTypes := #[37, 37] })
    (v : Value) (pre : List Int) (hG : GrewF F w pre v w1) (hs : a.eval s = v) (k : Int) (hx : a.eval x = .slice (some ⟨w1.heap.size, 0, none⟩) 1 1) (hl : (pre.length + 1) * 8 ≤ 140737488355328)
    (h : ∀ v' w2, GrewF F w (pre ++ [k]) v' w2 → (∀ g, g < w1.heap.size → v.ownBlock ≠ some g → w2.heap[g]? = w1.heap[g]?) → wpList Try.prog ops Q rest (a.put o.dst v') w2) : wpList Try.prog ops Q (o :: rest) a (w1.alloc (.cells #[.int .i64 k] 3)) := by
  obtain ⟨i0, hi, hz0, hz1, hz2⟩ := info_parts info_int
  refine wpList_append_own_at _ hgd s x 37 ho w.heap.size 3 i0 (.int .i64 0) 1 8 Try.underlying37 hi hz0 hz1 hz2 rfl (by decide) v pre.length (i64s pre) hs (hG.1.alloc _) ⟨w1.heap.size, 0, none⟩ 1 1 [.int .i64 k] hx rfl
    (World.news_of_block (cs := #[.int .i64 k]) (t := 3) (fr := (0, 0)) (heap_alloc_new w1 _)) (one_i64 (l := [k])) (by unfold maxLen; omega) (by omega) (by have := hG.2.size; rw [World.size_alloc]; omega) ?_
  intro v' w2 hown hgrow _ _
  refine h v' w2 ⟨by rw [List.length_append, i64s_append]; exact hown, (hG.2.alloc _).grown hgrow (fun k hk => .inr (hG.1.lt k hk).1)⟩ ?_
  intro g hg hne
  have e := hgrow.block g (by rw [World.size_alloc]; omega) (fun e => hne e.symm)
  rw [e]
  exact Below.heap_alloc w1 _ g hg
theorem rd_same {w1 w2 : World} {q r b : Nat} {s : WM.St} (h : RdAt w1 q r b s) (hz : b < w1.heap.size → b < w2.heap.size) (hq : w2.heap[q]? = w1.heap[q]?) (hr : w2.heap[r]? = w1.heap[r]?) (hb : b < w1.heap.size → w2.heap[b]? = w1.heap[b]?) : RdAt w2 q r b s := by
  obtain ⟨A, c, h1, h2, h3, h4, h5⟩ := h.rd
  refine ⟨hq.trans h.at_, ⟨A, c, hr.trans h1, fun h0 => ?_, h3, h4, h5⟩, h.ne⟩
  obtain ⟨b', o, e, hb', hc⟩ := h2 h0
  have e2 : b' = b := h5 _ e
  subst e2
  exact ⟨b', o, e, hz hb', fun j x hx => (World.cell?_of_block (w := w1) (w' := w2) (a := ⟨b', o + j, none⟩) (hb hb')).trans (hc j x hx)⟩
set_option maxHeartbeats 2000000 in
theorem rstamp_any (w : World) (q r b : Nat) (s : WM.St) (h : RdAt w q r b s) (hq : q < w.heap.size) (hr : r < w.heap.size) (hb : b < w.heap.size) :
    Calls Try.prog 67 #[.pointer (some ⟨q, 0, none⟩)] w fun e w' => ∃ v, e = .returned v ∧ Hid (GrewF [r] w (WM.tstamp 4 s).1 v w') ∧ RdAt w' q r b (WM.tstamp 4 s).2 := by
  have c0 := h.ptr
  have H := Lib.hid h; clear h
  go_enter Try.func67, Try.ntmps67
  go_wp2_with fail
  refine (num_tnum w q r b s H.out).mono ?_
  rintro e w1 ⟨rfl, hT⟩
  have HT := Lib.hid hT; clear hT c0
  have HE := Lib.hid (show WM.tstamp 4 s = WM.tnums (min (WM.tnum s).1.toNat 4) (WM.tnum s).2 from rfl)
  obtain ⟨n, hn⟩ : ∃ n : Nat, (WM.tnum s).1 = (n : Int) := ⟨_, rfl⟩
  rw [hn, Int.toNat_natCast] at HE
  rw [hn]
  clear hn
  generalize (WM.tnum s).2 = s1 at HE HT
  by_cases h4 : n ≤ 4
  · have HM := Lib.hid (show min n 4 = n by omega)
    have h4i : (n : Int) ≤ 4 := by omega
    go_wp2_with fail
    go_loopw [3, 10] (fun v i wx => ∃ k : Nat, i = .int .i64 (k : Int) ∧ k ≤ n ∧ Hid (GrewF [r] w (WM.tnums k s1).1 v wx) ∧ Hid (RdAt wx q r b (WM.tnums k s1).2)) (fun _ i _ => n - (intOf i).toNat)
    case atStart => exact ⟨0, rfl, by omega, Lib.hid ⟨World.ownsRow_nil _ _ _ _, HT.out.2⟩, Lib.hid HT.out.1⟩
    case round =>
      obtain ⟨k, rfl, hk, HG, HR⟩ := hrel
      by_cases hlt : k < n
      · have c0 := HR.out.ptr
        have HL := Lib.hid (WM.tnums_len k s1)
        have HN := Lib.hid (WM.tnums_snoc k s1)
        generalize WM.tnums k s1 = cur at HG HR HL HN
        go_wp2_with fail
        refine (num_tnum _ q r b _ HR.out).mono ?_
        rintro e w2 ⟨rfl, hT2⟩
        have HT2 := Lib.hid hT2; clear hT2 c0
        have HG2 := Lib.hid (show GrewF [r] w cur.1 _ w2 from ⟨HT2.out.2.own HG.out.1 (fun k hk => by have := (HG.out.1.lt k hk).1; simp; omega), HG.out.2.trans HT2.out.2 (fun x hx => .inl hx)⟩)
        have hl9 : (cur.1.length + 1) * 8 ≤ 140737488355328 := by rw [HL.out]; omega
        go_wp2_with (at_builtin; refine app_oneF rfl (.tmp 12) (.tmp 18) rfl _ _ HG2.out rfl _ rfl hl9 ?_; intro v2 w3 hg2 hsame; have HG3 := Lib.hid hg2; have HSM := Lib.hid hsame; clear hg2 hsame)
        have HR3 := Lib.hid (rd_same HT2.out.1 (fun _ => Nat.lt_of_lt_of_le hb HG3.out.2.size) (HSM.out q (Nat.lt_of_lt_of_le hq HG2.out.2.size) (fun e => by have := (HG2.out.1.lt _ e).1; omega)) (HSM.out r (Nat.lt_of_lt_of_le hr HG2.out.2.size) (fun e => by have := (HG2.out.1.lt _ e).1; omega)) (fun _ => HSM.out b (Nat.lt_of_lt_of_le hb HG2.out.2.size) (fun e => by have := (HG2.out.1.lt _ e).1; omega)))
        go_roundw
        case rel => exact ⟨k + 1, rfl, by omega, by rw [HN.out]; exact HG3, by rw [HN.out]; exact HR3⟩
        case measure => simp only [intOf]; omega
      · have hkn : k = n := by omega
        have HF := Lib.hid (show WM.tstamp 4 s = WM.tnums k s1 by rw [HE.out, hkn, HM.out])
        clear hkn
        go_wp2_with fail
        go_ret
        exact ⟨_, rfl, by rw [HF.out]; exact HG, by rw [HF.out]; exact HR.out⟩
  · have HM := Lib.hid (show min n 4 = 4 by omega)
    have h4i : ¬ (n : Int) ≤ 4 := by omega
    go_wp2_with fail
    go_loopw [3, 10] (fun v i wx => ∃ k : Nat, i = .int .i64 (k : Int) ∧ k ≤ 4 ∧ Hid (GrewF [r] w (WM.tnums k s1).1 v wx) ∧ Hid (RdAt wx q r b (WM.tnums k s1).2)) (fun _ i _ => 4 - (intOf i).toNat)
    case atStart => exact ⟨0, rfl, by omega, Lib.hid ⟨World.ownsRow_nil _ _ _ _, HT.out.2⟩, Lib.hid HT.out.1⟩
    case round =>
      obtain ⟨k, rfl, hk, HG, HR⟩ := hrel
      by_cases hlt : k < 4
      · have c0 := HR.out.ptr
        have HL := Lib.hid (WM.tnums_len k s1)
        have HN := Lib.hid (WM.tnums_snoc k s1)
        generalize WM.tnums k s1 = cur at HG HR HL HN
        go_wp2_with fail
        refine (num_tnum _ q r b _ HR.out).mono ?_
        rintro e w2 ⟨rfl, hT2⟩
        have HT2 := Lib.hid hT2; clear hT2 c0
        have HG2 := Lib.hid (show GrewF [r] w cur.1 _ w2 from ⟨HT2.out.2.own HG.out.1 (fun k hk => by have := (HG.out.1.lt k hk).1; simp; omega), HG.out.2.trans HT2.out.2 (fun x hx => .inl hx)⟩)
        have hl9 : (cur.1.length + 1) * 8 ≤ 140737488355328 := by rw [HL.out]; omega
        go_wp2_with (at_builtin; refine app_oneF rfl (.tmp 12) (.tmp 18) rfl _ _ HG2.out rfl _ rfl hl9 ?_; intro v2 w3 hg2 hsame; have HG3 := Lib.hid hg2; have HSM := Lib.hid hsame; clear hg2 hsame)
        have HR3 := Lib.hid (rd_same HT2.out.1 (fun _ => Nat.lt_of_lt_of_le hb HG3.out.2.size) (HSM.out q (Nat.lt_of_lt_of_le hq HG2.out.2.size) (fun e => by have := (HG2.out.1.lt _ e).1; omega)) (HSM.out r (Nat.lt_of_lt_of_le hr HG2.out.2.size) (fun e => by have := (HG2.out.1.lt _ e).1; omega)) (fun _ => HSM.out b (Nat.lt_of_lt_of_le hb HG2.out.2.size) (fun e => by have := (HG2.out.1.lt _ e).1; omega)))
        go_roundw
        case rel => exact ⟨k + 1, rfl, by omega, by rw [HN.out]; exact HG3, by rw [HN.out]; exact HR3⟩
        case measure => simp only [intOf]; omega
      · have hkn : k = 4 := by omega
        have HF := Lib.hid (show WM.tstamp 4 s = WM.tnums k s1 by rw [HE.out, hkn, HM.out])
        clear hkn
        go_wp2_with fail
        go_ret
        exact ⟨_, rfl, by rw [HF.out]; exact HG, by rw [HF.out]; exact HR.out⟩
end Go.Proofs.Ytnacchldecjcaaa
