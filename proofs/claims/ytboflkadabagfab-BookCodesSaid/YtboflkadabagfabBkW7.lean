/- The reader's calls of layer 11: a text, a stamp. -/
import Derived.Test.YtboflkadabagfabOctetsW4
import Derived.Test.YtboflkadabagfabBkW1
import Derived.Deep.RegionHeld3
namespace Go.Proofs.Ytboflkadabagfab
open Go.RowKit
open Oct (RAt BytesAt)
open BM (Gr Rc Bk g0 r0 b0)
set_option linter.unusedVariables false
set_option linter.unusedSimpArgs false
set_option maxRecDepth 100000
/-- A reader of layer 6 at block q, over the octets' reader at block r. -/
structure RdAt (w : World) (q r b : Nat) (s : WM.St) : Prop where
  at_ : Whole w q 95 #[.pointer (some ⟨r, 0, none⟩)]
  rd : RAt w r b s.1 s.2
  ne : q ≠ r
theorem RdAt.ptr {w : World} {q r b : Nat} {s : WM.St} (h : RdAt w q r b s) : w.cell? ⟨q, 0, none⟩ = some (.pointer (some ⟨r, 0, none⟩)) := h.at_.cell 0
/-- What a call on it leaves. -/
def Took (w : World) (q r b : Nat) (s : WM.St) (w' : World) : Prop := RdAt w' q r b s ∧ Mod [r] w w'
theorem took_of {w w' : World} {q r b : Nat} {s : WM.St} {l : List UInt8} {e : Nat} (h : RdAt w q r b s) (k : Oct.Read w r b l e w') : Took w q r b (l, e) w' :=
  ⟨⟨k.2.whole h.at_ (by simpa using h.ne), k.1, h.ne⟩, k.2⟩
theorem num_tnum (w : World) (q r b : Nat) (s : WM.St) (h : RdAt w q r b s) :
    Calls Try.prog 55 #[.pointer (some ⟨r, 0, none⟩)] w fun e w' => e = .returned (.int .i64 (WM.tnum s).1) ∧ Took w q r b (WM.tnum s).2 w' :=
  (Oct.RNum_any r b s.1 s.2 w h.rd).mono fun _ _ k => ⟨k.1, took_of h k.2⟩
theorem Took.refl {w : World} {q r b : Nat} {s : WM.St} (h : RdAt w q r b s) : Took w q r b s w := ⟨h, Mod.refl _ _⟩
theorem RdAt.drew {w : World} {q r b : Nat} {s : WM.St} (h : RdAt w q r b s) : RdAt w.drew q r b s :=
  ⟨h.at_, ⟨h.rd.choose, h.rd.choose_spec.choose, h.rd.choose_spec.choose_spec.1, h.rd.choose_spec.choose_spec.2.1.below (Below.drew (Below.refl _ w)), h.rd.choose_spec.choose_spec.2.2⟩, h.ne⟩
/-- What a call has grown while it turned the blocks of F. -/
def GrewF (F : List Nat) (w : World) (xs : List Int) (v : Value) (w' : World) : Prop := w'.ownsRow w.heap.size 3 1 v xs.length (i64s xs) ∧ Mod F w w'
theorem app_oneF {F : List Nat} {w w1 : World} {ops : Array Oper} {rest : List Oper} {o : Oper} {a : Act} {Q : Exit → Act → World → Prop} (hgd : o.guard = none) (s x : Operand)
    (ho : o.op = .call { callee := .builtin .append, args := #[s, x], argTypes := #[24, 24] })
    (v : Value) (pre : List Int) (hG : GrewF F w pre v w1) (hs : a.eval s = v) (k : Int) (hx : a.eval x = .slice (some ⟨w1.heap.size, 0, none⟩) 1 1) (hl : (pre.length + 1) * 8 ≤ 140737488355328)
    (h : ∀ v' w2, GrewF F w (pre ++ [k]) v' w2 → (∀ g, g < w1.heap.size → v.ownBlock ≠ some g → w2.heap[g]? = w1.heap[g]?) → wpList Try.prog ops Q rest (a.put o.dst v') w2) : wpList Try.prog ops Q (o :: rest) a (w1.alloc (.cells #[.int .i64 k] 3)) := by
  obtain ⟨i0, hi, hz0, hz1, hz2⟩ := info_parts info_int
  refine wpList_append_own_at _ hgd s x 24 ho w.heap.size 3 i0 (.int .i64 0) 1 8 Try.underlying24 hi hz0 hz1 hz2 rfl (by decide) v pre.length (i64s pre) hs (hG.1.alloc _) ⟨w1.heap.size, 0, none⟩ 1 1 [.int .i64 k] hx rfl
    (World.news_of_block (cs := #[.int .i64 k]) (t := 3) (fr := (0, 0)) (heap_alloc_new w1 _)) (one_i64 (l := [k])) (by unfold maxLen; omega) (by omega) (by have := hG.2.size; rw [World.size_alloc]; omega) ?_
  intro v' w2 hown hgrow _ _
  refine h v' w2 ⟨by rw [List.length_append, i64s_append]; exact hown, (hG.2.alloc _).grown hgrow (fun k hk => .inr (hG.1.lt k hk).1)⟩ ?_
  intro g hg hne
  have e := hgrow.block g (by rw [World.size_alloc]; omega) (fun e => hne e.symm)
  rw [e]
  exact Below.heap_alloc w1 _ g hg
theorem rd_same {w1 w2 : World} {q r b : Nat} {s : WM.St} (h : RdAt w1 q r b s) (hz : b < w1.heap.size → b < w2.heap.size) (hq : w2.heap[q]? = w1.heap[q]?) (hr : w2.heap[r]? = w1.heap[r]?) (hb : b < w1.heap.size → w2.heap[b]? = w1.heap[b]?) : RdAt w2 q r b s := by
  obtain ⟨A, c, h1, h2, h3, h4, h5⟩ := h.rd
  refine ⟨hq.trans h.at_, ⟨A, c, hr.trans h1, fun h0 => ?_, h3, h4, h5⟩, h.ne⟩
  obtain ⟨b', o, e, hb', hc⟩ := h2 h0
  have e2 : b' = b := h5 _ e
  subst e2
  exact ⟨b', o, e, hz hb', fun j x hx => (World.cell?_of_block (w := w1) (w' := w2) (a := ⟨b', o + j, none⟩) (hb hb')).trans (hc j x hx)⟩
theorem text_ttext (w : World) (q r b : Nat) (s : WM.St) (h : RdAt w q r b s) :
    Calls Try.prog 81 #[.pointer (some ⟨r, 0, none⟩), .int .i64 188] w fun e w' => e = .returned (.string (BM.ttext s).1) ∧ Took w q r b (BM.ttext s).2 w' :=
  (Oct.RText_any r b s.1 s.2 188 w (by omega) h.rd).mono fun _ _ k => ⟨k.1, took_of h k.2⟩
theorem own_base {w : World} {b1 b2 : Nat} {e : TypeId} {z n : Nat} {v : Value} {xs : List Value} (h : w.ownsRow b1 e z v n xs) (hb : b2 ≤ b1) : w.ownsRow b2 e z v n xs := by
  refine ⟨h.1, ?_⟩
  rcases h.2 with h0 | ⟨b, cap, cur, e, hb', hh, hr⟩
  · exact .inl h0
  · exact .inr ⟨b, cap, cur, e, Nat.le_trans hb hb', hh, hr⟩
theorem rat_alloc {w : World} {r b : Nat} {l : List UInt8} {e : Nat} (h : RAt w r b l e) (o : Obj) : RAt (w.alloc o) r b l e := by
  obtain ⟨A, c, h1, h2, h3, h4, h5⟩ := h
  exact ⟨A, c, h1.alloc o, h2.below ((Below.refl _ w).alloc (Nat.le_refl _) o), h3, h4, h5⟩
theorem rat_lt {w : World} {r b : Nat} {l : List UInt8} {e : Nat} (h : RAt w r b l e) : r < w.heap.size := by
  obtain ⟨A, c, h1, _⟩ := h
  exact h1.lt
/-- What a stamp's reading leaves. -/
def StampPost (w : World) (r b : Nat) (s : WM.St) (e : Ending) (w' : World) : Prop := ∃ v, e = .returned v ∧ GrewF [r] w (WM.tstamp 4 s).1 v w' ∧ RAt w' r b (WM.tstamp 4 s).2.1 (WM.tstamp 4 s).2.2
set_option maxHeartbeats 2000000 in
theorem rstamp_any (w : World) (r b : Nat) (s : WM.St) (h : RAt w r b s.1 s.2) (hb : b < w.heap.size) :
    Calls Try.prog 57 #[.agg #[.pointer (some ⟨r, 0, none⟩)]] w (StampPost w r b s) := by
  have hr := rat_lt h
  have HQ := Lib.hid (show RdAt (w.alloc (.cells #[.pointer (some ⟨r, 0, none⟩)] 95)) w.heap.size r b s from ⟨Whole.new _ _ _, rat_alloc h _, by omega⟩)
  have HX := Lib.hid ((Mod.refl [r] w).alloc (.cells #[.pointer (some ⟨r, 0, none⟩)] 95))
  have HZ := Lib.hid (show (w.alloc (.cells #[.pointer (some ⟨r, 0, none⟩)] 95)).heap.size = w.heap.size + 1 by simp)
  clear h
  have c0 := HQ.out.ptr
  go_enter Try.func57, Try.ntmps57
  go_wp2_with fail
  have hq : w.heap.size < (w.alloc (.cells #[.pointer (some ⟨r, 0, none⟩)] 95)).heap.size := by have := HZ.out; omega
  have hr0 : r < (w.alloc (.cells #[.pointer (some ⟨r, 0, none⟩)] 95)).heap.size := by have := HZ.out; omega
  have hb0 : b < (w.alloc (.cells #[.pointer (some ⟨r, 0, none⟩)] 95)).heap.size := by have := HZ.out; omega
  clear HZ
  generalize w.alloc (.cells #[.pointer (some ⟨r, 0, none⟩)] 95) = w0 at HQ HX c0 hq hr0 hb0 ⊢
  refine (num_tnum w0 w.heap.size r b s HQ.out).mono ?_
  rintro e w1 ⟨rfl, hT⟩
  have HT := Lib.hid hT; clear hT c0
  have HE := Lib.hid (show WM.tstamp 4 s = WM.tnums (min (WM.tnum s).1.toNat 4) (WM.tnum s).2 from rfl)
  obtain ⟨n, hn⟩ : ∃ n : Nat, (WM.tnum s).1 = (n : Int) := ⟨_, rfl⟩
  rw [hn, Int.toNat_natCast] at HE
  rw [hn]
  clear hn
  generalize (WM.tnum s).2 = s1 at HE HT
  have HEND := Lib.hid (fun (v : Value) (wx : World) (xs : List Int) (s2 : WM.St) (hx : GrewF [r] w0 xs v wx) (hr2 : RdAt wx w.heap.size r b s2) (he : WM.tstamp 4 s = (xs, s2)) => (show StampPost w r b s (.returned v) wx from ⟨v, rfl, by rw [he]; exact ⟨own_base hx.1 HX.out.size, HX.out.trans hx.2 (fun x hx => .inl hx)⟩, by rw [he]; exact hr2.rd⟩))
  by_cases h4 : n ≤ 4
  ·
    have HM := Lib.hid (show min n 4 = n by omega)
    have h4i : (n : Int) ≤ 4 := by omega
    go_wp2_with fail
    go_loopw [3, 8] (fun v i wx => ∃ k : Nat, i = .int .i64 (k : Int) ∧ k ≤ n ∧ Hid (GrewF [r] w0 (WM.tnums k s1).1 v wx) ∧ Hid (RdAt wx w.heap.size r b (WM.tnums k s1).2)) (fun _ i _ => n - (intOf i).toNat)
    case atStart => exact ⟨0, rfl, by omega, Lib.hid ⟨World.ownsRow_nil _ _ _ _, HT.out.2⟩, Lib.hid HT.out.1⟩
    case round =>
      obtain ⟨k, rfl, hk, HG, HR⟩ := hrel
      by_cases hlt : k < n
      ·
        have c0 := HR.out.ptr
        have HL := Lib.hid (WM.tnums_len k s1)
        have HN := Lib.hid (WM.tnums_snoc k s1)
        generalize WM.tnums k s1 = cur at HG HR HL HN
        go_wp2_with fail
        refine (num_tnum _ w.heap.size r b _ HR.out).mono ?_
        rintro e w2 ⟨rfl, hT2⟩
        have HT2 := Lib.hid hT2; clear hT2 c0
        have HG2 := Lib.hid (show GrewF [r] w0 cur.1 _ w2 from ⟨HT2.out.2.own HG.out.1 (fun k hk => by have := (HG.out.1.lt k hk).1; simp; omega), HG.out.2.trans HT2.out.2 (fun x hx => .inl hx)⟩)
        have hl9 : (cur.1.length + 1) * 8 ≤ 140737488355328 := by rw [HL.out]; omega
        go_wp2_with (at_builtin; refine app_oneF rfl (.tmp 10) (.tmp 14) rfl _ _ HG2.out rfl _ rfl hl9 ?_; intro v2 w3 hg2 hsame; have HG3 := Lib.hid hg2; have HSM := Lib.hid hsame; clear hg2 hsame)
        have HR3 := Lib.hid (rd_same HT2.out.1 (fun _ => Nat.lt_of_lt_of_le hb0 HG3.out.2.size) (HSM.out w.heap.size (Nat.lt_of_lt_of_le hq HG2.out.2.size) (fun e => by have := (HG2.out.1.lt _ e).1; omega)) (HSM.out r (Nat.lt_of_lt_of_le hr0 HG2.out.2.size) (fun e => by have := (HG2.out.1.lt _ e).1; omega)) (fun _ => HSM.out b (Nat.lt_of_lt_of_le hb0 HG2.out.2.size) (fun e => by have := (HG2.out.1.lt _ e).1; omega)))
        go_roundw
        case rel => exact ⟨k + 1, rfl, by omega, by rw [HN.out]; exact HG3, by rw [HN.out]; exact HR3⟩
        case measure => simp only [intOf]; omega
      ·
        have hkn : k = n := by omega
        have HF := Lib.hid (show WM.tstamp 4 s = ((WM.tnums k s1).1, (WM.tnums k s1).2) by rw [HE.out, hkn, HM.out])
        clear hkn
        go_wp2_with fail
        go_ret
        exact HEND.out _ _ _ _ HG.out HR.out HF.out
  ·
    have HM := Lib.hid (show min n 4 = 4 by omega)
    have h4i : ¬ (n : Int) ≤ 4 := by omega
    go_wp2_with fail
    go_loopw [3, 8] (fun v i wx => ∃ k : Nat, i = .int .i64 (k : Int) ∧ k ≤ 4 ∧ Hid (GrewF [r] w0 (WM.tnums k s1).1 v wx) ∧ Hid (RdAt wx w.heap.size r b (WM.tnums k s1).2)) (fun _ i _ => 4 - (intOf i).toNat)
    case atStart => exact ⟨0, rfl, by omega, Lib.hid ⟨World.ownsRow_nil _ _ _ _, HT.out.2⟩, Lib.hid HT.out.1⟩
    case round =>
      obtain ⟨k, rfl, hk, HG, HR⟩ := hrel
      by_cases hlt : k < 4
      ·
        have c0 := HR.out.ptr
        have HL := Lib.hid (WM.tnums_len k s1)
        have HN := Lib.hid (WM.tnums_snoc k s1)
        generalize WM.tnums k s1 = cur at HG HR HL HN
        go_wp2_with fail
        refine (num_tnum _ w.heap.size r b _ HR.out).mono ?_
        rintro e w2 ⟨rfl, hT2⟩
        have HT2 := Lib.hid hT2; clear hT2 c0
        have HG2 := Lib.hid (show GrewF [r] w0 cur.1 _ w2 from ⟨HT2.out.2.own HG.out.1 (fun k hk => by have := (HG.out.1.lt k hk).1; simp; omega), HG.out.2.trans HT2.out.2 (fun x hx => .inl hx)⟩)
        have hl9 : (cur.1.length + 1) * 8 ≤ 140737488355328 := by rw [HL.out]; omega
        go_wp2_with (at_builtin; refine app_oneF rfl (.tmp 10) (.tmp 14) rfl _ _ HG2.out rfl _ rfl hl9 ?_; intro v2 w3 hg2 hsame; have HG3 := Lib.hid hg2; have HSM := Lib.hid hsame; clear hg2 hsame)
        have HR3 := Lib.hid (rd_same HT2.out.1 (fun _ => Nat.lt_of_lt_of_le hb0 HG3.out.2.size) (HSM.out w.heap.size (Nat.lt_of_lt_of_le hq HG2.out.2.size) (fun e => by have := (HG2.out.1.lt _ e).1; omega)) (HSM.out r (Nat.lt_of_lt_of_le hr0 HG2.out.2.size) (fun e => by have := (HG2.out.1.lt _ e).1; omega)) (fun _ => HSM.out b (Nat.lt_of_lt_of_le hb0 HG2.out.2.size) (fun e => by have := (HG2.out.1.lt _ e).1; omega)))
        go_roundw
        case rel => exact ⟨k + 1, rfl, by omega, by rw [HN.out]; exact HG3, by rw [HN.out]; exact HR3⟩
        case measure => simp only [intOf]; omega
      ·
        have hkn : k = 4 := by omega
        have HF := Lib.hid (show WM.tstamp 4 s = ((WM.tnums k s1).1, (WM.tnums k s1).2) by rw [HE.out, hkn, HM.out])
        clear hkn
        go_wp2_with fail
        go_ret
        exact HEND.out _ _ _ _ HG.out HR.out HF.out
end Go.Proofs.Ytboflkadabagfab
