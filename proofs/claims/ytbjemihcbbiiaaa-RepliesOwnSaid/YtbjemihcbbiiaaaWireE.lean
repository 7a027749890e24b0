/- Texts that belong together: WireW4, WireW5. -/
import Derived.Test.YtbjemihcbbiiaaaOctB
import Derived.Test.YtbjemihcbbiiaaaWireF
import Derived.Deep.RegionHeld3
namespace Go.Proofs.Ytbjemihcbbiiaaa
open Go.RowKit
open Oct (RAt BytesAt)
open WM (Msg)
set_option linter.unusedVariables false
set_option maxRecDepth 100000
/-- A reader of layer 6 at block q, over the octets' reader at block r. -/
structure RdAt (w : World) (q r b : Nat) (s : WM.St) : Prop where
  at_ : Whole w q 102 #[.pointer (some ⟨r, 0, none⟩)]
  rd : RAt w r b s.1 s.2
  ne : q ≠ r
theorem RdAt.ptr {w : World} {q r b : Nat} {s : WM.St} (h : RdAt w q r b s) : w.cell? ⟨q, 0, none⟩ = some (.pointer (some ⟨r, 0, none⟩)) := h.at_.cell 0
/-- What a call on it leaves. -/
def Took (w : World) (q r b : Nat) (s : WM.St) (w' : World) : Prop := RdAt w' q r b s ∧ Mod [r] w w'
theorem took_of {w w' : World} {q r b : Nat} {s : WM.St} {l : List UInt8} {e : Nat} (h : RdAt w q r b s) (k : Oct.Read w r b l e w') : Took w q r b (l, e) w' :=
  ⟨⟨k.2.whole h.at_ (by simpa using h.ne), k.1, h.ne⟩, k.2⟩
theorem num_tnum (w : World) (q r b : Nat) (s : WM.St) (h : RdAt w q r b s) :
    Calls Try.prog 65 #[.pointer (some ⟨r, 0, none⟩)] w fun e w' => e = .returned (.int .i64 (WM.tnum s).1) ∧ Took w q r b (WM.tnum s).2 w' :=
  (Oct.RNum_any r b s.1 s.2 w h.rd).mono fun _ _ k => ⟨k.1, took_of h k.2⟩
theorem text_ttext (w : World) (q r b : Nat) (s : WM.St) (h : RdAt w q r b s) :
    Calls Try.prog 89 #[.pointer (some ⟨r, 0, none⟩), .int .i64 200] w fun e w' => e = .returned (.string (WM.ttext s).1) ∧ Took w q r b (WM.ttext s).2 w' :=
  (Oct.RText_any r b s.1 s.2 200 w (by omega) h.rd).mono fun _ _ k => ⟨k.1, took_of h k.2⟩
set_option maxHeartbeats 1000000 in
theorem path_any (w : World) (q r b : Nat) (s : WM.St) (h : RdAt w q r b s) :
    Calls Try.prog 73 #[.pointer (some ⟨q, 0, none⟩)] w fun e w' => e = .returned (.string (WM.ttext s).1) ∧ Took w q r b (WM.ttext s).2 w' := by
  have c0 := h.ptr
  have H := Lib.hid h; clear h
  go_enter Try.func73, Try.ntmps73
  go_wp2_with fail
  refine (text_ttext w q r b s H.out).mono ?_
  rintro e w1 ⟨rfl, hT⟩
  have HT := Lib.hid hT; clear hT c0
  go_wp2_with fail
  go_ret
  exact ⟨rfl, HT.out⟩
set_option maxHeartbeats 1000000 in
theorem rflag_any (w : World) (q r b : Nat) (s : WM.St) (h : RdAt w q r b s) :
    Calls Try.prog 74 #[.pointer (some ⟨q, 0, none⟩)] w fun e w' => e = .returned (.bool (decide ((WM.tnum s).1 = 1))) ∧ Took w q r b (WM.tnum s).2 w' := by
  have c0 := h.ptr
  have H := Lib.hid h; clear h
  go_enter Try.func74, Try.ntmps74
  go_wp2_with fail
  refine (num_tnum w q r b s H.out).mono ?_
  rintro e w1 ⟨rfl, hT⟩
  have HT := Lib.hid hT; clear hT c0
  go_wp2_with fail
  go_ret
  exact ⟨ret_bool (by rw [Bool.eq_iff_iff]; simp), HT.out⟩
theorem Took.refl {w : World} {q r b : Nat} {s : WM.St} (h : RdAt w q r b s) : Took w q r b s w := ⟨h, Mod.refl _ _⟩
theorem RdAt.drew {w : World} {q r b : Nat} {s : WM.St} (h : RdAt w q r b s) : RdAt w.drew q r b s :=
  ⟨h.at_, ⟨h.rd.choose, h.rd.choose_spec.choose, h.rd.choose_spec.choose_spec.1, h.rd.choose_spec.choose_spec.2.1.below (Below.drew (Below.refl _ w)), h.rd.choose_spec.choose_spec.2.2⟩, h.ne⟩
/-- What a call has grown while it turned the blocks of F. -/
def GrewF (F : List Nat) (w : World) (xs : List Int) (v : Value) (w' : World) : Prop := w'.ownsRow w.heap.size 3 1 v xs.length (i64s xs) ∧ Mod F w w'
theorem app_oneF {F : List Nat} {w w1 : World} {ops : Array Oper} {rest : List Oper} {o : Oper} {a : Act} {Q : Exit → Act → World → Prop} (hgd : o.guard = none) (s x : Operand)
    (ho : o.op = .call { callee := .builtin .append, args := #[s, x], argTypes := #[30, 30] })
    (v : Value) (pre : List Int) (hG : GrewF F w pre v w1) (hs : a.eval s = v) (k : Int) (hx : a.eval x = .slice (some ⟨w1.heap.size, 0, none⟩) 1 1) (hl : (pre.length + 1) * 8 ≤ 140737488355328)
    (h : ∀ v' w2, GrewF F w (pre ++ [k]) v' w2 → (∀ g, g < w1.heap.size → v.ownBlock ≠ some g → w2.heap[g]? = w1.heap[g]?) → wpList Try.prog ops Q rest (a.put o.dst v') w2) : wpList Try.prog ops Q (o :: rest) a (w1.alloc (.cells #[.int .i64 k] 3)) := by
  obtain ⟨i0, hi, hz0, hz1, hz2⟩ := info_parts info_int
  refine wpList_append_own_at _ hgd s x 30 ho w.heap.size 3 i0 (.int .i64 0) 1 8 Try.underlying30 hi hz0 hz1 hz2 rfl (by decide) v pre.length (i64s pre) hs (hG.1.alloc _) ⟨w1.heap.size, 0, none⟩ 1 1 [.int .i64 k] hx rfl
    (World.news_of_block (cs := #[.int .i64 k]) (t := 3) (fr := (0, 0)) (heap_alloc_new w1 _)) (one_i64 (l := [k])) (by unfold maxLen; omega) (by omega) (by have := hG.2.size; rw [World.size_alloc]; omega) ?_
  intro v' w2 hown hgrow _ _
  refine h v' w2 ⟨by rw [List.length_append, i64s_append]; exact hown, (hG.2.alloc _).grown hgrow (fun k hk => .inr (hG.1.lt k hk).1)⟩ ?_
  intro g hg hne
  have e := hgrow.block g (by rw [World.size_alloc]; omega) (fun e => hne e.symm)
  rw [e]
  exact Below.heap_alloc w1 _ g hg
theorem rd_same {w1 w2 : World} {q r b : Nat} {s : WM.St} (h : RdAt w1 q r b s) (hz : b < w1.heap.size → b < w2.heap.size) (hq : w2.heap[q]? = w1.heap[q]?) (hr : w2.heap[r]? = w1.heap[r]?) (hb : b < w1.heap.size → w2.heap[b]? = w1.heap[b]?) : RdAt w2 q r b s := by
  obtain ⟨A, c, h1, h2, h3, h4, h5⟩ := h.rd
  refine ⟨hq.trans h.at_, ⟨A, c, hr.trans h1, fun h0 => ?_, h3, h4, h5⟩, h.ne⟩
  obtain ⟨b', o, e, hb', hc⟩ := h2 h0
  have e2 : b' = b := h5 _ e
  subst e2
  exact ⟨b', o, e, hz hb', fun j x hx => (World.cell?_of_block (w := w1) (w' := w2) (a := ⟨b', o + j, none⟩) (hb hb')).trans (hc j x hx)⟩
set_option maxHeartbeats 2000000 in
theorem rstamp_any (w : World) (q r b : Nat) (s : WM.St) (h : RdAt w q r b s) (hq : q < w.heap.size) (hr : r < w.heap.size) (hb : b < w.heap.size) :
    Calls Try.prog 78 #[.pointer (some ⟨q, 0, none⟩)] w fun e w' => ∃ v, e = .returned v ∧ Hid (GrewF [r] w (WM.tstamp 4 s).1 v w') ∧ RdAt w' q r b (WM.tstamp 4 s).2 := by
  have c0 := h.ptr
  have H := Lib.hid h; clear h
  go_enter Try.func78, Try.ntmps78
  go_wp2_with fail
  refine (num_tnum w q r b s H.out).mono ?_
  rintro e w1 ⟨rfl, hT⟩
  have HT := Lib.hid hT; clear hT c0
  have HE := Lib.hid (show WM.tstamp 4 s = WM.tnums (min (WM.tnum s).1.toNat 4) (WM.tnum s).2 from rfl)
  obtain ⟨n, hn⟩ : ∃ n : Nat, (WM.tnum s).1 = (n : Int) := ⟨_, rfl⟩
  rw [hn, Int.toNat_natCast] at HE
  rw [hn]
  clear hn
  generalize (WM.tnum s).2 = s1 at HE HT
  by_cases h4 : n ≤ 4
  · have HM := Lib.hid (show min n 4 = n by omega)
    have h4i : (n : Int) ≤ 4 := by omega
    go_wp2_with fail
    go_loopw [3, 10] (fun v i wx => ∃ k : Nat, i = .int .i64 (k : Int) ∧ k ≤ n ∧ Hid (GrewF [r] w (WM.tnums k s1).1 v wx) ∧ Hid (RdAt wx q r b (WM.tnums k s1).2)) (fun _ i _ => n - (intOf i).toNat)
    case atStart => exact ⟨0, rfl, by omega, Lib.hid ⟨World.ownsRow_nil _ _ _ _, HT.out.2⟩, Lib.hid HT.out.1⟩
    case round =>
      obtain ⟨k, rfl, hk, HG, HR⟩ := hrel
      by_cases hlt : k < n
      · have c0 := HR.out.ptr
        have HL := Lib.hid (WM.tnums_len k s1)
        have HN := Lib.hid (WM.tnums_snoc k s1)
        generalize WM.tnums k s1 = cur at HG HR HL HN
        go_wp2_with fail
        refine (num_tnum _ q r b _ HR.out).mono ?_
        rintro e w2 ⟨rfl, hT2⟩
        have HT2 := Lib.hid hT2; clear hT2 c0
        have HG2 := Lib.hid (show GrewF [r] w cur.1 _ w2 from ⟨HT2.out.2.own HG.out.1 (fun k hk => by have := (HG.out.1.lt k hk).1; simp; omega), HG.out.2.trans HT2.out.2 (fun x hx => .inl hx)⟩)
        have hl9 : (cur.1.length + 1) * 8 ≤ 140737488355328 := by rw [HL.out]; omega
        go_wp2_with (at_builtin; refine app_oneF rfl (.tmp 12) (.tmp 18) rfl _ _ HG2.out rfl _ rfl hl9 ?_; intro v2 w3 hg2 hsame; have HG3 := Lib.hid hg2; have HSM := Lib.hid hsame; clear hg2 hsame)
        have HR3 := Lib.hid (rd_same HT2.out.1 (fun _ => Nat.lt_of_lt_of_le hb HG3.out.2.size) (HSM.out q (Nat.lt_of_lt_of_le hq HG2.out.2.size) (fun e => by have := (HG2.out.1.lt _ e).1; omega)) (HSM.out r (Nat.lt_of_lt_of_le hr HG2.out.2.size) (fun e => by have := (HG2.out.1.lt _ e).1; omega)) (fun _ => HSM.out b (Nat.lt_of_lt_of_le hb HG2.out.2.size) (fun e => by have := (HG2.out.1.lt _ e).1; omega)))
        go_roundw
        case rel => exact ⟨k + 1, rfl, by omega, by rw [HN.out]; exact HG3, by rw [HN.out]; exact HR3⟩
        case measure => simp only [intOf]; omega
      · have hkn : k = n := by omega
        have HF := Lib.hid (show WM.tstamp 4 s = WM.tnums k s1 by rw [HE.out, hkn, HM.out])
        clear hkn
        go_wp2_with fail
        go_ret
        exact ⟨_, rfl, by rw [HF.out]; exact HG, by rw [HF.out]; exact HR.out⟩
  · have HM := Lib.hid (show min n 4 = 4 by omega)
    have h4i : ¬ (n : Int) ≤ 4 := by omega
    go_wp2_with fail
    go_loopw [3, 10] (fun v i wx => ∃ k : Nat, i = .int .i64 (k : Int) ∧ k ≤ 4 ∧ Hid (GrewF [r] w (WM.tnums k s1).1 v wx) ∧ Hid (RdAt wx q r b (WM.tnums k s1).2)) (fun _ i _ => 4 - (intOf i).toNat)
    case atStart => exact ⟨0, rfl, by omega, Lib.hid ⟨World.ownsRow_nil _ _ _ _, HT.out.2⟩, Lib.hid HT.out.1⟩
    case round =>
      obtain ⟨k, rfl, hk, HG, HR⟩ := hrel
      by_cases hlt : k < 4
      · have c0 := HR.out.ptr
        have HL := Lib.hid (WM.tnums_len k s1)
        have HN := Lib.hid (WM.tnums_snoc k s1)
        generalize WM.tnums k s1 = cur at HG HR HL HN
        go_wp2_with fail
        refine (num_tnum _ q r b _ HR.out).mono ?_
        rintro e w2 ⟨rfl, hT2⟩
        have HT2 := Lib.hid hT2; clear hT2 c0
        have HG2 := Lib.hid (show GrewF [r] w cur.1 _ w2 from ⟨HT2.out.2.own HG.out.1 (fun k hk => by have := (HG.out.1.lt k hk).1; simp; omega), HG.out.2.trans HT2.out.2 (fun x hx => .inl hx)⟩)
        have hl9 : (cur.1.length + 1) * 8 ≤ 140737488355328 := by rw [HL.out]; omega
        go_wp2_with (at_builtin; refine app_oneF rfl (.tmp 12) (.tmp 18) rfl _ _ HG2.out rfl _ rfl hl9 ?_; intro v2 w3 hg2 hsame; have HG3 := Lib.hid hg2; have HSM := Lib.hid hsame; clear hg2 hsame)
        have HR3 := Lib.hid (rd_same HT2.out.1 (fun _ => Nat.lt_of_lt_of_le hb HG3.out.2.size) (HSM.out q (Nat.lt_of_lt_of_le hq HG2.out.2.size) (fun e => by have := (HG2.out.1.lt _ e).1; omega)) (HSM.out r (Nat.lt_of_lt_of_le hr HG2.out.2.size) (fun e => by have := (HG2.out.1.lt _ e).1; omega)) (fun _ => HSM.out b (Nat.lt_of_lt_of_le hb HG2.out.2.size) (fun e => by have := (HG2.out.1.lt _ e).1; omega)))
        go_roundw
        case rel => exact ⟨k + 1, rfl, by omega, by rw [HN.out]; exact HG3, by rw [HN.out]; exact HR3⟩
        case measure => simp only [intOf]; omega
      · have hkn : k = 4 := by omega
        have HF := Lib.hid (show WM.tstamp 4 s = WM.tnums k s1 by rw [HE.out, hkn, HM.out])
        clear hkn
        go_wp2_with fail
        go_ret
        exact ⟨_, rfl, by rw [HF.out]; exact HG, by rw [HF.out]; exact HR.out⟩
end Go.Proofs.Ytbjemihcbbiiaaa
namespace Go.Proofs.Ytbjemihcbbiiaaa
open Go.RowKit
open Oct (RAt BytesAt)
open WM (Msg)
set_option linter.unusedVariables false
set_option maxRecDepth 100000
/-- Reader and message together: what holds while a kind's fields are taken; what was ahead of it all. -/
structure Both6 (w0 w : World) (q r b g : Nat) (s : WM.St) (m : Msg) (sv : Value) : Prop where
  rd : RdAt w q r b s
  blk : MsgBlk w g m sv
  gq : g ≠ q
  gr : g ≠ r
  gb : g ≠ b
  mod : Mod [r, g] w0 w
  old : q < w0.heap.size ∧ r < w0.heap.size ∧ b < w0.heap.size ∧ g < w0.heap.size
  own : w.ownsRow w0.heap.size 3 1 sv m.stamp.length (i64s m.stamp)
section
variable {w0 w w' : World} {q r b g : Nat} {s s' : WM.St} {m m' : Msg} {sv sv' : Value}
theorem Both6.took (h : Both6 w0 w q r b g s m sv) (k : Took w q r b s' w') : Both6 w0 w' q r b g s' m sv :=
  ⟨k.1, k.2.whole h.blk (by simpa using h.gr), h.gq, h.gr, h.gb, h.mod.trans k.2 (fun x hx => .inl (by simp at hx; simp [hx])), h.old,
    k.2.own h.own (fun x hx => by have := (h.own.lt x hx).1; have := h.old; simp; omega)⟩
theorem Both6.drew (h : Both6 w0 w q r b g s m sv) : Both6 w0 w.drew q r b g s m sv := ⟨h.rd.drew, h.blk, h.gq, h.gr, h.gb, h.mod.drew, h.old, h.own⟩
theorem RdAt.far {i : Nat} (h : RdAt w q r b s) (gq : g ≠ q) (gr : g ≠ r) (gb : g ≠ b) (v : Value) : RdAt (w.setCell ⟨g, i, none⟩ v) q r b s := by
  have hm : Mod [g] w (w.setCell ⟨g, i, none⟩ v) := (Mod.refl _ _).store (.inl (by simp)) _
  obtain ⟨A, c, h1, h2, h3, h4, h5⟩ := h.rd
  exact ⟨hm.whole h.at_ (by simpa using Ne.symm gq), ⟨A, c, hm.whole h1 (by simpa using Ne.symm gr), h2.mod hm (fun ad e => by rw [h5 ad e]; simpa using Ne.symm gb), h3, h4, h5⟩, h.ne⟩
theorem Both6.stored (h : Both6 w0 w q r b g s m sv) (i : Nat) (v : Value) (m' : Msg) (he : (cellsM m sv).setIfInBounds i v = cellsM m' sv) (hs : m'.stamp = m.stamp) : Both6 w0 (w.setCell ⟨g, i, none⟩ v) q r b g s m' sv :=
  ⟨h.rd.far h.gq h.gr h.gb v, by have k := h.blk.store i v; rw [he] at k; exact k, h.gq, h.gr, h.gb, h.mod.store (.inl (by simp)) v, h.old,
    by rw [hs]; exact own_far h.own (fun e => by have h1 : w0.heap.size ≤ g := (h.own.lt _ e).1; have := h.old; omega) v⟩
/-- The reader took a stamp: it is not the message's yet. -/
structure Both6S (w0 w : World) (q r b g : Nat) (s : WM.St) (m : Msg) (sv : Value) (l : List Int) (lv : Value) : Prop where
  both : Both6 w0 w q r b g s m sv
  lst : w.ownsRow w0.heap.size 3 1 lv l.length (i64s l)
theorem own_base {w : World} {b1 b2 : Nat} {e : TypeId} {z n : Nat} {v : Value} {xs : List Value} (h : w.ownsRow b1 e z v n xs) (hb : b2 ≤ b1) : w.ownsRow b2 e z v n xs := by
  refine ⟨h.1, ?_⟩
  rcases h.2 with h0 | ⟨b, cap, cur, e, hb', hh, hr⟩
  · exact .inl h0
  · exact .inr ⟨b, cap, cur, e, Nat.le_trans hb hb', hh, hr⟩
theorem Both6.stamped (h : Both6 w0 w q r b g s m sv) {l : List Int} {lv : Value} (k : GrewF [r] w l lv w') (hr : RdAt w' q r b s') : Both6S w0 w' q r b g s' m sv l lv :=
  ⟨⟨hr, k.2.whole h.blk (by simpa using h.gr), h.gq, h.gr, h.gb, h.mod.trans k.2 (fun x hx => .inl (by simp at hx; simp [hx])), h.old,
    k.2.own h.own (fun x hx => by have := (h.own.lt x hx).1; have := h.old; simp; omega)⟩, own_base k.1 h.mod.size⟩
theorem Both6S.stored {l : List Int} {lv : Value} (h : Both6S w0 w q r b g s m sv l lv) (i : Nat) (v : Value) (m' : Msg) (he : (cellsM m sv).setIfInBounds i v = cellsM m' sv) (hs : m'.stamp = m.stamp) : Both6S w0 (w.setCell ⟨g, i, none⟩ v) q r b g s m' sv l lv :=
  ⟨h.both.stored i v m' he hs, own_far h.lst (fun e => by have h1 : w0.heap.size ≤ g := (h.lst.lt _ e).1; have := h.both.old; omega) v⟩
theorem Both6S.put {l : List Int} {lv : Value} (h : Both6S w0 w q r b g s m sv l lv) : Both6 w0 (w.setCell ⟨g, 13, none⟩ lv) q r b g s { m with stamp := l } lv := by
  have h' := h.both
  exact ⟨h'.rd.far h'.gq h'.gr h'.gb lv, h'.blk.store 13 lv, h'.gq, h'.gr, h'.gb, h'.mod.store (.inl (by simp)) lv, h'.old,
    own_far h.lst (fun e => by have h1 : w0.heap.size ≤ g := (h.lst.lt _ e).1; have := h'.old; omega) lv⟩
end
set_option maxHeartbeats 4000000 in
theorem rdone_any (w0 w : World) (q r b g : Nat) (s : WM.St) (m : Msg) (sv : Value) (h : Both6 w0 w q r b g s m sv) :
    Calls Try.prog 56 #[.pointer (some ⟨q, 0, none⟩), .pointer (some ⟨g, 0, none⟩)] w fun e w' => e = .returned (.tuple #[]) ∧ ∃ sv', Both6 w0 w' q r b g (WM.doneT m s).2 (WM.doneT m s).1 sv' := by
  have HB := Lib.hid h.drew
  have hgq := h.gq
  have HS := h.drew.rd.ptr
  clear h
  go_enter Try.func56, Try.ntmps56
  go_wp2_with fail
  go_region_held3 (fun w2 : World => w2.cell? ⟨q, 0, none⟩ = some (.pointer (some ⟨r, 0, none⟩)))
    (first
      | exact HS
      | (go_keep; done))
    (first
      | (go_at_call 65; refine (num_tnum _ q r b _ HB.out.rd).mono ?_; rintro x w1 ⟨rfl, hT⟩; replace HB := Lib.hid (HB.out.took hT); clear hT; (try clear c0 c1 c2 c3 c4 c5 c6 c7 c8 c9 c10 c11 c12 c13 c14 c15); (try clear f10 f14 f15); replace HS := HB.out.rd.ptr; have f10 := HB.out.blk.frozen 10; have f14 := HB.out.blk.frozen 14; have f15 := HB.out.blk.frozen 15; obtain ⟨c0, c1, c2, c3, c4, c5, c6, c7, c8, c9, c10, c11, c12, c13, c14, c15⟩ := msg_cells HB.out.blk))
  all_goals
    go_wp2_with fail
    go_end0
    exact ⟨rfl, _, (((HB.out).stored 10 _ ({ (m) with id := (WM.tnum (s)).1 } : Msg) rfl rfl).stored 14 _ ({ ({ (m) with id := (WM.tnum (s)).1 }) with origin := (WM.tnum ((WM.tnum (s)).2)).1 } : Msg) rfl rfl).stored 15 _ ({ ({ ({ (m) with id := (WM.tnum (s)).1 }) with origin := (WM.tnum ((WM.tnum (s)).2)).1 }) with number := (WM.tnum ((WM.tnum ((WM.tnum (s)).2)).2)).1 } : Msg) rfl rfl⟩
set_option maxHeartbeats 4000000 in
theorem rrecall_any (w0 w : World) (q r b g : Nat) (s : WM.St) (m : Msg) (sv : Value) (h : Both6 w0 w q r b g s m sv) :
    Calls Try.prog 53 #[.pointer (some ⟨q, 0, none⟩), .pointer (some ⟨g, 0, none⟩)] w fun e w' => e = .returned (.tuple #[]) ∧ ∃ sv', Both6 w0 w' q r b g (WM.recallT m s).2 (WM.recallT m s).1 sv' := by
  have HB := Lib.hid h.drew
  have hgq := h.gq
  have HS := h.drew.rd.ptr
  clear h
  go_enter Try.func53, Try.ntmps53
  go_wp2_with fail
  go_region_held3 (fun w2 : World => w2.cell? ⟨q, 0, none⟩ = some (.pointer (some ⟨r, 0, none⟩)))
    (first
      | exact HS
      | (go_keep; done))
    (first
      | (go_at_call 65; refine (num_tnum _ q r b _ HB.out.rd).mono ?_; rintro x w1 ⟨rfl, hT⟩; replace HB := Lib.hid (HB.out.took hT); clear hT; (try clear c0 c1 c2 c3 c4 c5 c6 c7 c8 c9 c10 c11 c12 c13 c14 c15); (try clear f10 f7 f14 f15); replace HS := HB.out.rd.ptr; have f10 := HB.out.blk.frozen 10; have f7 := HB.out.blk.frozen 7; have f14 := HB.out.blk.frozen 14; have f15 := HB.out.blk.frozen 15; obtain ⟨c0, c1, c2, c3, c4, c5, c6, c7, c8, c9, c10, c11, c12, c13, c14, c15⟩ := msg_cells HB.out.blk)
      | (go_at_call 73; refine (path_any _ q r b _ HB.out.rd).mono ?_; rintro x w1 ⟨rfl, hT⟩; replace HB := Lib.hid (HB.out.took hT); clear hT; (try clear c0 c1 c2 c3 c4 c5 c6 c7 c8 c9 c10 c11 c12 c13 c14 c15); (try clear f10 f7 f14 f15); replace HS := HB.out.rd.ptr; have f10 := HB.out.blk.frozen 10; have f7 := HB.out.blk.frozen 7; have f14 := HB.out.blk.frozen 14; have f15 := HB.out.blk.frozen 15; obtain ⟨c0, c1, c2, c3, c4, c5, c6, c7, c8, c9, c10, c11, c12, c13, c14, c15⟩ := msg_cells HB.out.blk))
  all_goals
    go_wp2_with fail
    go_end0
    exact ⟨rfl, _, ((((HB.out).stored 10 _ ({ (m) with id := (WM.tnum (s)).1 } : Msg) rfl rfl).stored 7 _ ({ ({ (m) with id := (WM.tnum (s)).1 }) with path := (WM.ttext ((WM.tnum (s)).2)).1 } : Msg) rfl rfl).stored 14 _ ({ ({ ({ (m) with id := (WM.tnum (s)).1 }) with path := (WM.ttext ((WM.tnum (s)).2)).1 }) with origin := (WM.tnum ((WM.ttext ((WM.tnum (s)).2)).2)).1 } : Msg) rfl rfl).stored 15 _ ({ ({ ({ ({ (m) with id := (WM.tnum (s)).1 }) with path := (WM.ttext ((WM.tnum (s)).2)).1 }) with origin := (WM.tnum ((WM.ttext ((WM.tnum (s)).2)).2)).1 }) with number := (WM.tnum ((WM.tnum ((WM.ttext ((WM.tnum (s)).2)).2)).2)).1 } : Msg) rfl rfl⟩
set_option maxHeartbeats 4000000 in
theorem rop_any (w0 w : World) (q r b g : Nat) (s : WM.St) (m : Msg) (sv : Value) (h : Both6 w0 w q r b g s m sv) :
    Calls Try.prog 59 #[.pointer (some ⟨q, 0, none⟩), .pointer (some ⟨g, 0, none⟩)] w fun e w' => e = .returned (.tuple #[]) ∧ ∃ sv', Both6 w0 w' q r b g (WM.opT 4 m s).2 (WM.opT 4 m s).1 sv' := by
  have HB := Lib.hid h.drew
  have hgq := h.gq
  have HS := h.drew.rd.ptr
  clear h
  go_enter Try.func59, Try.ntmps59
  go_wp2_with fail
  go_region_held3 (fun w2 : World => w2.cell? ⟨q, 0, none⟩ = some (.pointer (some ⟨r, 0, none⟩)))
    (first
      | exact HS
      | (go_keep; done))
    (first
      | (go_at_call 73; refine (path_any _ q r b _ HB.out.rd).mono ?_; rintro x w1 ⟨rfl, hT⟩; replace HB := Lib.hid (HB.out.took hT); clear hT; (try clear c0 c1 c2 c3 c4 c5 c6 c7 c8 c9 c10 c11 c12 c13 c14 c15); (try clear f7 f8 f13); replace HS := HB.out.rd.ptr; have f7 := HB.out.blk.frozen 7; have f8 := HB.out.blk.frozen 8; have f13 := HB.out.blk.frozen 13; obtain ⟨c0, c1, c2, c3, c4, c5, c6, c7, c8, c9, c10, c11, c12, c13, c14, c15⟩ := msg_cells HB.out.blk)
      | (go_at_call 65; refine (num_tnum _ q r b _ HB.out.rd).mono ?_; rintro x w1 ⟨rfl, hT⟩; replace HB := Lib.hid (HB.out.took hT); clear hT; (try clear c0 c1 c2 c3 c4 c5 c6 c7 c8 c9 c10 c11 c12 c13 c14 c15); (try clear f7 f8 f13); replace HS := HB.out.rd.ptr; have f7 := HB.out.blk.frozen 7; have f8 := HB.out.blk.frozen 8; have f13 := HB.out.blk.frozen 13; obtain ⟨c0, c1, c2, c3, c4, c5, c6, c7, c8, c9, c10, c11, c12, c13, c14, c15⟩ := msg_cells HB.out.blk)
      | (go_at_call 78; refine (rstamp_any _ q r b _ HB.out.rd (Nat.lt_of_lt_of_le HB.out.old.1 HB.out.mod.size) (Nat.lt_of_lt_of_le HB.out.old.2.1 HB.out.mod.size) (Nat.lt_of_lt_of_le HB.out.old.2.2.1 HB.out.mod.size)).mono ?_; rintro x w1 ⟨lv, rfl, hG, hT⟩; have HBS := Lib.hid (HB.out.stamped hG.out hT); obtain ⟨A9, n9, hA9, hn9⟩ : ∃ A n, lv = .slice A (WM.tstamp 4 _).1.length n ∧ True := (let ⟨A, c, e, _, _⟩ := own_shape hG.out.1; ⟨A, c, e, trivial⟩); subst hA9; replace HB := Lib.hid HBS.out.both; clear hG; clear hT; (try clear c0 c1 c2 c3 c4 c5 c6 c7 c8 c9 c10 c11 c12 c13 c14 c15); (try clear f7 f8 f13); replace HS := HB.out.rd.ptr; have f7 := HB.out.blk.frozen 7; have f8 := HB.out.blk.frozen 8; have f13 := HB.out.blk.frozen 13; obtain ⟨c0, c1, c2, c3, c4, c5, c6, c7, c8, c9, c10, c11, c12, c13, c14, c15⟩ := msg_cells HB.out.blk))
  all_goals
    go_wp2_with fail
    go_end0
    exact ⟨rfl, _, (((HBS.out).stored 7 _ ({ (m) with path := (WM.ttext (s)).1 } : Msg) rfl rfl).stored 8 _ ({ ({ (m) with path := (WM.ttext (s)).1 }) with mode := (WM.tnum ((WM.ttext (s)).2)).1 } : Msg) rfl rfl).put⟩
end Go.Proofs.Ytbjemihcbbiiaaa
