/- The bag's calls: a packet is sent, a packet is doubled. -/
import Derived.Test.YtnbfdgccaacdiaaBagW3
namespace Go.Proofs.Ytnbfdgccaacdiaa
open Go.RowKit
open By (BytesAt u8s own_shape)
set_option linter.unusedVariables false
set_option linter.unusedSimpArgs false
set_option maxRecDepth 100000
section
variable {S : Nat → Prop} {w w' : World} {g : Nat} {ps : List Pk} {s q : Int}
theorem set_get {cs : Array Value} {k : Nat} {v : Value} (hk : k < cs.size) (i : Nat) : (cs.setIfInBounds k v)[i]? = if i = k then some v else cs[i]? := by
  rw [Array.getElem?_setIfInBounds]
  by_cases e : k = i
  · subst e
    rw [if_pos rfl, if_pos rfl, if_pos hk]
  · rw [if_neg e, if_neg (fun x => e x.symm)]
theorem set_one {cs : Array Value} {k : Nat} {v : Value} (h6 : ∀ v ∈ cs.toList, v.oneCell' = true) (hv : v.oneCell' = true) : ∀ u ∈ (cs.setIfInBounds k v).toList, u.oneCell' = true := by
  intro u hu
  rw [Array.toList_setIfInBounds] at hu
  rcases List.mem_or_eq_of_mem_set hu with hu | hu
  · exact h6 u hu
  · subst hu; exact hv
theorem BagAt.sent (h : BagAt S w g ps s q) (v : Int) : BagAt S (w.setCell ⟨g, 145, none⟩ (.int .i64 v)) g ps v q := by
  obtain ⟨cs, h1, h2, h3, h4, h5, h6, h7⟩ := h.ex
  have h48 := h.le
  have get := set_get (cs := cs) (k := 145) (v := .int .i64 v) (by omega)
  have hm : Mod [g] w (w.setCell ⟨g, 145, none⟩ (.int .i64 v)) := (Mod.refl [g] w).store (.inl (by simp)) _
  refine ⟨⟨_, h1.store 145 _, by rw [Array.size_setIfInBounds]; exact h2, by rw [get, if_neg (by decide)]; exact h3, by rw [get, if_pos rfl], by rw [get, if_neg (by decide)]; exact h5, set_one h6 rfl, fun j p hj => ?_⟩, h48, h.self⟩
  have hj' := (List.getElem?_eq_some_iff.1 hj).1
  obtain ⟨A, c, q0, q1, q2, q3⟩ := h7 j p hj
  rw [get, get, get, if_neg (by omega), if_neg (by omega), if_neg (by omega)]
  exact ⟨A, c, q0, q1, q2, q3.mod hm (by intro x hx; rw [List.mem_singleton.1 hx]; exact h.self)⟩
theorem BagAt.lost (h : BagAt S w g ps s q) (v : Int) : BagAt S (w.setCell ⟨g, 146, none⟩ (.int .i64 v)) g ps s v := by
  obtain ⟨cs, h1, h2, h3, h4, h5, h6, h7⟩ := h.ex
  have h48 := h.le
  have get := set_get (cs := cs) (k := 146) (v := .int .i64 v) (by omega)
  have hm : Mod [g] w (w.setCell ⟨g, 146, none⟩ (.int .i64 v)) := (Mod.refl [g] w).store (.inl (by simp)) _
  refine ⟨⟨_, h1.store 146 _, by rw [Array.size_setIfInBounds]; exact h2, by rw [get, if_neg (by decide)]; exact h3, by rw [get, if_neg (by decide)]; exact h4, by rw [get, if_pos rfl], set_one h6 rfl, fun j p hj => ?_⟩, h48, h.self⟩
  have hj' := (List.getElem?_eq_some_iff.1 hj).1
  obtain ⟨A, c, q0, q1, q2, q3⟩ := h7 j p hj
  rw [get, get, get, if_neg (by omega), if_neg (by omega), if_neg (by omega)]
  exact ⟨A, c, q0, q1, q2, q3.mod hm (by intro x hx; rw [List.mem_singleton.1 hx]; exact h.self)⟩
theorem BagAt.frozen (h : BagAt S w g ps s q) (o : Nat) : w.frozen? ⟨g, o, none⟩ = false := by
  obtain ⟨cs, h1, _⟩ := h.ex
  exact h1.frozen o
set_option maxHeartbeats 1000000 in
theorem Send_nil (w : World) (p : Pk) (A : Option Addr) (c : Nat) :
    Calls Try.prog 19 #[.pointer none, .agg (three p A c)] w fun e w' => e = .returned (.int .i64 1) ∧ Below w.heap.size w w' := by
  have HX := Lib.hid ((Below.refl _ w).alloc (Nat.le_refl _) (.cells (three p A c) 31))
  go_enter Try.func19, Try.ntmps19
  go_upto_region 1 with (fail)
  generalize w.alloc (.cells (three p A c) 31) = w0 at HX ⊢
  go_wp2_with fail
  go_ret
  exact ⟨rfl, HX.out⟩
set_option maxHeartbeats 1000000 in
theorem Send_space (h : BagAt S w g ps s q) (p : Pk) (A : Option Addr) (c : Nat) (hl : 200 < p.d.length) (hw : IntKind.i64.wrap (q + 1) = q + 1) :
    Calls Try.prog 19 #[.pointer (some ⟨g, 0, none⟩), .agg (three p A c)] w fun e w' => e = .returned (.int .i64 41) ∧ Hid (BagAt S w' g ps s (q + 1)) ∧ Hid (Mod [g] w w') := by
  have HX := Lib.hid ((Below.refl _ w).alloc (Nat.le_refl _) (.cells (three p A c) 31))
  have H := Lib.hid (h.below HX.out)
  have HP := Lib.hid (Whole.new w 31 (three p A c))
  have hd : decide ((p.d.length : Int) ≤ 200) = false := by simp; omega
  have hdb : decide (p.d.length ≤ 200) = false := by simp; omega
  clear h hl
  go_enter Try.func19, Try.ntmps19
  go_upto_region 1 with (fail)
  generalize w.alloc (.cells (three p A c) 31) = w0 at HX H HP ⊢
  have p2 : w0.cell? ⟨w.heap.size, 2, none⟩ = some (.slice A p.d.length c) := HP.out.cell 2
  have g2 := H.out.nums.2.2
  have f2 := H.out.frozen 146
  go_wp2_with fail
  go_ret
  exact ⟨rfl, Lib.hid (H.out.lost _), Lib.hid ((Mod.of_below HX.out [g]).store (.inl (by simp)) _)⟩
set_option maxHeartbeats 1000000 in
theorem Send_full (h : BagAt S w g ps s q) (p : Pk) (A : Option Addr) (c : Nat) (hl : p.d.length ≤ 200) (h48 : ps.length = 48) (hw : IntKind.i64.wrap (q + 1) = q + 1) :
    Calls Try.prog 19 #[.pointer (some ⟨g, 0, none⟩), .agg (three p A c)] w fun e w' => e = .returned (.int .i64 51) ∧ Hid (BagAt S w' g ps s (q + 1)) ∧ Hid (Mod [g] w w') := by
  have HX := Lib.hid ((Below.refl _ w).alloc (Nat.le_refl _) (.cells (three p A c) 31))
  have H := Lib.hid (h.below HX.out)
  have HP := Lib.hid (Whole.new w 31 (three p A c))
  have hd : decide ((p.d.length : Int) ≤ 200) = true := by simp; omega
  have hdb : decide (p.d.length ≤ 200) = true := by simp; omega
  have H48 := Lib.hid h48
  clear h hl h48
  go_enter Try.func19, Try.ntmps19
  go_upto_region 1 with (fail)
  generalize w.alloc (.cells (three p A c) 31) = w0 at HX H HP ⊢
  have p0 : w0.cell? ⟨w.heap.size, 0, none⟩ = some (.int .i64 p.frm) := HP.out.cell 0
  have p1 : w0.cell? ⟨w.heap.size, 1, none⟩ = some (.int .i64 p.dst) := HP.out.cell 1
  have p2 : w0.cell? ⟨w.heap.size, 2, none⟩ = some (.slice A p.d.length c) := HP.out.cell 2
  go_wp2_with fail
  clear p0 p1 p2
  refine (put_full H.out H48.out p A c).mono ?_
  rintro e w1 ⟨rfl, hb⟩
  have H1 := Lib.hid (H.out.below hb)
  have HX1 := Lib.hid (below_on HX.out hb)
  clear hb
  have g2 := H1.out.nums.2.2
  have f2 := H1.out.frozen 146
  go_wp2_with fail
  go_ret
  exact ⟨rfl, Lib.hid (H1.out.lost _), Lib.hid ((Mod.of_below HX1.out [g]).store (.inl (by simp)) _)⟩
set_option maxHeartbeats 1000000 in
theorem Send_ok (h : BagAt S w g ps s q) (p : Pk) (A : Option Addr) (c : Nat) (hB : BytesAt w A p.d) (hl : p.d.length ≤ 200) (h48 : ps.length < 48) (hS : ∀ x, w.heap.size ≤ x → S x) (hw : IntKind.i64.wrap (s + 1) = s + 1) :
    Calls Try.prog 19 #[.pointer (some ⟨g, 0, none⟩), .agg (three p A c)] w fun e w' => e = .returned (.int .i64 0) ∧ Hid (BagAt S w' g (ps ++ [p]) (s + 1) q) ∧ Hid (Mod [g] w w') := by
  have HX := Lib.hid ((Below.refl _ w).alloc (Nat.le_refl _) (.cells (three p A c) 31))
  have H := Lib.hid (h.below HX.out)
  have HB := Lib.hid (hB.below HX.out)
  have HP := Lib.hid (Whole.new w 31 (three p A c))
  have hd : decide ((p.d.length : Int) ≤ 200) = true := by simp; omega
  have hdb : decide (p.d.length ≤ 200) = true := by simp; omega
  have HH := Lib.hid (And.intro hl h48)
  have HSS := Lib.hid hS
  clear h hl h48 hS hB
  go_enter Try.func19, Try.ntmps19
  go_upto_region 1 with (fail)
  generalize w.alloc (.cells (three p A c) 31) = w0 at HX H HP HB ⊢
  have p0 : w0.cell? ⟨w.heap.size, 0, none⟩ = some (.int .i64 p.frm) := HP.out.cell 0
  have p1 : w0.cell? ⟨w.heap.size, 1, none⟩ = some (.int .i64 p.dst) := HP.out.cell 1
  have p2 : w0.cell? ⟨w.heap.size, 2, none⟩ = some (.slice A p.d.length c) := HP.out.cell 2
  go_wp2_with fail
  clear p0 p1 p2
  refine (put_ok H.out HH.out.2 p A c HB.out (by have := HH.out.1; omega) (fun x hx => HSS.out x (Nat.le_trans HX.out.size hx))).mono ?_
  rintro e w1 ⟨rfl, H1, HM1⟩
  have g2 := H1.out.nums.2.1
  have f2 := H1.out.frozen 145
  go_wp2_with fail
  go_ret
  exact ⟨rfl, Lib.hid (H1.out.sent _), Lib.hid (((Mod.of_below HX.out [g]).trans HM1.out (by simp)).store (.inl (by simp)) _)⟩
set_option maxHeartbeats 1000000 in
theorem Double_nil (w : World) (k : Int) :
    Calls Try.prog 14 #[.pointer none, .int .i64 k] w fun e w' => e = .returned (.int .i64 1) ∧ w = w' := by
  go_enter Try.func14, Try.ntmps14
  go_wp2_with fail
  go_ret
  exact ⟨rfl, rfl⟩
set_option maxHeartbeats 1000000 in
theorem Double_gone (h : BagAt S w g ps s q) {k : Int} (hk : k < 0 ∨ (ps.length : Int) ≤ k) :
    Calls Try.prog 14 #[.pointer (some ⟨g, 0, none⟩), .int .i64 k] w fun e w' => e = .returned (.int .i64 72) ∧ w = w' := by
  have H := Lib.hid h
  have HK := Lib.hid hk
  clear h hk
  go_enter Try.func14, Try.ntmps14
  go_wp2_with fail
  refine (has_no H.out HK.out).mono ?_
  rintro e w1 ⟨rfl, rfl⟩
  go_wp2_with fail
  go_ret
  exact ⟨rfl, rfl⟩
set_option maxHeartbeats 1000000 in
theorem Double_full (h : BagAt S w g ps s q) {k : Nat} {p : Pk} (hk : ps[k]? = some p) (h48 : ps.length = 48) :
    Calls Try.prog 14 #[.pointer (some ⟨g, 0, none⟩), .int .i64 (k : Int)] w fun e w' => e = .returned (.int .i64 51) ∧ Below w.heap.size w w' := by
  have hlt : k < ps.length := (List.getElem?_eq_some_iff.1 hk).1
  have h48' := h.le
  have H := Lib.hid h
  have HK := Lib.hid hk
  clear h hk
  go_enter Try.func14, Try.ntmps14
  go_wp2_with fail
  refine (has_yes H.out hlt).mono ?_
  rintro e w1 ⟨rfl, rfl⟩
  obtain ⟨A, c, a0, a1, a2, hd⟩ := H.out.pk HK.out
  have HD := Lib.hid hd
  clear hd
  go_wp2_with fail
  clear a0 a1 a2
  refine (put_full H.out h48 p A c).mono ?_
  rintro e w1 ⟨rfl, hb⟩
  go_wp2_with fail
  go_ret
  exact ⟨rfl, hb⟩
set_option maxHeartbeats 1000000 in
theorem Double_ok (h : BagAt S w g ps s q) {k : Nat} {p : Pk} (hk : ps[k]? = some p) (h48 : ps.length < 48) (hl : p.d.length ≤ 140737488355328) (hS : ∀ x, w.heap.size ≤ x → S x) :
    Calls Try.prog 14 #[.pointer (some ⟨g, 0, none⟩), .int .i64 (k : Int)] w fun e w' => e = .returned (.int .i64 0) ∧ Hid (BagAt S w' g (ps ++ [p]) s q) ∧ Hid (Mod [g] w w') := by
  have hlt : k < ps.length := (List.getElem?_eq_some_iff.1 hk).1
  have h48' := h.le
  have H := Lib.hid h
  have HK := Lib.hid hk
  clear h hk
  go_enter Try.func14, Try.ntmps14
  go_wp2_with fail
  refine (has_yes H.out hlt).mono ?_
  rintro e w1 ⟨rfl, rfl⟩
  obtain ⟨A, c, a0, a1, a2, hd⟩ := H.out.pk HK.out
  have HD := Lib.hid hd
  clear hd
  go_wp2_with fail
  clear a0 a1 a2
  refine (put_ok H.out h48 p A c HD.out.bytes hl hS).mono ?_
  rintro e w1 ⟨rfl, H1, HM1⟩
  go_wp2_with fail
  go_ret
  exact ⟨rfl, H1, HM1⟩
end
end Go.Proofs.Ytnbfdgccaacdiaa
