/- The bag's calls: all packets. -/
import Derived.Test.YtnbfdgccaacdiaaBagW4
import Derived.Laws.MakeOwn
namespace Go.Proofs.Ytnbfdgccaacdiaa
open Go.RowKit
open By (BytesAt u8s own_shape)
set_option linter.unusedVariables false
set_option linter.unusedSimpArgs false
set_option maxRecDepth 100000
theorem own_low {w : World} {b1 b2 : Nat} {e : TypeId} {z n : Nat} {v : Value} {xs : List Value} (h : w.ownsRow b1 e z v n xs) (hb : b2 ≤ b1) : w.ownsRow b2 e z v n xs := by
  refine ⟨h.1, ?_⟩
  rcases h.2 with h2 | ⟨g, cap, cur, hv, hg, h2⟩
  · exact .inl h2
  · exact .inr ⟨g, cap, cur, hv, Nat.le_trans hb hg, h2⟩
/-- A packet that lies in block b from cell o on; its bytes are the call's own. -/
def PkOwn (base : Nat) (w : World) (b o : Nat) (p : Pk) : Prop :=
  ∃ A c, w.cell? ⟨b, o, none⟩ = some (.int .i64 p.frm) ∧ w.cell? ⟨b, o + 1, none⟩ = some (.int .i64 p.dst) ∧ w.cell? ⟨b, o + 2, none⟩ = some (.slice A p.d.length c) ∧ w.ownsRow base 5 1 (.slice A p.d.length c) p.d.length (u8s p.d)
theorem PkOwn.pk {S : Nat → Prop} {base : Nat} {w : World} {b o : Nat} {p : Pk} (h : PkOwn base w b o p) (hS : ∀ x, base ≤ x → x < w.heap.size → S x) : PkAt S w b o p := by
  obtain ⟨A, c, h0, h1, h2, h3⟩ := h
  exact ⟨A, c, h0, h1, h2, Data.own h3 hS⟩
/-- The first k of these packets are written down in cells cs. -/
def Put (base : Nat) (w : World) (cs : Array Value) (ps : List Pk) (k : Nat) : Prop :=
  ∀ j p, j < k → ps[j]? = some p → ∃ A c, cs[j * 3]? = some (.int .i64 p.frm) ∧ cs[j * 3 + 1]? = some (.int .i64 p.dst) ∧ cs[j * 3 + 2]? = some (.slice A p.d.length c) ∧ w.ownsRow base 5 1 (.slice A p.d.length c) p.d.length (u8s p.d)
theorem Put.mod {base : Nat} {w w' : World} {cs : Array Value} {ps : List Pk} {k : Nat} {F : List Nat} (h : Put base w cs ps k) (hm : Mod F w w') (hF : ∀ x ∈ F, x < base) : Put base w' cs ps k := fun j p hj hp => by
  obtain ⟨A, c, h0, h1, h2, h3⟩ := h j p hj hp
  exact ⟨A, c, h0, h1, h2, hm.own h3 (fun x hx hf => by have := (h3.lt x hx).1; have := hF x hf; omega)⟩
theorem Put.next {base : Nat} {w : World} {cs : Array Value} {ps : List Pk} {k : Nat} {p : Pk} {A : Option Addr} {c : Nat} (h : Put base w cs ps k) (hk : ps[k]? = some p) (hs : cs.size = ps.length * 3)
    (ho : w.ownsRow base 5 1 (.slice A p.d.length c) p.d.length (u8s p.d)) :
    Put base w (((cs.setIfInBounds (k * 3) (.int .i64 p.frm)).setIfInBounds (k * 3 + 1) (.int .i64 p.dst)).setIfInBounds (k * 3 + 2) (.slice A p.d.length c)) ps (k + 1) := by
  have hkl := (List.getElem?_eq_some_iff.1 hk).1
  have get : ∀ i, (((cs.setIfInBounds (k * 3) (.int .i64 p.frm)).setIfInBounds (k * 3 + 1) (.int .i64 p.dst)).setIfInBounds (k * 3 + 2) (.slice A p.d.length c))[i]? = if i = k * 3 + 2 then some (.slice A p.d.length c) else if i = k * 3 + 1 then some (.int .i64 p.dst) else if i = k * 3 then some (.int .i64 p.frm) else cs[i]? := fun i => by
    rw [set_get (by simp; omega), set_get (by simp; omega), set_get (by omega)]
  intro j r hj hr
  by_cases e : j = k
  · subst e
    rw [hk] at hr
    injection hr with hr
    subst hr
    refine ⟨A, c, ?_, ?_, ?_, ho⟩
    · rw [get, if_neg (by omega), if_neg (by omega), if_pos rfl]
    · rw [get, if_neg (by omega), if_pos rfl]
    · rw [get, if_pos rfl]
  · obtain ⟨A', c', h0, h1, h2, h3⟩ := h j r (by omega) hr
    refine ⟨A', c', ?_, ?_, ?_, h3⟩
    · rw [get, if_neg (by omega), if_neg (by omega), if_neg (by omega)]; exact h0
    · rw [get, if_neg (by omega), if_neg (by omega), if_neg (by omega)]; exact h1
    · rw [get, if_neg (by omega), if_neg (by omega), if_neg (by omega)]; exact h2
/-- A list of packets that are the call's own, with their bytes. -/
def PksOwn (base : Nat) (w : World) (B : Option Addr) (ps : List Pk) : Prop :=
  0 < ps.length → ∃ b, B = some ⟨b, 0, none⟩ ∧ base ≤ b ∧ b < w.heap.size ∧ ∀ j p, ps[j]? = some p → PkOwn (b + 1) w b (j * 3) p
theorem PksOwn.at {S : Nat → Prop} {base : Nat} {w : World} {B : Option Addr} {ps : List Pk} (h : PksOwn base w B ps) (hS : ∀ x, base ≤ x → x < w.heap.size → S x) : PksAt S w B ps := fun h0 => by
  obtain ⟨b, e, h1, h2, h3⟩ := h h0
  refine ⟨b, 0, e, h2, hS b h1 h2, fun j p hj => ?_⟩
  have := (h3 j p hj).pk (S := S) (fun x hx hx2 => hS x (by omega) hx2)
  rwa [Nat.zero_add]
section
variable {S : Nat → Prop} {w w' : World} {g : Nat} {ps : List Pk} {s q : Int}
set_option maxHeartbeats 4000000 in
theorem List_any (h : BagAt S w g ps s q) (hl : ∀ p ∈ ps, p.d.length ≤ 140737488355328) :
    Calls Try.prog 16 #[.pointer (some ⟨g, 0, none⟩)] w fun e w' => ∃ B, e = .returned (.slice B ps.length ps.length) ∧ Hid (PksOwn w.heap.size w' B ps) ∧ Hid (Below w.heap.size w w') := by
  have h48 := h.le
  have H := Lib.hid h
  have HL := Lib.hid hl
  have HG := Lib.hid h.lt
  have hmk : ∀ w' : World, (Instr.makeSlice 26 (.int .i64 (ps.length : Int)) (.int .i64 (ps.length : Int))).run Try.prog w' = .ok (.slice (some ⟨w'.heap.size, 0, none⟩) ps.length ps.length) (w'.alloc (.cells (madeCells zero3 (ps.length * 3)) 31)) := fun w' => by
    obtain ⟨i0, hi, hz0, hz1, hz2⟩ := info_parts info_pk
    have h := run_make (P := Try.prog) w' 26 31 i0 (.agg zero3) Try.underlying26 hi hz0 .i64 .i64 (ps.length : Int) (ps.length : Int) (by omega) (by omega) (by rw [hz2]; omega) (by omega)
    simp only [Int.toNat_natCast, hz1, Value.cells] at h
    exact h
  clear h hl
  go_enter Try.func16, Try.ntmps16
  go_wp2_with fail
  refine (Len_any H.out).mono ?_
  rintro e w1 ⟨rfl, rfl⟩
  go_wp2_with fail
  have HC1 := Lib.hid (Whole.new w 31 (madeCells zero3 (ps.length * 3)))
  have HX1 := Lib.hid ((Below.refl _ w).alloc (Nat.le_refl _) (.cells (madeCells zero3 (ps.length * 3)) 31))
  generalize w.alloc (.cells (madeCells zero3 (ps.length * 3)) 31) = w1 at HC1 HX1 ⊢
  clear hmk
  go_loopw [10] (fun i wx => ∃ (k : Nat) (cs : Array Value), i = .int .i64 (k : Int) ∧ k ≤ ps.length ∧ Whole wx w.heap.size 31 cs ∧ cs.size = ps.length * 3 ∧ Put (w.heap.size + 1) wx cs ps k ∧ Below w.heap.size w wx) (fun i _ => ps.length - (intOf i).toNat)
  case atStart => exact ⟨0, _, rfl, by omega, HC1.out, size_madeCells _ _, fun j p hj => absurd hj (by omega), HX1.out⟩
  case round =>
    obtain ⟨k, cs, rfl, hk, hW, hs, hP, hB⟩ := hrel
    have HW := Lib.hid hW; have HS := Lib.hid hs; have HP := Lib.hid hP; have HB := Lib.hid hB
    clear hW hs hP hB
    by_cases hlt : k < ps.length
    · have HPK := Lib.hid (List.getElem?_eq_getElem hlt)
      have HPL := Lib.hid (HL.out ps[k] (List.getElem_mem hlt))
      generalize ps[k] = p at HPK HPL
      obtain ⟨A, c, a0, a1, a2, hd⟩ := (H.out.below HB.out).pk HPK.out
      have HD := Lib.hid hd
      clear hd
      go_wp2_with fail
      clear a0 a1 a2
      refine (owned_any p A c wr HD.out.bytes HPL.out).mono ?_
      rintro e w5 ⟨A1, c1, rfl, ho, hb⟩
      have HO := Lib.hid ho.out
      have HW5 := Lib.hid ((Mod.of_below hb []).whole HW.out (by simp))
      have HP5 := Lib.hid (HP.out.mod (Mod.of_below hb []) (by simp))
      have HB5 := Lib.hid (below_on HB.out hb)
      have HOB := Lib.hid (show w.heap.size + 1 ≤ wr.heap.size from HW.out.lt)
      clear ho hb
      obtain ⟨o0, e0⟩ : ∃ v, cs[k * 3]? = some v := ⟨_, Array.getElem?_eq_getElem (by have := HS.out; omega)⟩
      obtain ⟨o1, e1⟩ : ∃ v, cs[k * 3 + 1]? = some v := ⟨_, Array.getElem?_eq_getElem (by have := HS.out; omega)⟩
      obtain ⟨o2, e2⟩ : ∃ v, cs[k * 3 + 2]? = some v := ⟨_, Array.getElem?_eq_getElem (by have := HS.out; omega)⟩
      have t0 : w5.cell? ⟨w.heap.size, k * 3, none⟩ = some o0 := (HW5.out.cell _).trans e0
      have t1 : w5.cell? ⟨w.heap.size, k * 3 + 1, none⟩ = some o1 := (HW5.out.cell _).trans e1
      have t2 : w5.cell? ⟨w.heap.size, k * 3 + 2, none⟩ = some o2 := (HW5.out.cell _).trans e2
      have f0 := HW5.out.frozen (k * 3)
      have f1 := HW5.out.frozen (k * 3 + 1)
      have f2 := HW5.out.frozen (k * 3 + 2)
      clear e0 e1 e2
      unfold three
      go_wp2_with fail
      have HM := Lib.hid (mod3 w5 w.heap.size (k * 3) (k * 3 + 1) (k * 3 + 2) (.int .i64 p.frm) (.int .i64 p.dst) (.slice A1 p.d.length c1))
      go_roundw
      · refine ⟨k + 1, ((cs.setIfInBounds (k * 3) (.int .i64 p.frm)).setIfInBounds (k * 3 + 1) (.int .i64 p.dst)).setIfInBounds (k * 3 + 2) (.slice A1 p.d.length c1), rfl, hlt, ((HW5.out.store (k * 3) (.int .i64 p.frm)).store (k * 3 + 1) (.int .i64 p.dst)).store (k * 3 + 2) (.slice A1 p.d.length c1), by have := HS.out; simpa using this, ?_, HB5.out.trans (HM.out.below HB5.out.size (by simp))⟩
        exact (HP5.out.mod HM.out (by simp)).next HPK.out HS.out (HM.out.own (own_low HO.out HOB.out) (fun x hx hf => by have := ((own_low HO.out HOB.out).lt x hx).1; simp at hf; omega))
      · simp [intOf]; omega
    · obtain rfl : k = ps.length := by omega
      go_wp2_with fail
      go_ret
      refine ⟨_, rfl, Lib.hid (fun h0 => ⟨w.heap.size, rfl, Nat.le_refl _, HW.out.lt, fun j p hj => ?_⟩), Lib.hid HB.out⟩
      obtain ⟨A, c, h0, h1, h2, h3⟩ := HP.out j p (List.getElem?_eq_some_iff.1 hj).1 hj
      exact ⟨A, c, (HW.out.cell _).trans h0, (HW.out.cell _).trans h1, (HW.out.cell _).trans h2, h3⟩
end
end Go.Proofs.Ytnbfdgccaacdiaa
