/- The package's record among sectors: its bytes and how many sectors it takes, or given up by a panic. -/
import Derived.Test.YtlnahmgcjaodkaaScW6
import Derived.Test.YtlnahmgcjaodkaaScApp
namespace Go.Proofs.Ytlnahmgcjaodkaa
open Go.RowKit
open By
set_option linter.unusedVariables false
set_option linter.unusedSimpArgs false
set_option maxRecDepth 100000
/-- A record with this generation and number stands ahead of all. -/
def RecI (ss : List (List UInt8)) (g s : Int) (d : List UInt8) (n : Nat) : Prop := ∃ gn sn : Nat, (gn : Int) = g ∧ (sn : Int) = s ∧ SC.Rec ss gn sn d n
theorem Fits.uniq {ss : List (List UInt8)} {g s : Int} {i : Nat} {p q : SC.Pt} (h : Fits ss g s i p) (k : Fits ss g s i q) : p = q := by
  obtain ⟨x, h1, h2, _⟩ := h
  obtain ⟨y, k1, k2, _⟩ := k
  rw [h1] at k1
  cases k1
  exact h2.uniq k2
theorem RecI.at {ss : List (List UInt8)} {g s : Int} {d : List UInt8} {n : Nat} (h : RecI ss g s d n) {i : Nat} (hi : i < n) : ∃ p, Fits ss g s i p ∧ p.parts = n := by
  obtain ⟨gn, sn, rfl, rfl, ps, h1, h2, h3, _⟩ := h
  obtain ⟨b, k1, k2, k3, k4, k5, k6⟩ := h3 i (ps[i]'(by omega)) (List.getElem?_eq_getElem _)
  exact ⟨_, ⟨b, k1, k2, by rw [k3], by rw [k4], k5⟩, k6⟩
theorem norec0 {ss : List (List UInt8)} {g s : Int} (h : ∀ p, ¬ Fits ss g s 0 p) (d : List UInt8) (n : Nat) : ¬ RecI ss g s d n := fun k => by
  have hn : 1 ≤ n := by obtain ⟨_, _, _, _, hr⟩ := k; exact hr.le.1
  obtain ⟨p, hp, _⟩ := k.at (i := 0) hn
  exact h p hp
theorem norec {ss : List (List UInt8)} {g s : Int} {p : SC.Pt} (h : Fits ss g s 0 p) {i : Nat} (hi : i < p.parts) (hq : ∀ q, Fits ss g s i q → q.parts ≠ p.parts) (d : List UInt8) (n : Nat) : ¬ RecI ss g s d n := fun k => by
  have hn : 1 ≤ n := by obtain ⟨_, _, _, _, hr⟩ := k; exact hr.le.1
  obtain ⟨p', hp', e⟩ := k.at (i := 0) hn
  have := h.uniq hp'
  subst this
  obtain ⟨q, hq', e'⟩ := k.at (i := i) (by omega)
  exact hq q hq' (by omega)
/-- The first parts are there. -/
def Row (ss : List (List UInt8)) (g s : Int) (n : Nat) (ps : List SC.Pt) : Prop := ∀ (j : Nat) (p : SC.Pt), ps[j]? = some p → Fits ss g s j p ∧ p.parts = n
theorem Row.rec {ss : List (List UInt8)} {g s : Int} {n : Nat} {ps : List SC.Pt} (h : Row ss g s n ps) (hl : ps.length = n) (hn : 1 ≤ n) : RecI ss g s (ps.flatMap SC.Pt.data) n := by
  obtain ⟨⟨x, h1, h2, h3, h4, h5⟩, h6⟩ := h 0 (ps[0]'(by omega)) (List.getElem?_eq_getElem _)
  refine ⟨_, _, h3, h4, ps, hl, hn, fun i p hp => ?_, rfl⟩
  obtain ⟨⟨y, k1, k2, k3, k4, k5⟩, k6⟩ := h i p hp
  exact ⟨y, k1, k2, by rw [← h3] at k3; exact Int.ofNat.inj k3, by rw [← h4] at k4; exact Int.ofNat.inj k4, k5, k6⟩
theorem Row.one {ss : List (List UInt8)} {g s : Int} {p : SC.Pt} (h : Fits ss g s 0 p) : Row ss g s p.parts [p] := fun j q hq => by
  cases j with
  | zero => cases hq; exact ⟨h, rfl⟩
  | succ j => simp at hq
theorem Row.snoc {ss : List (List UInt8)} {g s : Int} {n : Nat} {ps : List SC.Pt} (h : Row ss g s n ps) {p : SC.Pt} (hp : Fits ss g s ps.length p) (hn : p.parts = n) : Row ss g s n (ps ++ [p]) := fun j q hq => by
  by_cases hj : j < ps.length
  · rw [List.getElem?_append_left hj] at hq
    exact h j q hq
  · have hjl : j = ps.length := by have := (List.getElem?_eq_some_iff.1 hq).1; rw [List.length_append, List.length_singleton] at this; omega
    subst hjl
    rw [List.getElem?_append_right (Nat.le_refl _), Nat.sub_self] at hq
    cases hq
    exact ⟨hp, hn⟩
theorem Row.len {ss : List (List UInt8)} {g s : Int} {n : Nat} {ps : List SC.Pt} (h : Row ss g s n ps) : (ps.flatMap SC.Pt.data).length ≤ 47 * ps.length := by
  have : ∀ qs : List SC.Pt, (∀ p ∈ qs, p.data.length ≤ 47) → (qs.flatMap SC.Pt.data).length ≤ 47 * qs.length := fun qs => by
    induction qs with
    | nil => intro _; simp
    | cons q qs ih =>
      intro hq
      rw [List.flatMap_cons, List.length_append, List.length_cons]
      have := hq q List.mem_cons_self
      have := ih (fun p hp => hq p (List.mem_cons_of_mem _ hp))
      omega
  refine this ps (fun p hp => ?_)
  obtain ⟨j, hj⟩ := List.mem_iff_getElem?.1 hp
  obtain ⟨⟨x, _, h2, _⟩, _⟩ := h j p hj
  exact h2.1.len
def RecPost (w : World) (ss : List (List UInt8)) (g s : Int) (e : Ending) (w' : World) : Prop :=
  Hid (Below w.heap.size w w') ∧ ((∃ d n v, Hid (RecI ss g s d n) ∧ e = .returned (.tuple #[v, .int .i64 (n : Int)]) ∧ Hid (w'.ownsRow w.heap.size 5 1 v d.length (u8s d))) ∨ (Hid (∀ d n, ¬ RecI ss g s d n) ∧ e = .panicked [{ v := misV, recovered := false }]))
set_option maxHeartbeats 4000000 in
theorem record_any (A : Option Addr) (n c : Nat) (ss : List (List UInt8)) (g s : Int) (w : World) (hA : RowsAt w A ss) (hn : ss.length = n) (hnc : n ≤ c ∧ c ≤ 9223372036854775807) :
    Calls Try.prog 33 #[.slice A n c, .int .i64 g, .int .i64 s] w (RecPost w ss g s) := by
  have HP0 := Lib.hid (part_any A n c ss g s 0 w hA hn (by decide) hnc)
  rw [show ((0 : Nat) : Int) = 0 from rfl] at HP0
  have HPI := Lib.hid (fun (i : Nat) (hi : i < 1000) (W : World) (hb : Below w.heap.size w W) => part_any A n c ss g s i W (hA.below hb) hn hi hnc)
  clear hA hn hnc
  go_enter Try.func33, Try.ntmps33
  go_wp2_with fail
  go_at_call 41
  with_reducible refine HP0.out.mono ?_
  rintro e w5 ⟨HB5, ⟨p, v, HF, rfl, HO⟩ | ⟨HNo, rfl⟩⟩
  · obtain ⟨A6, c6, rfl, _, _⟩ := own_shape HO.out
    have HX := Lib.hid (Whole.new w5 33 (pcells p (.slice A6 p.data.length c6)))
    have HG := Lib.hid (show Grow w ([p].flatMap SC.Pt.data) (.slice A6 p.data.length c6) (w5.alloc (.cells (pcells p (.slice A6 p.data.length c6)) 33)) from
      ⟨by rw [List.flatMap_cons, List.flatMap_nil, List.append_nil]; exact ((Mod.refl [] w5).alloc _).own HO.out (by simp), HB5.out.alloc HB5.out.size _⟩)
    have HR := Lib.hid (Row.one HF.out)
    have HP4 := Lib.hid (show 1 ≤ p.parts ∧ p.parts ≤ 4 from by obtain ⟨x, _, h2, _⟩ := HF.out; exact h2.1.parts)
    have hgp : w.heap.size ≤ w5.heap.size := HB5.out.size
    clear HO
    obtain ⟨pg, ps, pi, pm, pd⟩ := p
    unfold pv
    unfold pcells at HX HG ⊢
    simp only at HX HG HP4 HR
    have a4 := HX.out.cell 4
    have a3 := HX.out.cell 3
    go_wp2_with fail
    go_loopw [9, 10] (fun v i wr => ∃ (k : Nat) (qs : List SC.Pt), i = .int .i64 (k : Int) ∧ 1 ≤ k ∧ k ≤ pm ∧ Hid (qs.length = k) ∧ Hid (Row ss g s pm qs) ∧ Hid (Grow w (qs.flatMap SC.Pt.data) v wr) ∧ Hid (Whole wr w5.heap.size 33 #[.int .i64 (pg : Int), .int .i64 (ps : Int), .int .i64 (pi : Int), .int .i64 (pm : Int), .slice A6 pd.length c6])) (fun _ i _ => pm - (intOf i).toNat)
    case atStart => exact ⟨1, _, rfl, Nat.le_refl _, HP4.out.1, Lib.hid rfl, HR, HG, HX⟩
    case round =>
      obtain ⟨k, qs, rfl, hk1, hk, HQ, HRW, HGR, HXR⟩ := hrel
      have a3' : wr.cell? ⟨w5.heap.size, 3, none⟩ = some (.int .i64 (pm : Int)) := HXR.out.cell 3
      by_cases hlt : k < pm
      · have hkb : k < 4 := by have := HP4.out.2; omega
        have HPK := Lib.hid (HPI.out k (by have := HP4.out.2; omega) wr HGR.out.below)
        clear a3 a4
        go_wp2_with fail
        go_at_call 41
        with_reducible refine HPK.out.mono ?_
        rintro e w6 ⟨HB6, ⟨p, v6, HF6, rfl, HO6⟩ | ⟨HN6, rfl⟩⟩
        · obtain ⟨A7, c7, rfl, _, _⟩ := own_shape HO6.out
          have HX7 := Lib.hid (Whole.new w6 33 (pcells p (.slice A7 p.data.length c7)))
          have HXB := Lib.hid (((Mod.of_below HB6.out []).whole HXR.out (by simp)).alloc (.cells (pcells p (.slice A7 p.data.length c7)) 33))
          have HGB := Lib.hid ((HGR.out.on HB6.out).on ((Below.refl w6.heap.size w6).alloc (Nat.le_refl _) (.cells (pcells p (.slice A7 p.data.length c7)) 33)))
          have HBY := Lib.hid (show BytesAt (w6.alloc (.cells (pcells p (.slice A7 p.data.length c7)) 33)) A7 p.data from (BytesAt.own HO6.out).below ((Below.refl w6.heap.size w6).alloc (Nat.le_refl _) _))
          obtain ⟨qg, qq, qi, qm, qd⟩ := p
          unfold pv
          unfold pcells at HX7 HXB HGB HBY ⊢
          simp only at HX7 HXB HGB HBY HF6
          have e3 := HX7.out.cell 3
          have e4 := HX7.out.cell 4
          have d3 := HXB.out.cell 3
          clear a3' HO6
          by_cases hm : qm = pm
          · subst hm
            have HRN := Lib.hid (HRW.out.snoc (p := ⟨qg, qq, qi, qm, qd⟩) (by rw [HQ.out]; exact HF6.out) rfl)
            have HL := Lib.hid (show (qs.flatMap SC.Pt.data).length + qd.length ≤ 140737488355328 by
              have h1 := HRN.out.len
              rw [List.flatMap_append, List.length_append, List.length_append, HQ.out] at h1
              simp only [List.flatMap_cons, List.flatMap_nil, List.append_nil, List.length_singleton] at h1
              have := HP4.out.2
              omega)
            go_wp2_with (at_builtin; refine app_grow HGB.out HBY.out rfl HL.out rfl (.tmp 35) (.tmp 37) rfl rfl rfl ?_; intro v8 w8 HG8 HM8)
            have HX8 := Lib.hid (HM8.out.whole HXB.out (own_block_ne HGB.out HXB.out (by decide)))
            have HGF := Lib.hid (show Grow w ((qs ++ [SC.Pt.mk qg qq qi qm qd]).flatMap SC.Pt.data) v8 w8 by
              have h := HG8.out
              rw [List.flatMap_append]
              simpa using h)
            go_roundw
            case rel => exact ⟨k + 1, _, rfl, by omega, hlt, Lib.hid (by rw [List.length_append, HQ.out]; rfl), HRN, HGF, HX8⟩
            case measure => simp only [intOf]; omega
          · have e1 : ((qm : Int) != (pm : Int)) = true := by simp; omega
            have HNR := Lib.hid (norec HF.out hlt (fun q hq e => hm (by have := hq.uniq HF6.out; subst this; exact e)))
            have HBW := HGB.out.below
            clear hm
            go_wp2_with fail
            exact ⟨rfl, Lib.hid HBW, .inr ⟨HNR, rfl⟩⟩
        · exact ⟨rfl, Lib.hid (HGR.out.on HB6.out).below, .inr ⟨Lib.hid (norec HF.out hlt (fun q hq => absurd hq (HN6.out q))), rfl⟩⟩
      · obtain rfl : k = pm := by omega
        go_wp2_with fail
        go_region
        all_goals
          go_wp2_with fail
          go_ret2
          exact ⟨Lib.hid HGR.out.below.drew, .inl ⟨_, _, _, Lib.hid (HRW.out.rec HQ.out hk1), rfl, Lib.hid (((Mod.refl [] wr).drew).own HGR.out.row (by simp))⟩⟩
  · exact ⟨rfl, HB5, .inr ⟨Lib.hid (norec0 HNo.out), rfl⟩⟩
end Go.Proofs.Ytlnahmgcjaodkaa
