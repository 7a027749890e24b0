/- The document's own answers of layer 5: what stands over a path, what lies under it. -/
import Derived.Test.YtbgcjbekbeobnaaGreatDoorPsR4
namespace Go.Proofs.YtbgcjbekbeobnaaGreatDoor
open Go.RowKit
open SE (Ent)
set_option linter.unusedVariables false
set_option maxRecDepth 100000
/-- The Ids of those that a test takes. -/
def sel (l : List Ent) (f : Ent → Bool) : List Int := (l.filter f).map (·.id)
theorem sel_yes {l : List Ent} {f : Ent → Bool} {k : Nat} (h : k < l.length) (hf : f l[k] = true) : sel (l.take (k + 1)) f = sel (l.take k) f ++ [l[k].id] := by
  unfold sel
  rw [List.take_add_one, List.getElem?_eq_getElem h, Option.toList_some, List.filter_append, List.filter_cons_of_pos hf, List.filter_nil, List.map_append]
  rfl
theorem sel_no {l : List Ent} {f : Ent → Bool} {k : Nat} (h : k < l.length) (hf : f l[k] = false) : sel (l.take (k + 1)) f = sel (l.take k) f := by
  unfold sel
  rw [List.take_add_one, List.getElem?_eq_getElem h, Option.toList_some, List.filter_append, List.filter_cons_of_neg (by rw [hf]; decide), List.filter_nil, List.append_nil]
theorem sel_len (l : List Ent) (f : Ent → Bool) (k : Nat) : (sel (l.take k) f).length ≤ k := by
  unfold sel
  rw [List.length_map]
  exact Nat.le_trans (List.length_filter_le _ _) (by rw [List.length_take]; omega)
theorem Grew.keep {w w1 w2 : World} {xs : List Int} {v : Value} (g : Grew w xs v w1) (h : Below w1.heap.size w1 w2) : Grew w xs v w2 :=
  ⟨(Mod.of_below h []).own g.1 (by simp), below_on g.2 h⟩
/-- A list of numbers of the call's own is handed back. -/
def OneI (w : World) (xs : List Int) (e : Ending) (w' : World) : Prop := ∃ A n c, e = .returned (.slice A n c) ∧ Made w xs A n c w'
theorem one_of_grew {w w' : World} {xs : List Int} {A : Option Addr} {n c : Nat} (h : Grew w xs (.slice A n c) w') (h1 : n ≤ c) (h2 : c ≤ 9223372036854775807) : OneI w xs (.returned (.slice A n c)) w' := by
  have hn : n = xs.length := by
    have := h.1.1
    rcases h.1.2 with ⟨hv, h0⟩ | ⟨g, cap, cur, hv, _⟩
    · injection hv with _ hn _; omega
    · injection hv with _ hn _
  subst hn
  exact ⟨A, _, c, rfl, Lib.hid rfl, Lib.hid (IntsAt.own h.1), Lib.hid h.1, Lib.hid h.2, h1, h2⟩
set_option maxHeartbeats 2000000 in
theorem RefOver_any (A : Option Addr) (c : Nat) (l : List Ent) (q : ByteArray) (w : World) (hA : EntsAt w A l) (hl : l.length ≤ c) (hc : c ≤ 9223372036854775807) (h64 : l.length ≤ 64) (hF : ∀ x ∈ l, Fair x) (hq : q.size ≤ 140737488351232) :
    Calls Tryz.prog 20 #[.slice A l.length c, .string q] w (OneI w (SE.over l q.data.toList)) := by
  have HA := Lib.hid hA; clear hA
  have HF := Lib.hid hF; clear hF
  have HR := Lib.hid (show SE.over l q.data.toList = SE.rise (sel l (fun e => PM.cov (SE.p e) q.data.toList)) from rfl)
  rw [HR.out]
  go_enter Tryz.func20, Tryz.ntmps20
  go_wp2_with fail
  go_loopw [5, 6] (fun v i wx => ∃ k : Nat, i = .int .i64 (k : Int) ∧ k ≤ l.length ∧ Hid (Grew w (sel (l.take k) (fun e => PM.cov (SE.p e) q.data.toList)) v wx)) (fun _ i _ => l.length - (intOf i).toNat)
  case atStart => exact ⟨0, rfl, by omega, Lib.hid (by rw [List.take_zero]; exact Grew.nil w)⟩
  case round =>
    obtain ⟨k, rfl, hk, HG⟩ := hrel
    by_cases hlt : k < l.length
    · obtain ⟨b, o, eA, hb, hca⟩ := HA.out (by omega)
      subst eA
      have HX := Lib.hid (hca k l[k] (List.getElem?_eq_getElem hlt))
      obtain ⟨x0, x1, x2, x3⟩ := HX.out.below hb HG.out.2
      have HY := Lib.hid (sel_yes (f := fun e => PM.cov (SE.p e) q.data.toList) hlt)
      have HN := Lib.hid (sel_no (f := fun e => PM.cov (SE.p e) q.data.toList) hlt)
      have HL := Lib.hid (show ((sel (l.take k) (fun e => PM.cov (SE.p e) q.data.toList)).length + 1) * 8 ≤ 140737488355328 by
        have := sel_len l (fun e => PM.cov (SE.p e) q.data.toList) k
        omega)
      have hp := (HF.out l[k] (List.getElem_mem hlt)).2.1
      have HC := Lib.hid (fun w => RCovers_any l[k].path q w hp hq)
      clear hca
      unfold SE.p at HY HN
      generalize l[k] = x at x0 x1 x2 x3 HX HY HN HC hp
      go_wp2_with fail
      refine (HC.out _).mono ?_
      rintro e w2 ⟨rfl, hb2⟩
      have HG2 := Lib.hid (HG.out.keep hb2)
      obtain ⟨y0, y1, y2, y3⟩ := HX.out.below hb HG2.out.2
      clear hb2 HG
      cases hcv : PM.cov x.path.data.toList q.data.toList with
      | true =>
        have HS := Lib.hid (HY.out hcv); clear HY HN hcv
        go_wp2_with (at_builtin; refine app_one rfl (.tmp 20) (.tmp 26) rfl _ _ HG2.out rfl x.id rfl HL.out ?_; intro v2 w5 hg2; unfold SE.p at hg2; rw [← HS.out] at hg2; have HG5 := Lib.hid hg2; clear hg2)
        go_wp2_with fail
        go_roundw
        case rel => exact ⟨k + 1, rfl, by omega, HG5⟩
        case measure => simp only [intOf]; omega
      | false =>
        have HS := Lib.hid (HN.out hcv); clear HY HN hcv
        go_wp2_with fail
        go_roundw
        case rel => exact ⟨k + 1, rfl, by omega, Lib.hid (by unfold SE.p; rw [HS.out]; exact HG2.out)⟩
        case measure => simp only [intOf]; omega
    · have hG := HG.out
      rw [List.take_of_length_le (show l.length ≤ k by omega)] at hG
      obtain ⟨C, cc, rfl, k1, k2⟩ := own_shape hG.1
      have HGF := Lib.hid hG
      have HL := Lib.hid (show (sel l (fun e => PM.cov (SE.p e) q.data.toList)).length ≤ 1048576 by
        have := sel_len l (fun e => PM.cov (SE.p e) q.data.toList) l.length
        rw [List.take_length] at this
        omega)
      clear hG HG
      generalize hn : (sel l (fun e => PM.cov (SE.p e) q.data.toList)).length = n at *
      have HM := Lib.hid hn; clear hn
      go_wp2_with fail
      refine (sorted_own HGF.out (by rw [HM.out]; exact HL.out)).mono ?_
      rintro e w2 ⟨rfl, hg⟩
      have HH := Lib.hid hg; clear hg
      go_wp2_with fail
      go_ret
      exact one_of_grew HH.out k1 k2
set_option maxHeartbeats 2000000 in
theorem RefUnder_any (A : Option Addr) (c : Nat) (l : List Ent) (q : ByteArray) (w : World) (hA : EntsAt w A l) (hl : l.length ≤ c) (hc : c ≤ 9223372036854775807) (h64 : l.length ≤ 64) (hF : ∀ x ∈ l, Fair x) (hq : q.size ≤ 140737488351232) :
    Calls Tryz.prog 21 #[.slice A l.length c, .string q] w (OneI w (SE.under l q.data.toList)) := by
  have HA := Lib.hid hA; clear hA
  have HF := Lib.hid hF; clear hF
  have HR := Lib.hid (show SE.under l q.data.toList = SE.rise (sel l (fun e => PM.cov q.data.toList (SE.p e))) from rfl)
  rw [HR.out]
  go_enter Tryz.func21, Tryz.ntmps21
  go_wp2_with fail
  go_loopw [5, 6] (fun v i wx => ∃ k : Nat, i = .int .i64 (k : Int) ∧ k ≤ l.length ∧ Hid (Grew w (sel (l.take k) (fun e => PM.cov q.data.toList (SE.p e))) v wx)) (fun _ i _ => l.length - (intOf i).toNat)
  case atStart => exact ⟨0, rfl, by omega, Lib.hid (by rw [List.take_zero]; exact Grew.nil w)⟩
  case round =>
    obtain ⟨k, rfl, hk, HG⟩ := hrel
    by_cases hlt : k < l.length
    · obtain ⟨b, o, eA, hb, hca⟩ := HA.out (by omega)
      subst eA
      have HX := Lib.hid (hca k l[k] (List.getElem?_eq_getElem hlt))
      obtain ⟨x0, x1, x2, x3⟩ := HX.out.below hb HG.out.2
      have HY := Lib.hid (sel_yes (f := fun e => PM.cov q.data.toList (SE.p e)) hlt)
      have HN := Lib.hid (sel_no (f := fun e => PM.cov q.data.toList (SE.p e)) hlt)
      have HL := Lib.hid (show ((sel (l.take k) (fun e => PM.cov q.data.toList (SE.p e))).length + 1) * 8 ≤ 140737488355328 by
        have := sel_len l (fun e => PM.cov q.data.toList (SE.p e)) k
        omega)
      have hp := (HF.out l[k] (List.getElem_mem hlt)).2.1
      have HC := Lib.hid (fun w => RCovers_any q l[k].path w hq hp)
      clear hca
      unfold SE.p at HY HN
      generalize l[k] = x at x0 x1 x2 x3 HX HY HN HC hp
      go_wp2_with fail
      refine (HC.out _).mono ?_
      rintro e w2 ⟨rfl, hb2⟩
      have HG2 := Lib.hid (HG.out.keep hb2)
      obtain ⟨y0, y1, y2, y3⟩ := HX.out.below hb HG2.out.2
      clear hb2 HG
      cases hcv : PM.cov q.data.toList x.path.data.toList with
      | true =>
        have HS := Lib.hid (HY.out hcv); clear HY HN hcv
        go_wp2_with (at_builtin; refine app_one rfl (.tmp 20) (.tmp 26) rfl _ _ HG2.out rfl x.id rfl HL.out ?_; intro v2 w5 hg2; unfold SE.p at hg2; rw [← HS.out] at hg2; have HG5 := Lib.hid hg2; clear hg2)
        go_wp2_with fail
        go_roundw
        case rel => exact ⟨k + 1, rfl, by omega, HG5⟩
        case measure => simp only [intOf]; omega
      | false =>
        have HS := Lib.hid (HN.out hcv); clear HY HN hcv
        go_wp2_with fail
        go_roundw
        case rel => exact ⟨k + 1, rfl, by omega, Lib.hid (by unfold SE.p; rw [HS.out]; exact HG2.out)⟩
        case measure => simp only [intOf]; omega
    · have hG := HG.out
      rw [List.take_of_length_le (show l.length ≤ k by omega)] at hG
      obtain ⟨C, cc, rfl, k1, k2⟩ := own_shape hG.1
      have HGF := Lib.hid hG
      have HL := Lib.hid (show (sel l (fun e => PM.cov q.data.toList (SE.p e))).length ≤ 1048576 by
        have := sel_len l (fun e => PM.cov q.data.toList (SE.p e)) l.length
        rw [List.take_length] at this
        omega)
      clear hG HG
      generalize hn : (sel l (fun e => PM.cov q.data.toList (SE.p e))).length = n at *
      have HM := Lib.hid hn; clear hn
      go_wp2_with fail
      refine (sorted_own HGF.out (by rw [HM.out]; exact HL.out)).mono ?_
      rintro e w2 ⟨rfl, hg⟩
      have HH := Lib.hid hg; clear hg
      go_wp2_with fail
      go_ret
      exact one_of_grew HH.out k1 k2
end Go.Proofs.YtbgcjbekbeobnaaGreatDoor
