/- The document's record among sectors (one) and its Scan. -/
import Derived.Test.YtlnahmgcjaodkaaScW5
import Derived.Test.YtlnahmgcjaodkaaScW8
namespace Go.Proofs.Ytlnahmgcjaodkaa
open Go.RowKit
open By
set_option linter.unusedVariables false
set_option linter.unusedSimpArgs false
set_option maxRecDepth 100000
def OnePost (w : World) (ss : List (List UInt8)) (g s : Int) (e : Ending) (w' : World) : Prop :=
  Hid (Below w.heap.size w w') ∧ ((∃ d n v, Hid (RecI ss g s d n) ∧ e = .returned (.tuple #[v, .int .i64 (n : Int), .bool true]) ∧ Hid (w'.ownsRow w.heap.size 5 1 v d.length (u8s d))) ∨ (Hid (∀ d n, ¬ RecI ss g s d n) ∧ e = .returned (.tuple #[.slice none 0 0, .int .i64 0, .bool false])))
/-- What is known of the number of parts: one ahead of the first, then the first one's. -/
def Kn (ss : List (List UInt8)) (g s : Int) (k m : Nat) (qs : List SC.Pt) : Prop := qs.length = k ∧ 1 ≤ m ∧ m ≤ 4 ∧ k ≤ m ∧ Row ss g s m qs ∧ (k = 0 → m = 1)
theorem Row.nil {ss : List (List UInt8)} {g s : Int} {m : Nat} : Row ss g s m [] := fun j p hp => by simp at hp
theorem norecK {ss : List (List UInt8)} {g s : Int} {k m : Nat} {qs : List SC.Pt} (hK : Kn ss g s k m qs) (hkm : k < m) (h : ∀ q, Fits ss g s k q → 0 < k ∧ q.parts ≠ m) (d : List UInt8) (n : Nat) : ¬ RecI ss g s d n := fun r => by
  have hn : 1 ≤ n := by obtain ⟨_, _, _, _, hr⟩ := r; exact hr.le.1
  obtain ⟨h1, h2, h3, h4, h5, h6⟩ := hK
  rcases Nat.eq_zero_or_pos k with h0 | h0
  · subst h0
    obtain ⟨p, hp, _⟩ := r.at (i := 0) hn
    exact absurd (h p hp).1 (by omega)
  · obtain ⟨hf, hp⟩ := h5 0 (qs[0]'(by omega)) (List.getElem?_eq_getElem _)
    obtain ⟨p, hp', e⟩ := r.at (i := 0) hn
    have := hf.uniq hp'
    rw [this, e] at hp
    obtain ⟨q, hq, e'⟩ := r.at (i := k) (by omega)
    exact (h q hq).2 (by omega)
set_option maxHeartbeats 4000000 in
theorem one_any (A : Option Addr) (n c : Nat) (ss : List (List UInt8)) (g s : Int) (w : World) (hA : RowsAt w A ss) (hn : ss.length = n) (hnc : n ≤ c ∧ c ≤ 9223372036854775807) :
    Calls Try.prog 34 #[.slice A n c, .int .i64 g, .int .i64 s] w (OnePost w ss g s) := by
  have HA := Lib.hid hA
  have HN := Lib.hid hn
  obtain ⟨hnc1, hnc2⟩ := hnc
  clear hA hn
  go_enter Try.func34, Try.ntmps34
  go_wp2_with fail
  go_loopw [9, 10, 11] (fun v q i wr => ∃ (k m : Nat) (qs : List SC.Pt), i = .int .i64 (k : Int) ∧ q = .int .i64 (m : Int) ∧ Hid (Kn ss g s k m qs) ∧ Hid (Grow w (qs.flatMap SC.Pt.data) v wr)) (fun _ _ i _ => 5 - (intOf i).toNat)
  case atStart => exact ⟨0, 1, [], rfl, rfl, Lib.hid ⟨rfl, Nat.le_refl _, by omega, by omega, Row.nil, fun _ => rfl⟩, Lib.hid (Grow.nil w)⟩
  case round =>
    obtain ⟨k, m, qs, rfl, rfl, HK, HG⟩ := hrel
    have hk4 : k ≤ 4 := by have := HK.out.2.2.1; have := HK.out.2.2.2.1; omega
    have hm4 : m ≤ 4 := HK.out.2.2.1
    by_cases hlt : k < m
    · by_cases hkn : k < n
      · obtain ⟨b, o, rfl, hbl, hca⟩ := (HA.out.below HG.out.below) (by have := HN.out; omega)
        obtain ⟨x, hx⟩ : ∃ x, ss[k]? = some x := ⟨_, List.getElem?_eq_getElem (by have := HN.out; omega)⟩
        obtain ⟨A1, c1, a0, hB, hl, hc1⟩ := hca k x hx
        have HX := Lib.hid hx
        have hI : ¬ (n : Int) ≤ (k : Int) := by omega
        have HLK := Lib.hid (RefLook_any A1 x.length c1 x wr hB rfl hl hc1)
        clear hca hx hB
        go_wp2_with fail
        go_at_call 16
        with_reducible refine HLK.out.mono ?_
        rintro e w5 ⟨HB5, ⟨p, v5, HI, rfl, HO5⟩ | ⟨HNo, rfl⟩⟩
        · have HG5 := Lib.hid (HG.out.on HB5.out)
          obtain ⟨A7, c7, rfl, _, _⟩ := own_shape HO5.out
          have HX7 := Lib.hid (Whole.new w5 33 (pcells p (.slice A7 p.data.length c7)))
          have HGB := Lib.hid (HG5.out.on ((Below.refl w5.heap.size w5).alloc (Nat.le_refl _) (.cells (pcells p (.slice A7 p.data.length c7)) 33)))
          have HBY := Lib.hid (show BytesAt (w5.alloc (.cells (pcells p (.slice A7 p.data.length c7)) 33)) A7 p.data from (BytesAt.own HO5.out).below ((Below.refl w5.heap.size w5).alloc (Nat.le_refl _) _))
          have HPU := Lib.hid (fun q (hq : SC.Is x q) => HI.out.uniq hq)
          obtain ⟨qg, qq, qi, qm, qd⟩ := p
          unfold pv
          unfold pcells at HX7 HGB HBY ⊢
          simp only at HX7 HGB HBY
          have HQ4 := Lib.hid (show 1 ≤ qm ∧ qm ≤ 4 from HI.out.1.parts)
          have HD47 := Lib.hid (show qd.length ≤ 47 from HI.out.1.len)
          have e0 := HX7.out.cell 0
          have e1 := HX7.out.cell 1
          have e2 := HX7.out.cell 2
          have e3 := HX7.out.cell 3
          have e4 := HX7.out.cell 4
          clear HO5 a0
          by_cases h1 : (qg : Int) = g
          · by_cases h2 : (qq : Int) = s
            · by_cases h3 : qi = k
              · by_cases h4 : 0 < k → qm = m
                · have HKN := Lib.hid (show Kn ss g s (k + 1) qm (qs ++ [SC.Pt.mk qg qq qi qm qd]) from by
                    have hK := HK.out
                    have hid := HI.out.1.idx
                    simp only at hid
                    have hf : Fits ss g s qs.length (SC.Pt.mk qg qq qi qm qd) := by rw [hK.1]; exact ⟨x, HX.out, HI.out, h1, h2, h3⟩
                    refine ⟨by rw [List.length_append, hK.1]; rfl, HQ4.out.1, HQ4.out.2, by omega, ?_, by omega⟩
                    rcases Nat.eq_zero_or_pos k with h0 | h0
                    · have : qs = [] := List.eq_nil_of_length_eq_zero (by have := hK.1; omega)
                      subst this
                      exact Row.nil.snoc hf rfl
                    · have := h4 h0
                      subst this
                      exact hK.2.2.2.2.1.snoc hf rfl)
                  have HL := Lib.hid (show (qs.flatMap SC.Pt.data).length + qd.length ≤ 140737488355328 by
                    have h := HK.out.2.2.2.2.1.len
                    have := HK.out.1
                    have := HD47.out
                    omega)
                  have hc3 : ((qi : Int) != (k : Int)) = false := by simp [h3]
                  subst h1 h2
                  rcases Nat.eq_zero_or_pos k with h0 | h0
                  · have hk0 : ¬ (0 : Int) < (k : Int) := by omega
                    clear h4 h3 h0
                    go_wp2_with (at_builtin; refine app_grow HGB.out HBY.out rfl HL.out rfl (.tmp 63) (.tmp 65) rfl rfl rfl ?_; intro v8 w8 HG8 HM8)
                    have HGF := Lib.hid (show Grow w ((qs ++ [SC.Pt.mk qg qq qi qm qd]).flatMap SC.Pt.data) v8 w8 by
                      have h := HG8.out
                      rw [List.flatMap_append]
                      simpa using h)
                    go_roundw
                    case rel => exact ⟨k + 1, qm, _, by go_num, rfl, HKN, HGF⟩
                    case measure => simp only [intOf]; go_num
                  · have hk0 : (0 : Int) < (k : Int) := by omega
                    have hk1 : ((qm : Int) != (m : Int)) = false := by simp [h4 h0]
                    clear h4 h3 h0
                    go_wp2_with (at_builtin; refine app_grow HGB.out HBY.out rfl HL.out rfl (.tmp 63) (.tmp 65) rfl rfl rfl ?_; intro v8 w8 HG8 HM8)
                    have HGF := Lib.hid (show Grow w ((qs ++ [SC.Pt.mk qg qq qi qm qd]).flatMap SC.Pt.data) v8 w8 by
                      have h := HG8.out
                      rw [List.flatMap_append]
                      simpa using h)
                    go_roundw
                    case rel => exact ⟨k + 1, qm, _, by go_num, rfl, HKN, HGF⟩
                    case measure => simp only [intOf]; go_num
                · have h0 : 0 < k := by omega
                  have hk0 : (0 : Int) < (k : Int) := by omega
                  have hk1 : ((qm : Int) != (m : Int)) = true := by simp; omega
                  have hc3 : ((qi : Int) != (k : Int)) = false := by simp [h3]
                  have HNR := Lib.hid (norecK HK.out hlt (fun q ⟨y, hy, hq, k1, k2, k3⟩ => by
                    rw [HX.out] at hy
                    cases hy
                    have := HPU.out q hq
                    subst this
                    exact ⟨h0, fun e => h4 (fun _ => e)⟩))
                  have HBW := HGB.out.below
                  subst h1 h2; clear h4 h3 h0
                  go_wp2_with fail
                  all_goals
                    go_ret3
                    exact ⟨Lib.hid HBW, .inr ⟨HNR, rfl⟩⟩
              · have hc3 : ((qi : Int) != (k : Int)) = true := by simp; omega
                have HNR := Lib.hid (norecK HK.out hlt (fun q ⟨y, hy, hq, k1, k2, k3⟩ => by
                  rw [HX.out] at hy
                  cases hy
                  have := HPU.out q hq
                  subst this
                  exact absurd k3 h3))
                have HBW := HGB.out.below
                subst h1 h2; clear h3
                go_wp2_with fail
                all_goals
                  go_ret3
                  exact ⟨Lib.hid HBW, .inr ⟨HNR, rfl⟩⟩
            · have hc2 : ((qq : Int) != s) = true := by simpa using h2
              have HNR := Lib.hid (norecK HK.out hlt (fun q ⟨y, hy, hq, k1, k2, k3⟩ => by
                rw [HX.out] at hy
                cases hy
                have := HPU.out q hq
                subst this
                exact absurd k2 h2))
              have HBW := HGB.out.below
              subst h1; clear h2
              go_wp2_with fail
              all_goals
                go_ret3
                exact ⟨Lib.hid HBW, .inr ⟨HNR, rfl⟩⟩
          · have hc1 : ((qg : Int) != g) = true := by simpa using h1
            have HNR := Lib.hid (norecK HK.out hlt (fun q ⟨y, hy, hq, k1, k2, k3⟩ => by
              rw [HX.out] at hy
              cases hy
              have := HPU.out q hq
              subst this
              exact absurd k1 h1))
            have HBW := HGB.out.below
            clear h1
            go_wp2_with fail
            all_goals
              go_ret3
              exact ⟨Lib.hid HBW, .inr ⟨HNR, rfl⟩⟩
        · have HNR := Lib.hid (norecK HK.out hlt (fun q ⟨y, hy, hq, _⟩ => by
            rw [HX.out] at hy
            cases hy
            exact absurd hq (HNo.out q)))
          have HBW := (HG.out.on HB5.out).below
          unfold none5
          go_wp2_with fail
          go_ret3
          exact ⟨Lib.hid (HBW.alloc HBW.size _), .inr ⟨HNR, rfl⟩⟩
      · have HNR := Lib.hid (norecK HK.out hlt (fun q ⟨y, hy, _⟩ => by have := (List.getElem?_eq_some_iff.1 hy).1; have := HN.out; omega))
        have hI : (n : Int) ≤ (k : Int) := by omega
        go_wp2_with fail
        go_ret3
        exact ⟨Lib.hid HG.out.below, .inr ⟨HNR, rfl⟩⟩
    · have hkm : k = m := by have := HK.out.2.2.2.1; omega
      subst hkm
      go_wp2_with fail
      go_ret3
      exact ⟨Lib.hid HG.out.below, .inl ⟨_, _, _, Lib.hid (HK.out.2.2.2.2.1.rec HK.out.1 HK.out.2.1), rfl, Lib.hid HG.out.row⟩⟩
end Go.Proofs.Ytlnahmgcjaodkaa
