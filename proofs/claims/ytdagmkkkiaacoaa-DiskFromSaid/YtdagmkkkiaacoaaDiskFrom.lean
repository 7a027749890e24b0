/- A disk made of any sectors has just these, or is refused; for every list of lists of bytes. -/
import Derived.Test.YtdagmkkkiaacoaaRows
import Derived.Test.YtdagmkkkiaacoaaDkArg
import Derived.Test.YtdagmkkkiaacoaaLawBare
import Derived.JoinedCond
import Derived.OpenShut
namespace Go.Proofs.Ytdagmkkkiaacoaa.lawDiskFrom
open Go Go.RowKit Go.ChangeShapes Go.WideShapes Go.ChangeAt
set_option linter.unusedVariables false
set_option linter.unusedSimpArgs false
open By (u8s own_shape)
/-- So many lists have been copied. -/
structure Mine (w : World) (ss : List (List UInt8)) (k : Nat) (v : Value) (wr : World) : Prop where
  row : ∃ hs, wr.ownsRow w.heap.size 35 1 v k hs ∧ ∀ (i : Nat) (x : List UInt8), ss[i]? = some x → i < k → ∃ A c, hs[i]? = some (.slice A x.length c) ∧ wr.ownsRow w.heap.size 5 1 (.slice A x.length c) x.length (u8s x)
  below : Below w.heap.size w wr
theorem Mine.start {w w1 : World} (ss : List (List UInt8)) (hb : Below w.heap.size w w1) : Mine w ss 0 (.slice none 0 0) w1 := ⟨⟨[], ⟨rfl, .inl ⟨rfl, rfl⟩⟩, fun i x _ hi => absurd hi (Nat.not_lt_zero _)⟩, hb⟩
theorem Mine.rows {w wr : World} {ss : List (List UInt8)} {v : Value} (h : Mine w ss ss.length v wr) : ∃ A c, v = .slice A ss.length c ∧ RowsAt wr A ss ∧ ss.length ≤ c ∧ c ≤ 9223372036854775807 := by
  obtain ⟨hs, h1, h2⟩ := h.row
  obtain ⟨A, c, rfl, k1, k2⟩ := own_shape h1
  refine ⟨A, c, rfl, fun h0 => ?_, k1, k2⟩
  obtain ⟨g, cap, hv, _, hlt⟩ := h1.form (by have := h1.1; omega)
  have hA : A = some ⟨g, 0, none⟩ := by injection hv
  subst hA
  refine ⟨g, 0, rfl, hlt, fun j x hx => ?_⟩
  obtain ⟨A', c', e, ho⟩ := h2 j x hx (List.getElem?_eq_some_iff.1 hx).1
  refine ⟨A', c', ?_, By.BytesAt.own ho⟩
  have := h1.cells (g := g) rfl j _ e
  rwa [Addr.add_lit] at this
theorem Mine.next {w wr w2 w3 : World} {ss : List (List UInt8)} {k : Nat} {v v' : Value} {hs : List Value} {x : List UInt8} {A : Option Addr} {n c : Nat} (h : Mine w ss k v wr) (hr : wr.ownsRow w.heap.size 35 1 v k hs)
    (he : ∀ (i : Nat) (x : List UInt8), ss[i]? = some x → i < k → ∃ A c, hs[i]? = some (.slice A x.length c) ∧ wr.ownsRow w.heap.size 5 1 (.slice A x.length c) x.length (u8s x))
    (hx : ss[k]? = some x) (hm : By.Made wr x A n c w2) (ho : w3.ownsRow w.heap.size 35 1 v' (k + 1) (hs ++ [.slice A n c])) (h3 : Mod v.ownBlock.toList (w2.alloc (.cells #[.slice A n c] 35)) w3) : Mine w ss (k + 1) v' w3 := by
  obtain ⟨h1, h2, h4, h5, h6, h7⟩ := hm
  have e := h1.out
  subst e
  have hlen : hs.length = k := by have := hr.1; omega
  have hM : Mod [] wr (w2.alloc (.cells #[.slice A x.length c] 35)) := (Mod.of_below h5.out []).alloc _
  have hMF : Mod v.ownBlock.toList wr w3 := (hM.mono (by simp)).trans h3 (fun x hx => .inl hx)
  have lift : ∀ {A' : Option Addr} {y : List UInt8} {c' : Nat}, (w2.alloc (.cells #[.slice A x.length c] 35)).ownsRow w.heap.size 5 1 (.slice A' y.length c') y.length (u8s y) → w3.ownsRow w.heap.size 5 1 (.slice A' y.length c') y.length (u8s y) := fun {A' y c'} hy => h3.own hy (fun g hg hx => by
    have hvr := hM.own hr (by simp)
    rcases hvr.2 with ⟨hv0, _⟩ | ⟨g', cap, cur, rfl, _, hh, _⟩
    · rw [hv0] at hx; simp [Value.ownBlock] at hx
    · have e : g' = g := by have hx' : g ∈ [g'] := hx; exact (List.mem_singleton.1 hx').symm
      subst e
      rcases hy.2 with ⟨hy0, _⟩ | ⟨g2, cap2, cur2, hy2, _, hh2, _⟩
      · rw [hy0] at hg; simp [Value.ownBlock] at hg
      · have e2 : g2 = g' := by rw [hy2] at hg; simpa [Value.ownBlock] using hg
        subst e2
        rw [hh] at hh2
        injection hh2 with hh2
        injection hh2 with _ ht
        exact absurd ht (by decide))
  refine ⟨⟨_, ho, fun i y hy hi => ?_⟩, h.below.trans (hMF.below h.below.size (fun x hx => (hr.lt x (by simpa using hx)).1))⟩
  by_cases hik : i < k
  · obtain ⟨A', c', k1, k2⟩ := he i y hy hik
    exact ⟨A', c', by rw [List.getElem?_append_left (by omega)]; exact k1, lift (hM.own k2 (by simp))⟩
  · have e : i = k := by omega
    subst e
    rw [hx] at hy
    cases hy
    refine ⟨A, c, by rw [List.getElem?_append_right (by omega), hlen, Nat.sub_self]; rfl, lift ?_⟩
    have h4' := h4.out
    refine ⟨h4'.1, ?_⟩
    rcases h4'.2 with hh | ⟨g, cap, cur, e, hb, hh, hr'⟩
    · exact .inl hh
    · exact .inr ⟨g, cap, cur, e, Nat.le_trans h.below.size hb, (Below.heap_alloc w2 _ g (Array.getElem?_eq_some_iff.1 hh).1).trans hh, hr'⟩
set_option maxRecDepth 100000 in
set_option maxHeartbeats 8000000 in
theorem walk (A : Option Addr) (cap : Nat) (ss : List (List UInt8)) (w : World) (hA : RowsAt w A ss) (hcap : ss.length ≤ cap) (hcap2 : cap ≤ 5864062014805) (hlen : ∀ (j : Nat) (x : List UInt8), ss[j]? = some x → x.length ≤ 140737488351232) :
    Calls Try.prog 5 #[.slice A ss.length cap] w (LK.True_ w) := by
  have HA := Lib.hid hA
  have HL := Lib.hid hlen
  clear hA hlen
  go_enter Try.func5, Try.ntmps5
  go_wp2_with fail
  refine (awake_any w).mono ?_
  rintro e w1 ⟨rfl, hb⟩
  have HM1 := Lib.hid (Mine.start ss hb.out)
  clear hb
  go_wp2_with fail
  go_loopw [3, 5, 14] (fun v _ i wr => ∃ k : Nat, i = .int .i64 (k : Int) ∧ k ≤ ss.length ∧ Hid (Mine w ss k v wr)) (fun _ _ i _ => ss.length - (intOf i).toNat)
  case atStart => exact ⟨0, rfl, Nat.zero_le _, HM1⟩
  case round =>
    clear HM1
    obtain ⟨k, rfl, hk, HM⟩ := hrel
    by_cases hlt : k < ss.length
    · have HX := Lib.hid (List.getElem?_eq_getElem hlt)
      generalize ss[k] = x at HX
      obtain ⟨b, o, eA, hb, hca⟩ := (HA.out.below HM.out.below) (by omega)
      subst eA
      obtain ⟨A1, c1, a0, hd⟩ := hca k x HX.out
      have HD := Lib.hid hd
      have HLX := Lib.hid (show x.length ≤ 140737488355328 by have := HL.out k x HX.out; omega)
      obtain ⟨hs, h3, h4⟩ := HM.out.row
      have HO := Lib.hid h3
      have HE := Lib.hid h4
      have HKL := Lib.hid (show (k + 1) * 24 ≤ 140737488355328 by omega)
      clear hca hd h3 h4
      go_wp2_with (first
        | (refine By.app_all rfl (.tmp 19) (.tmp 20) rfl A1 c1 _ x rfl HD.out _ rfl rfl rfl HLX.out ?_
           intro A2 n2 c2 w2 hm2
           have HM2 := Lib.hid hm2
           have HMW := Lib.hid ((Mod.of_below hm2.2.2.2.1.out []).alloc (.cells #[.slice A2 n2 c2] 35))
           have HO2 := Lib.hid (HMW.out.own HO.out (by simp))
           have HB2 := Lib.hid (Nat.le_trans HM.out.below.size HMW.out.size)
           clear hm2)
        | (refine list_app_hdr rfl (.tmp 18) (.tmp 22) rfl w.heap.size _ k hs HO2.out w2.heap.size (.slice A2 n2 c2) rfl (Whole.new w2 _ _) HKL.out HB2.out rfl rfl ?_
           intro v3 w3 hown hmod
           have HN := Lib.hid (HM.out.next HO.out HE.out HX.out HM2.out hown hmod)
           clear hown hmod))
      go_roundw
      case rel => exact ⟨k + 1, rfl, hlt, HN⟩
      case measure => simp only [intOf]; omega
    · obtain rfl : k = ss.length := by omega
      obtain ⟨B, cB, rfl, hrB, hcB, hcB2⟩ := HM.out.rows
      have HRB := Lib.hid hrB
      have HXM := Lib.hid HM.out.below
      clear hrB HM
      by_cases hbad : ss.length < 1 ∨ 512 < ss.length
      · go_wp2_with fail
        refine (From_size (w := wr) (A := B) (ss := ss) cB hbad (by omega)).mono ?_
        rintro e w2 ⟨rfl, rfl⟩
        go_wp2_with fail
        refine (RefFrom_size (w := wr) (A := A) (ss := ss) cap hbad (by omega)).mono ?_
        rintro e w2 ⟨rfl, rfl⟩
        go_wp2_with fail
        go_ret
        exact ⟨rfl, HXM.out⟩
      have h1 : 1 ≤ ss.length ∧ ss.length ≤ 512 := by omega
      have HL1 := Lib.hid h1
      by_cases hfit : Fit ss ss.length
      · have HF := Lib.hid hfit
        clear hfit hbad
        go_wp2_with fail
        refine (From_ok (w := wr) (A := B) (ss := ss) cB HRB.out HL1.out hcB hcB2 HF.out).mono ?_
        rintro e w2 ⟨rfl, HD2, HB2⟩
        have HX2 := Lib.hid (below_on HXM.out HB2.out)
        go_wp2_with fail
        refine (RefFrom_any (w := w2) (A := A) (ss := ss) cap (HA.out.below HX2.out) HL1.out HL.out).mono ?_
        rintro e w3 ⟨h3, HB3⟩
        have HX3 := Lib.hid (below_on HX2.out HB3.out)
        have HD3 := Lib.hid (HD2.out.below HB3.out)
        rcases h3 with ⟨rfl, _⟩ | ⟨rfl, hn⟩
        case inr => exact absurd HF.out hn.out
        clear HD2 HB2 HX2 HB3
        go_wp2_with fail
        refine (Image_any HD3.out).mono ?_
        rintro e w4 ⟨rfl, HI4⟩
        have HX4 := Lib.hid (below_on HX3.out HI4.out.below)
        have HD4 := Lib.hid (HD3.out.below HI4.out.below)
        have HR4 := Lib.hid (HI4.out.rows HD3.out.ok.len)
        clear HI4 HX3 HD3
        change Hid (RowsAt w4 _ ss) at HR4
        rw [show (DK.of ss).ss.length = ss.length from rfl]
        go_wp2_with fail
        refine (Same_any ss ss _ A ss.length cap w4 HR4.out (HA.out.below HX4.out) (by omega)).mono ?_
        rintro e w5 ⟨rfl, HB5⟩
        have HX5 := Lib.hid (below_on HX4.out HB5.out)
        have HD5 := Lib.hid (HD4.out.below HB5.out)
        rw [decide_eq_true (rfl : ss = ss)]
        clear HX4 HD4 HR4 HB5
        go_wp2_with fail
        refine (Len_any HD5.out).mono ?_
        rintro e w6 ⟨rfl, rfl⟩
        rw [show (DK.of ss).ss.length = ss.length from rfl]
        go_wp2_with fail
        refine (Writes_any HD5.out).mono ?_
        rintro e w6 ⟨rfl, rfl⟩
        rw [show (DK.of ss).wr = 0 from rfl]
        go_wp2_with fail
        refine (Off_any HD5.out).mono ?_
        rintro e w6 ⟨rfl, rfl⟩
        rw [show (DK.of ss).off = false from rfl]
        go_wp2_with fail
        go_ret
        exact ⟨rfl, HX5.out⟩
      · have HF := Lib.hid hfit
        clear hfit hbad
        go_wp2_with fail
        refine (From_no (w := wr) (A := B) (ss := ss) cB HRB.out HL1.out hcB hcB2 HF.out).mono ?_
        rintro e w2 ⟨rfl, HB2⟩
        have HX2 := Lib.hid (below_on HXM.out HB2.out)
        go_wp2_with fail
        refine (RefFrom_any (w := w2) (A := A) (ss := ss) cap (HA.out.below HX2.out) HL1.out HL.out).mono ?_
        rintro e w3 ⟨h3, HB3⟩
        have HX3 := Lib.hid (below_on HX2.out HB3.out)
        rcases h3 with ⟨rfl, hf⟩ | ⟨rfl, hn⟩
        case inl => exact absurd hf.out.1 HF.out
        go_wp2_with fail
        go_ret
        exact ⟨rfl, HX3.out⟩

theorem own : ownKnob Try.prog.godebug = none := by kernel_rfl
theorem laidOut : laidOutB Try.prog = true := by kernel_rfl
set_option maxRecDepth 100000 in
theorem lifted (os : Os) (started : os.Started) (H : Type) (enc : TypeId × Value → H) :
    ReturnsInHanded {} Try.checked os 5 .any (Rows.diskFromSpec.pre6 enc Try.prog Try.f5 [] false) (Rows.diskFromSpec.post enc Try.prog Try.f5 false true false false) := by
  refine LK.lifted_bare (C := Try.checked) (tb := 4) own started (by kernel_rfl) Try.func5 laidOut rfl (by kernel_rfl) (by kernel_rfl) Try.underlying4
    (fun ds h => by
      match ds, h with
      | [_], _ => rfl)
    (ChangeSpec.witness6 (enc := enc) (C := Try.checked) false ⟨#[], #[.slice none 0 0], []⟩ 8 (by kernel_rfl) (by kernel_rfl) (by kernel_rfl) (by kernel_rfl)) ?_
  intro W base args ds ps hval hA hwt _
  rw [show Try.f5.params.toList = [42] by kernel_rfl] at hA hwt
  have hval' : ∀ (j : Nat) t v, (#[42] : Array TypeId)[j]? = some t → args[j]? = some v → Value.okWide Try.prog W .any base t v := by
    rw [← Try.params5]; exact hval
  clear hval
  obtain ⟨v0, d0, rfl, rfl, h0⟩ := trodAll_one hA
  obtain ⟨A0, c0, xs0, rfl, hO0, hc0, hm0, hl0⟩ := open_rows (hval' 0 42 v0 rfl rfl) h0 hwt (j := 0) rfl rfl
  exact walk A0 c0 xs0 W hO0 hc0 hm0 hl0

/-- The statement. -/
theorem proved : Rows.DiskFromSaid :=
  OpenClaim.holds_of_wide 5 Try.f5 rfl rfl rfl rfl rfl rfl rfl ⟨rfl, rfl, rfl, rfl, rfl⟩ rfl rfl rfl rfl rfl (by kernel_rfl) Try.func5 (by kernel_rfl)
    (of_decide_eq_true (by kernel_rfl)) (by unfold Func.isWrapper; first | (rw [if_pos (by decide +kernel)]; kernel_rfl) | (rw [if_neg (by decide +kernel)]; exact ⟨rfl, rfl⟩))
    (fun os started H enc _ => lifted os started H enc)

end Go.Proofs.Ytdagmkkkiaacoaa.lawDiskFrom
