/- Whatever a writer lays down a reader takes up again, with no error and nothing left; for every list of things of bulk at most 1048576 (beyond 2^48 bytes in all an append ends the call). -/
import Derived.Test.YtgaimlmpfmbdoaaOctetsW14
import Derived.Test.YtgaimlmpfmbdoaaLawBare
import Derived.JoinedCond
import Derived.OpenShut
namespace Go.Proofs.Ytgaimlmpfmbdoaa.lawOctetsBack
open Go Go.RowKit Go.ChangeShapes Go.WideShapes Go.ChangeAt
set_option linter.unusedVariables false
set_option linter.unusedSimpArgs false
theorem whole_far {w w' : World} {g : Nat} {t : TypeId} {cs : Array Value} {l' : List UInt8} {r b e : Nat} (h : Whole w g t cs) (hr : RAt w r b l' e) (hm : Mod [r] w w') (ht : t ≠ 64) : Whole w' g t cs := by
  obtain ⟨A0, c0, k1, _⟩ := hr
  have hne : g ≠ r := Whole.ne h k1 ht
  exact hm.whole h (by simpa using hne)
theorem things_drop {xs : List Thing} {k : Nat} (h : k < xs.length) : things (xs.drop k) = encThing xs[k] ++ things (xs.drop (k + 1)) := by
  rw [List.drop_eq_getElem_cons h]
  rfl
theorem back_text {x : Thing} {r : List UInt8} (h : x.t = true) (hs : x.s.size ≤ 9223372036854775807) : OM.rtext (encThing x ++ r) 0 (x.s.size : Int) = (x.s.data.toList, r, 0) := by
  have e : x.s.data.toList.length = x.s.size := rfl
  rw [enc_text h]
  exact OM.rtext_enc _ _ _ (by rw [e]; exact hs) (by rw [e]; omega)
theorem back_num {x : Thing} {r : List UInt8} (h : x.t = false) (hn : -9223372036854775808 ≤ x.n ∧ x.n ≤ 9223372036854775807) : OM.rnum (encThing x ++ r) 0 = (x.n.toNat, r, 0) := by
  rw [enc_num h]
  exact OM.rnum_enc _ _ (by omega)
theorem str_same (s : ByteArray) : (⟨s.data.toList.toArray⟩ : ByteArray) = s := by simp
set_option maxRecDepth 100000 in
set_option maxHeartbeats 8000000 in
theorem walk (B : Option Addr) (d : Nat) (xs : List Thing) (w : World)
    (hT : ThingsAt w.heap.size w B xs) (hd : xs.length ≤ d) (hdm : d ≤ 9223372036854775807) (hF : ∀ x ∈ xs, Fair x) (hroom : (things xs).length ≤ 10485760) :
    Calls Try.prog 6 #[.slice B xs.length d] w (LK.True_ w) := by
  have HT := Lib.hid hT; clear hT
  have HF := Lib.hid hF; clear hF
  go_enter Try.func6, Try.ntmps6
  go_wp2_with fail
  refine (awake_any _).mono ?_
  rintro e w1 ⟨rfl, hb⟩
  have HB1 := Lib.hid hb
  clear hb
  have HW1 := Lib.hid (WIn.fresh (N := w.heap.size) (K := []) (w := w1) HB1.out.size (by simp))
  have HB2 := Lib.hid (HB1.out.alloc HB1.out.size (Obj.cells #[.pointer none, .int .i64 0] 24))
  go_wp2_with fail
  refine (lawlay_any d HW1.out HB2.out.size (by simp) (HT.out.below HB2.out) (by omega) HF.out (by rw [List.nil_append]; omega)).mono ?_
  rintro e w3 ⟨rfl, h1, h2⟩
  rw [List.nil_append] at h1
  have HW3 := Lib.hid h1
  have HB3 := Lib.hid (HB2.out.trans (h2.belowN HB2.out.size))
  clear h1 h2 HW1 HB2
  go_wp2_with fail
  refine (Bytes_in HW3.out (by omega)).mono ?_
  rintro e w4 ⟨A4, n4, c4, rfl, HN4, HY4, -, HF4, -, -, -⟩
  have HB4 := Lib.hid (HB3.out.trans (HF4.out.mono HB3.out.size))
  go_wp2_with fail
  refine (NewReader_in HN4.out HY4.out (by omega)).mono ?_
  rintro e w5 ⟨r, b, rfl, hr, hb, hr1, -, -, -⟩
  have HR5 := Lib.hid hr
  have HB5 := Lib.hid (HB4.out.trans (hb.mono HB4.out.size))
  have hNr : w.heap.size ≤ r := Nat.le_trans HB4.out.size hr1
  clear hr hb hr1 HW3 HB3 HN4 HY4 HF4 HB4
  go_wp2_with fail
  go_loopw [21] (fun i wx => ∃ (k : Nat), i = .int .i64 (k : Int) ∧ k ≤ xs.length ∧ RAt wx r b (things (xs.drop k)) 0 ∧ Below w.heap.size w wx) (fun i _ => xs.length - (intOf i).toNat)
  case atStart => exact ⟨0, rfl, by omega, by rw [List.drop_zero]; exact HR5.out, HB5.out⟩
  case round =>
    obtain ⟨k, rfl, hk, hR, hBw⟩ := hrel
    have HR := Lib.hid hR; have HW := Lib.hid hBw
    clear hR hBw
    by_cases hlt : k < xs.length
    · obtain ⟨tb, to_, hT0, htb, htc⟩ := HT.out.below HW.out (by omega)
      subst hT0
      obtain ⟨t0, t1, t2⟩ := htc k xs[k] (List.getElem?_eq_getElem hlt)
      obtain ⟨hf1, hf2⟩ := HF.out xs[k] (List.getElem_mem hlt)
      have hdr := things_drop hlt
      clear htc
      generalize xs[k] = x at t0 t1 t2 hf1 hf2 hdr
      have HD := Lib.hid hdr; clear hdr
      have hsz : w.heap.size ≤ wr.heap.size := HW.out.size
      have HX := Lib.hid ((Below.refl _ wr).alloc (Nat.le_refl _) (Obj.cells #[.bool x.t, .int .i64 x.n, .string x.s] 38))
      have HRX := Lib.hid (HR.out.below HX.out)
      have HWX := Lib.hid (HW.out.trans (HX.out.mono hsz))
      obtain ⟨t, n, s⟩ := x
      simp only at t0 t1 t2 hf1 hf2
      cases t with
      | true =>
        go_wp2_with fail
        have HC := Lib.hid (RText_in (w := (wr.alloc (.cells #[.bool true, .int .i64 n, .string s] 38)).drew) (r := r) (b := b) (l := things (xs.drop k)) (m := things (xs.drop (k + 1))) (t := s.data.toList) (e := 0) (e' := 0) (most := (s.size : Int)) ⟨by omega, by omega⟩ (show RAt _ r b _ 0 from HRX.out) (by rw [HD.out]; exact back_text (x := ⟨true, n, s⟩) rfl hf2))
        go_region_held3 (fun w' => w'.cell? ⟨wr.heap.size, 2, none⟩ = some (.string s))
          (first
            | (go_keep; done)
            | exact HP6)
          (first
            | (go_at_call 21; refine (HC.out).mono ?_; rintro x6 w6 ⟨rfl, h1, h2⟩; replace h2 := Mod.from_drew h2; have HR6 := Lib.hid h1; have HM6 := Lib.hid h2; have HP6 := (whole_far (Whole.new wr 38 #[.bool true, .int .i64 n, .string s]) HRX.out h2 (by decide)).cell 2; clear h1 h2))
        go_wp2_with fail
        go_roundw
        case rel => exact ⟨k + 1, rfl, by omega, HR6.out, HWX.out.trans (below_reader HM6.out HWX.out.size hNr)⟩
        case measure => simp only [intOf]; omega
      | false =>
        by_cases hneg : n < 0
        · go_wp2_with fail
          have HC := Lib.hid (RNum_in (w := (wr.alloc (.cells #[.bool false, .int .i64 n, .string s] 38)).drew) (r := r) (b := b) (l := things (xs.drop k)) (m := things (xs.drop (k + 1))) (n := n.toNat) (e := 0) (e' := 0) (show RAt _ r b _ 0 from HRX.out) (by rw [HD.out]; exact back_num (x := ⟨false, n, s⟩) rfl hf1))
          have HNN := Lib.hid (show ((n.toNat : Nat) : Int) = 0 by omega)
          go_region_held3 (fun w' => w'.cell? ⟨wr.heap.size, 1, none⟩ = some (.int .i64 n))
            (first
              | (go_keep; done)
              | exact HP6)
            (first
              | (go_at_call 15; refine (HC.out).mono ?_; rw [HNN.out]; rintro x6 w6 ⟨rfl, h1, h2⟩; replace h2 := Mod.from_drew h2; have HR6 := Lib.hid h1; have HM6 := Lib.hid h2; have HP6 := (whole_far (Whole.new wr 38 #[.bool false, .int .i64 n, .string s]) HRX.out h2 (by decide)).cell 1; clear h1 h2))
          all_goals
            go_wp2_with fail
            go_roundw
            case rel => exact ⟨k + 1, rfl, by omega, HR6.out, HWX.out.trans (below_reader HM6.out HWX.out.size hNr)⟩
            case measure => simp only [intOf]; omega
        · have hpos : 0 ≤ n := by omega
          go_wp2_with fail
          have HC := Lib.hid (RNum_in (w := (wr.alloc (.cells #[.bool false, .int .i64 n, .string s] 38)).drew) (r := r) (b := b) (l := things (xs.drop k)) (m := things (xs.drop (k + 1))) (n := n.toNat) (e := 0) (e' := 0) (show RAt _ r b _ 0 from HRX.out) (by rw [HD.out]; exact back_num (x := ⟨false, n, s⟩) rfl hf1))
          have HNN := Lib.hid (show ((n.toNat : Nat) : Int) = n by omega)
          go_region_held3 (fun w' => w'.cell? ⟨wr.heap.size, 1, none⟩ = some (.int .i64 n))
            (first
              | (go_keep; done)
              | exact HP6)
            (first
              | (go_at_call 15; refine (HC.out).mono ?_; rw [HNN.out]; rintro x6 w6 ⟨rfl, h1, h2⟩; replace h2 := Mod.from_drew h2; have HR6 := Lib.hid h1; have HM6 := Lib.hid h2; have HP6 := (whole_far (Whole.new wr 38 #[.bool false, .int .i64 n, .string s]) HRX.out h2 (by decide)).cell 1; clear h1 h2))
          all_goals
            go_wp2_with fail
            go_roundw
            case rel => exact ⟨k + 1, rfl, by omega, HR6.out, HWX.out.trans (below_reader HM6.out HWX.out.size hNr)⟩
            case measure => simp only [intOf]; omega
    · go_wp2_with fail
      refine (Left_any r b _ _ _ HR.out).mono ?_
      rintro x6 w6 ⟨rfl, rfl⟩
      have e0 := Lib.hid (show (things (xs.drop k)).length = 0 by rw [List.drop_of_length_le (by omega)]; rfl)
      rw [e0.out]
      go_wp2_with fail
      refine (Err_any r b _ _ _ HR.out).mono ?_
      rintro x6 w6 ⟨rfl, rfl⟩
      go_wp2_with fail
      go_ret
      exact ⟨rfl, HW.out⟩

theorem own : ownKnob Try.prog.godebug = none := by kernel_rfl
theorem laidOut : laidOutB Try.prog = true := by kernel_rfl
set_option maxRecDepth 100000 in
theorem lifted (os : Os) (started : os.Started) (H : Type) (enc : TypeId × Value → H) (F : Stop.Interp) :
    ReturnsInHanded {} Try.checked os 6 .any ((Rows.OpenSpec.upto Rows.octetsBackSpec).pre6 enc Try.prog Try.f6 Rows.octetsBackUptoRow.domain false) (((Rows.OpenSpec.upto Rows.octetsBackSpec).at F).post enc Try.prog Try.f6 false true false false) := by
  refine LK.lifted_upto (C := Try.checked) (s := Rows.OpenSpec.upto Rows.octetsBackSpec) (k := Rows.uptoSmall) rfl (F := F) (s0 := Rows.octetsBackSpec) (tb := 4) rfl own started (by kernel_rfl) Try.func6 laidOut rfl rfl rfl rfl (by kernel_rfl) (by kernel_rfl) Try.underlying4
    (fun ds h => by
      match ds, h with
      | [_], _ => rfl)
    (OpenSpec.witness (enc := enc) (C := Try.checked) (s := Rows.OpenSpec.upto Rows.octetsBackSpec) (k := Rows.uptoSmall) rfl false ⟨#[], #[.slice none 0 0], []⟩ 8 (by kernel_rfl) (by kernel_rfl) (by kernel_rfl)
      (x := ([.nil], [], [])) (by kernel_rfl) rfl (by kernel_rfl)) ?_
  intro W base args ds ps hval hA hwt hkk
  rw [show Try.f6.params.toList = [34] by kernel_rfl] at hA hwt
  have hval' : ∀ (j : Nat) t v, (#[34] : Array TypeId)[j]? = some t → args[j]? = some v → Value.okWide Try.prog W .any base t v := by
    rw [← Try.params6]; exact hval
  clear hval
  obtain ⟨v0, d0, rfl, rfl, h0⟩ := trodAll_one hA
  obtain ⟨A0, c0, xs0, rfl, hT0, hc0, hm0, hF0, hk0⟩ := open_things (hval' 0 34 v0 rfl rfl) h0
  have hbulk : Rows.uptoBulkAll [d0] ≤ 1048576 := of_decide_eq_true hkk
  have hroom : (things xs0).length ≤ 10485760 := by
    simp only [Rows.uptoBulkAll] at hbulk
    omega
  exact walk A0 c0 xs0 W hT0 hc0 hm0 hF0 hroom

/-- The statement. -/
theorem proved : Rows.OctetsBackUptoSaid :=
  OpenClaim.holds_of_cond 6 Try.f6 rfl rfl rfl rfl rfl rfl rfl ⟨rfl, rfl, rfl, rfl, rfl⟩ rfl rfl rfl rfl rfl (by kernel_rfl) Try.func6 (by kernel_rfl)
    (of_decide_eq_true (by kernel_rfl)) (by unfold Func.isWrapper; first | (rw [if_pos (by decide +kernel)]; kernel_rfl) | (rw [if_neg (by decide +kernel)]; exact ⟨rfl, rfl⟩))
    (fun os started H enc _ F => lifted os started H enc F)

end Go.Proofs.Ytgaimlmpfmbdoaa.lawOctetsBack
