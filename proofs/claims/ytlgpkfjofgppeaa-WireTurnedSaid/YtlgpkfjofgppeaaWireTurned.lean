/- A message in whose bytes any one is turned is refused; for every message, every place and every byte. -/
import Derived.Test.YtlgpkfjofgppeaaRows
import Derived.Test.YtlgpkfjofgppeaaWireW14
import Derived.Test.YtlgpkfjofgppeaaLaw
import Derived.JoinedCond
import Derived.OpenShut
namespace Go.Proofs.Ytlgpkfjofgppeaa.lawWireTurned
open Go Go.RowKit Go.ChangeShapes Go.WideShapes Go.ChangeAt
set_option linter.unusedVariables false
set_option linter.unusedSimpArgs false
theorem u8_turn {x : UInt8} {y : Nat} (hy : y < 256) : bits .xor .u8 (x.toNat : Int) (y : Int) = ((x ^^^ OM.by8 y).toNat : Int) := by
  have hx := x.toNat_lt
  rw [u8_xor_nat _ _ hx hy, UInt8.toNat_xor, OM.by8_nat hy]
theorem turned_ne {x : UInt8} {y : Nat} (hy : y < 256) (h0 : y ≠ 0) : x ≠ x ^^^ OM.by8 y := by
  intro e
  have h1 := congrArg UInt8.toNat e
  rw [UInt8.toNat_xor, OM.by8_nat hy] at h1
  have h2 : x.toNat ^^^ 0 = x.toNat ^^^ y := by rw [Nat.xor_zero]; exact h1
  exact h0 (OM.xor_left h2).symm
theorem row_turned {w2 : World} {base g k c y : Nat} {l : List UInt8} (hk : k < l.length) (hy : y < 256) (h : w2.ownsRow base 5 1 (.slice (some ⟨g, 0, none⟩) l.length c) l.length (Oct.u8s l)) :
    (w2.setCell ⟨g, k, none⟩ (.int .u8 (bits .xor .u8 ((l[k]).toNat : Int) (y : Int)))).ownsRow base 5 1 (.slice (some ⟨g, 0, none⟩) l.length c) l.length (Oct.u8s (l.set k (l[k] ^^^ OM.by8 y))) := by
  have e := (h.stored k (.int .u8 (bits .xor .u8 ((l[k]).toNat : Int) (y : Int)))).1
  have e2 : (Oct.u8s l).set k (.int .u8 (bits .xor .u8 ((l[k]).toNat : Int) (y : Int))) = Oct.u8s (l.set k (l[k] ^^^ OM.by8 y)) := by
    unfold Oct.u8s
    rw [List.map_set, u8_turn hy]
    rfl
  rw [e2] at e
  exact e
theorem far_below {w w1 w2 : World} {g k : Nat} {v : Value} (h : Below w.heap.size w w1) (h2 : Below w1.heap.size w1 w2) (hg : w1.heap.size ≤ g) : Below w.heap.size w (w2.setCell ⟨g, k, none⟩ v) :=
  (below_on h h2).setCell (p := ⟨g, k, none⟩) (Nat.le_trans h.size hg) v
set_option maxRecDepth 100000 in
set_option maxHeartbeats 4000000 in
theorem walk_no (A : Option Addr) (c : Nat) (m : WM.Msg) (at_ : Int) (y : Nat) (w : World) (hC : Came w A c m) (hv : WM.valid m = false) :
    Calls Try.prog 9 #[.agg (cellsM m (.slice A m.stamp.length c)), .int .i64 at_, .int .u8 (y : Int)] w (LK.True_ w) := by
  have HX := Lib.hid ((Below.refl _ w).alloc (Nat.le_refl _) (.cells (cellsM m (.slice A m.stamp.length c)) 29))
  have HK := Lib.hid (Whole.new w 29 (cellsM m (.slice A m.stamp.length c)))
  have HC := Lib.hid (hC.below HX.out)
  have HV := Lib.hid hv
  clear hC hv
  go_enter Try.func9, Try.ntmps9
  go_upto_region 1 with (fail)
  generalize w.alloc (.cells (cellsM m (.slice A m.stamp.length c)) 29) = w0 at HC HK HX ⊢
  go_wp2_with fail
  refine (awake_any _).mono ?_
  rintro e w1 ⟨rfl, hb⟩
  have HX1 := Lib.hid (below_on HX.out hb)
  have HC1 := Lib.hid (HC.out.below hb)
  have HLD1 := Lib.hid (msg_range (blk_below HK.out hb))
  clear hb HX HC HK
  go_wp2_with (refine wpList_load_mid rfl 29 (.tmp 3) rfl w.heap.size 0 rfl (cellsM m (.slice A m.stamp.length c)).toList _ HLD1.out Try.underlying29 rfl (by kernel_rfl) ?_)
  clear HLD1
  refine (own_of A c m w1 HC1.out).mono ?_
  rintro e w2 ⟨A2, c2, rfl, hf, hb⟩
  have HF2 := Lib.hid hf.out
  have HX2 := Lib.hid (below_on HX1.out hb)
  clear hf hb HX1 HC1
  go_wp2_with fail
  refine (WEncode_no A2 c2 m w2 HF2.out HV.out).mono ?_
  rintro e w3 ⟨rfl, hb⟩
  have HX3 := Lib.hid (below_on HX2.out hb)
  clear hb
  go_wp2_with fail
  go_ret
  exact ⟨rfl, HX3.out⟩
set_option maxRecDepth 100000 in
set_option maxHeartbeats 4000000 in
theorem walk_skip (A : Option Addr) (c : Nat) (m : WM.Msg) (at_ : Int) (y : Nat) (w : World) (hC : Came w A c m) (hv : WM.valid m = true) (hy : y < 256) (hs : at_ < 0 ∨ ((enc m).length : Int) ≤ at_ ∨ y = 0) :
    Calls Try.prog 9 #[.agg (cellsM m (.slice A m.stamp.length c)), .int .i64 at_, .int .u8 (y : Int)] w (LK.True_ w) := by
  have HX := Lib.hid ((Below.refl _ w).alloc (Nat.le_refl _) (.cells (cellsM m (.slice A m.stamp.length c)) 29))
  have HK := Lib.hid (Whole.new w 29 (cellsM m (.slice A m.stamp.length c)))
  have HC := Lib.hid (hC.below HX.out)
  have HV := Lib.hid hv
  have HS := Lib.hid hs
  clear hC hv hs
  go_enter Try.func9, Try.ntmps9
  go_upto_region 1 with (fail)
  generalize w.alloc (.cells (cellsM m (.slice A m.stamp.length c)) 29) = w0 at HC HK HX ⊢
  go_wp2_with fail
  refine (awake_any _).mono ?_
  rintro e w1 ⟨rfl, hb⟩
  have HX1 := Lib.hid (below_on HX.out hb)
  have HC1 := Lib.hid (HC.out.below hb)
  have HLD1 := Lib.hid (msg_range (blk_below HK.out hb))
  clear hb HX HC HK
  go_wp2_with (refine wpList_load_mid rfl 29 (.tmp 3) rfl w.heap.size 0 rfl (cellsM m (.slice A m.stamp.length c)).toList _ HLD1.out Try.underlying29 rfl (by kernel_rfl) ?_)
  clear HLD1
  refine (own_of A c m w1 HC1.out).mono ?_
  rintro e w2 ⟨A2, c2, rfl, hf, hb⟩
  have HF2 := Lib.hid hf.out
  have HX2 := Lib.hid (below_on HX1.out hb)
  clear hf hb HX1 HC1
  go_wp2_with fail
  refine (WEncode_yes A2 c2 m w2 HF2.out HV.out).mono ?_
  rintro e w3 ⟨v3, rfl, hg⟩
  obtain ⟨A3, c3, hv3, hl3, hc3⟩ := Oct.own_shape hg.out.1
  subst hv3
  have HO3 := Lib.hid hg.out.1
  have HB3 := Lib.hid hg.out.2
  clear hg
  by_cases h0 : at_ < 0
  · have hd1 : decide (at_ < 0) = true := by simpa using h0
    go_wp2_with fail
    go_ret
    exact ⟨rfl, below_on HX2.out HB3.out⟩
  have hd1 : decide (at_ < 0) = false := by simpa using h0
  by_cases h1 : ((enc m).length : Int) ≤ at_
  · have hd2 : decide (((enc m).length : Int) ≤ at_) = true := by simpa using h1
    go_wp2_with fail
    go_ret
    exact ⟨rfl, below_on HX2.out HB3.out⟩
  have hd2 : decide (((enc m).length : Int) ≤ at_) = false := by simpa using h1
  have h2 : y = 0 := by rcases HS.out with h | h | h
                        · exact absurd h h0
                        · exact absurd h h1
                        · exact h
  subst h2
  clear h0 h1
  go_wp2_with fail
  go_ret
  exact ⟨rfl, below_on HX2.out HB3.out⟩
set_option maxRecDepth 100000 in
set_option maxHeartbeats 4000000 in
theorem walk_yes (A : Option Addr) (c : Nat) (m : WM.Msg) (k : Nat) (y : Nat) (w : World) (hC : Came w A c m) (hv : WM.valid m = true) (hy : y < 256) (hk : k < (enc m).length) (h2 : y ≠ 0) :
    Calls Try.prog 9 #[.agg (cellsM m (.slice A m.stamp.length c)), .int .i64 (k : Int), .int .u8 (y : Int)] w (LK.True_ w) := by
  have HX := Lib.hid ((Below.refl _ w).alloc (Nat.le_refl _) (.cells (cellsM m (.slice A m.stamp.length c)) 29))
  have HK := Lib.hid (Whole.new w 29 (cellsM m (.slice A m.stamp.length c)))
  have HC := Lib.hid (hC.below HX.out)
  have HV := Lib.hid hv
  have HT := Lib.hid (dec_turned hv k hk ((enc m)[k] ^^^ OM.by8 y) (turned_ne hy h2))
  have HEL := Lib.hid (enc_len hv)
  have hd1 : decide ((k : Int) < 0) = false := by simp
  have hd2 : decide (((enc m).length : Int) ≤ (k : Int)) = false := by simpa using hk
  have hd2b : decide ((enc m).length ≤ k) = false := by simpa using hk
  have hd3 : ((y : Int) == 0) = false := by
    have e : (y : Int) ≠ 0 := by omega
    simpa using e
  clear hC hv h2
  go_enter Try.func9, Try.ntmps9
  go_upto_region 1 with (fail)
  generalize w.alloc (.cells (cellsM m (.slice A m.stamp.length c)) 29) = w0 at HC HK HX ⊢
  go_wp2_with fail
  refine (awake_any _).mono ?_
  rintro e w1 ⟨rfl, hb⟩
  have HX1 := Lib.hid (below_on HX.out hb)
  have HC1 := Lib.hid (HC.out.below hb)
  have HLD1 := Lib.hid (msg_range (blk_below HK.out hb))
  clear hb HX HC HK
  go_wp2_with (refine wpList_load_mid rfl 29 (.tmp 3) rfl w.heap.size 0 rfl (cellsM m (.slice A m.stamp.length c)).toList _ HLD1.out Try.underlying29 rfl (by kernel_rfl) ?_)
  clear HLD1
  refine (own_of A c m w1 HC1.out).mono ?_
  rintro e w2 ⟨A2, c2, rfl, hf, hb⟩
  have HF2 := Lib.hid hf.out
  have HX2 := Lib.hid (below_on HX1.out hb)
  clear hf hb HX1 HC1
  go_wp2_with fail
  refine (WEncode_yes A2 c2 m w2 HF2.out HV.out).mono ?_
  rintro e w3 ⟨v3, rfl, hg⟩
  obtain ⟨A3, c3, hv3, hl3, hc3⟩ := Oct.own_shape hg.out.1
  subst hv3
  have HO3 := Lib.hid hg.out.1
  have HB3 := Lib.hid hg.out.2
  clear hg
  obtain ⟨g, cap, hv4, hg, hgl⟩ := HO3.out.form (by omega)
  injection hv4 with e1 e2 e3
  subst e1
  subst e3
  clear e2
  have hcell : w3.cell? ⟨g, k, none⟩ = some (.int .u8 (((enc m)[k]).toNat : Int)) := (HO3.out.cellAt k (by omega)).trans (by unfold Oct.u8s; rw [List.getElem?_map, List.getElem?_eq_getElem hk]; rfl)
  have hfr : w3.frozen? ⟨g, k, none⟩ = false := HO3.out.frozenAt k
  have HX4 := Lib.hid (fun v => far_below (k := k) (v := v) HX2.out HB3.out hg)
  have HL4 := Lib.hid (Oct.BytesAt.own (row_turned (y := y) hk hy HO3.out))
  have HLN := Lib.hid (show ((enc m).set k ((enc m)[k] ^^^ OM.by8 y)).length = (enc m).length by rw [List.length_set])
  clear HO3 HB3 HX2 HF2
  go_wp2_with fail
  have HX5 := Lib.hid (HX4.out (.int .u8 (bits .xor .u8 (((enc m)[k]).toNat : Int) (y : Int))))
  generalize w3.setCell _ _ = w4 at HL4 HX5 ⊢
  clear HX4 hcell hfr
  have hl : ((enc m).set k ((enc m)[k] ^^^ OM.by8 y)).length ≤ 140737488355328 := by have := HEL.out; rw [HLN.out]; omega
  have hdec := Decode_no (some ⟨g, 0, none⟩) c3 ((enc m).set k ((enc m)[k] ^^^ OM.by8 y)) w4 HL4.out hl HT.out
  rw [HLN.out] at hdec
  refine hdec.mono ?_
  clear hdec hl
  rintro e w5 ⟨rfl, hb⟩
  have HX6 := Lib.hid (below_on HX5.out hb)
  clear hb HX5
  have HNW := Lib.hid (show MsgBlk (w5.alloc (.cells (cellsM WM.zero (.slice none 0 0)) 29)) w5.heap.size WM.zero (.slice none 0 0) from Whole.new w5 _ _)
  have HB7 := Lib.hid (((Below.refl _ w5).alloc (Nat.le_refl _) (.cells (cellsM WM.zero (.slice none 0 0)) 29)).trans ((row16 HNW.out WM.zero (.slice none 0 0)).2.below (by simp) (by simp)))
  have HX7 := Lib.hid (below_on HX6.out HB7.out)
  unfold zeroM
  clear HB7 HX6
  rw [show cellsM WM.zero (.slice none 0 0) = #[.int .i64 0, .int .i64 0, .int .i64 0, .int .i64 0, .int .i64 0, .int .i64 0, .int .i64 0, .string ⟨#[]⟩, .int .i64 0, .int .i64 0, .int .i64 0, .bool false, .int .i64 0, .slice none 0 0, .int .i64 0, .int .i64 0] from rfl] at HNW HX7 ⊢
  go_wp2_with (refine wpList_store_row rfl 29 (.tmp 9) (.tmp 45) rfl w5.heap.size #[.int .i64 0, .int .i64 0, .int .i64 0, .int .i64 0, .int .i64 0, .int .i64 0, .int .i64 0, .string ⟨#[]⟩, .int .i64 0, .int .i64 0, .int .i64 0, .bool false, .int .i64 0, .slice none 0 0, .int .i64 0, .int .i64 0] rfl rfl 29 _ HNW.out (by kernel_rfl) rfl (by simp [Value.oneCell']) ?_)
  go_ret
  exact ⟨rfl, HX7.out⟩
theorem walk (A : Option Addr) (c : Nat) (m : WM.Msg) (n : Int) (n2 : Int) (w : World) (hC : Came w A c m) (hr : -9223372036854775808 ≤ n ∧ n ≤ 9223372036854775807) (hr2 : 0 ≤ n2 ∧ n2 ≤ 255) :
    Calls Try.prog 9 #[.agg (cellsM m (.slice A m.stamp.length c)), .int .i64 n, .int .u8 n2] w (LK.True_ w) := by
  obtain ⟨y, rfl⟩ : ∃ y : Nat, n2 = (y : Int) := ⟨n2.toNat, by omega⟩
  cases hv : WM.valid m with
  | false => exact walk_no A c m n y w hC hv
  | true =>
    by_cases hs : n < 0 ∨ ((enc m).length : Int) ≤ n ∨ y = 0
    · exact walk_skip A c m n y w hC hv (by omega) hs
    · obtain ⟨k, rfl⟩ : ∃ k : Nat, n = (k : Int) := ⟨n.toNat, by omega⟩
      exact walk_yes A c m k y w hC hv (by omega) (by omega) (by omega)

theorem own : ownKnob Try.prog.godebug = none := by kernel_rfl
theorem laidOut : laidOutB Try.prog = true := by kernel_rfl
set_option maxRecDepth 100000 in
theorem lifted (os : Os) (started : os.Started) (H : Type) (enc : TypeId × Value → H) :
    ReturnsInHanded {} Try.checked os 9 .any (Rows.wireTurnedSpec.pre6 enc Try.prog Try.f9 [] false) (Rows.wireTurnedSpec.post enc Try.prog Try.f9 false true false false) := by
  refine LK.lifted_bare (C := Try.checked) (tb := 4) own started (by kernel_rfl) Try.func9 laidOut rfl (by kernel_rfl) (by kernel_rfl) Try.underlying4
    (fun ds h => by
      match ds, h with
      | [_, _, _], _ => rfl)
    (ChangeSpec.witness6 (enc := enc) (C := Try.checked) false ⟨#[], #[.agg #[.int .i64 0, .int .i64 0, .int .i64 0, .int .i64 0, .int .i64 0, .int .i64 0, .int .i64 0, .string ⟨#[]⟩, .int .i64 0, .int .i64 0, .int .i64 0, .bool false, .int .i64 0, .slice none 0 0, .int .i64 0, .int .i64 0], .int .i64 0, .int .u8 0], []⟩ 8 (by kernel_rfl) (by kernel_rfl) (by kernel_rfl) (by kernel_rfl)) ?_
  intro W base args ds ps hval hA hwt _
  rw [show Try.f9.params.toList = [29, 3, 5] by kernel_rfl] at hA hwt
  have hval' : ∀ (j : Nat) t v, (#[29, 3, 5] : Array TypeId)[j]? = some t → args[j]? = some v → Value.okWide Try.prog W .any base t v := by
    rw [← Try.params9]; exact hval
  clear hval
  obtain ⟨v0, v1, v2, d0, d1, d2, p0, p1, p2, rfl, rfl, rfl, h0, h1, h2⟩ := trodAll_three hA
  obtain ⟨A0, c0, m0, rfl, hC0⟩ := open_msg (hval' 0 29 v0 rfl rfl) h0 hwt (j := 0) rfl rfl
  obtain ⟨n1, rfl, rfl, rfl, hn1⟩ := open_int Try.underlying3 (hval' 1 3 v1 rfl rfl) h1
  have hr1 : -9223372036854775808 ≤ n1 ∧ n1 ≤ 9223372036854775807 := by simpa [Lit.wf, IntKind.min, IntKind.max, IntKind.signed, IntKind.bits] using hn1
  obtain ⟨n2, rfl, rfl, rfl, hn2⟩ := open_int Try.underlying5 (hval' 2 5 v2 rfl rfl) h2
  have hr2 : 0 ≤ n2 ∧ n2 ≤ 255 := by simpa [Lit.wf, IntKind.min, IntKind.max, IntKind.signed, IntKind.bits] using hn2
  exact walk A0 c0 m0 n1 n2 W hC0 hr1 hr2

/-- The statement. -/
theorem proved : Rows.WireTurnedSaid :=
  OpenClaim.holds_of_wide 9 Try.f9 rfl rfl rfl rfl rfl rfl rfl ⟨rfl, rfl, rfl, rfl, rfl⟩ rfl rfl rfl rfl rfl (by kernel_rfl) Try.func9 (by kernel_rfl)
    (of_decide_eq_true (by kernel_rfl)) (by unfold Func.isWrapper; first | (rw [if_pos (by decide +kernel)]; kernel_rfl) | (rw [if_neg (by decide +kernel)]; exact ⟨rfl, rfl⟩))
    (fun os started H enc _ => lifted os started H enc)

end Go.Proofs.Ytlgpkfjofgppeaa.lawWireTurned
