/- Turning any one byte of a list gives another checksum; for all bytes, every place and every byte. -/
import Derived.Test.YtgaimlmpfmbdoaaOctetsW14
import Derived.Test.YtgaimlmpfmbdoaaLawBare
import Derived.JoinedCond
import Derived.OpenShut
namespace Go.Proofs.Ytgaimlmpfmbdoaa.lawOctetsTurned
open Go Go.RowKit Go.ChangeShapes Go.WideShapes Go.ChangeAt
set_option linter.unusedVariables false
set_option linter.unusedSimpArgs false
theorem u8_turn {x : UInt8} {y : Nat} (hy : y < 256) : bits .xor .u8 (x.toNat : Int) (y : Int) = ((x ^^^ OM.by8 y).toNat : Int) := by
  have hx := x.toNat_lt
  rw [u8_xor_nat _ _ hx hy, UInt8.toNat_xor, OM.by8_nat hy]
theorem turned_ne {x : UInt8} {y : Nat} (hy : y < 256) (h0 : y ≠ 0) : x ≠ x ^^^ OM.by8 y := by
  intro e
  have h1 := congrArg UInt8.toNat e
  rw [UInt8.toNat_xor, OM.by8_nat hy] at h1
  have h2 : x.toNat ^^^ 0 = x.toNat ^^^ y := by rw [Nat.xor_zero]; exact h1
  exact h0 (OM.xor_left h2).symm
theorem sums_differ {l : List UInt8} {k : Nat} (hk : k < l.length) {d : UInt8} (h : l[k] ≠ d) : OM.sum l ≠ OM.sum (l.set k d) := by
  have e1 : l = l.take k ++ l[k] :: l.drop (k + 1) := by
    rw [← List.drop_eq_getElem_cons hk, List.take_append_drop]
  have e2 : l.set k d = l.take k ++ d :: l.drop (k + 1) := List.set_eq_take_append_cons_drop ▸ (by rw [if_pos hk])
  rw [e2]
  intro e
  rw [congrArg OM.sum e1] at e
  exact OM.sum_turned _ _ _ _ h e
theorem ne_true {a b : Nat} (h : a ≠ b) : ((a : Int) != (b : Int)) = true := by
  have e : (a : Int) ≠ (b : Int) := fun e => h (Int.ofNat.inj e)
  simpa using e
theorem row_turned {w2 : World} {base g k c y : Nat} {l : List UInt8} (hk : k < l.length) (hy : y < 256) (h : w2.ownsRow base 5 1 (.slice (some ⟨g, 0, none⟩) l.length c) l.length (u8s l)) :
    (w2.setCell ⟨g, k, none⟩ (.int .u8 (bits .xor .u8 ((l[k]).toNat : Int) (y : Int)))).ownsRow base 5 1 (.slice (some ⟨g, 0, none⟩) l.length c) l.length (u8s (l.set k (l[k] ^^^ OM.by8 y))) := by
  have e := (h.stored k (.int .u8 (bits .xor .u8 ((l[k]).toNat : Int) (y : Int)))).1
  have e2 : (u8s l).set k (.int .u8 (bits .xor .u8 ((l[k]).toNat : Int) (y : Int))) = u8s (l.set k (l[k] ^^^ OM.by8 y)) := by
    unfold u8s
    rw [List.map_set, u8_turn hy]
    rfl
  rw [e2] at e
  exact e
theorem BytesAt.own' {w : World} {A : Option Addr} {n c : Nat} {xs : List UInt8} {base : Nat} (h : w.ownsRow base 5 1 (.slice A n c) n (u8s xs)) : BytesAt w A xs := BytesAt.own h
set_option maxRecDepth 100000 in
set_option maxHeartbeats 4000000 in
theorem walk0 (A : Option Addr) (c : Nat) (l : List UInt8) (at_ : Int) (y : Nat) (w : World) (hB : BytesAt w A l) (hc : l.length ≤ c) (hm : c ≤ 140737488351232) (hr : -9223372036854775808 ≤ at_ ∧ at_ ≤ 9223372036854775807) (hy : y < 256) :
    Calls Try.prog 9 #[.slice A l.length c, .int .i64 at_, .int .u8 (y : Int)] w (LK.True_ w) := by
  have HY := Lib.hid hB; clear hB
  by_cases h0 : at_ < 0
  · have hd1 : decide (at_ < 0) = true := by simpa using h0
    go_enter Try.func9, Try.ntmps9
    go_wp2_with fail
    refine (awake_any _).mono ?_
    rintro e w1 ⟨rfl, hb⟩
    have HB1 := Lib.hid hb
    clear hb
    go_wp2_with fail
    go_ret
    exact ⟨rfl, HB1.out⟩

  by_cases h1 : (l.length : Int) ≤ at_
  · have hd1 : decide (at_ < 0) = false := by simpa using h0
    have hd2 : decide ((l.length : Int) ≤ at_) = true := by simpa using h1
    go_enter Try.func9, Try.ntmps9
    go_wp2_with fail
    refine (awake_any _).mono ?_
    rintro e w1 ⟨rfl, hb⟩
    have HB1 := Lib.hid hb
    clear hb
    go_wp2_with fail
    go_ret
    exact ⟨rfl, HB1.out⟩

  by_cases h2 : y = 0
  · subst h2
    have hd1 : decide (at_ < 0) = false := by simpa using h0
    have hd2 : decide ((l.length : Int) ≤ at_) = false := by simpa using h1
    go_enter Try.func9, Try.ntmps9
    go_wp2_with fail
    refine (awake_any _).mono ?_
    rintro e w1 ⟨rfl, hb⟩
    have HB1 := Lib.hid hb
    clear hb
    go_wp2_with fail
    go_ret
    exact ⟨rfl, HB1.out⟩

  obtain ⟨k, rfl⟩ : ∃ k : Nat, at_ = (k : Int) := ⟨at_.toNat, by omega⟩
  have hk : k < l.length := by omega
  have hd1 : decide ((k : Int) < 0) = false := by simp
  have hd2 : decide ((l.length : Int) ≤ (k : Int)) = false := by simpa using h1
  have hd2b : decide (l.length ≤ k) = false := by simpa using hk
  have hd3 : ((y : Int) == 0) = false := by
    have e : (y : Int) ≠ 0 := by omega
    simpa using e
  have H2 := Lib.hid h2; clear h2
  go_enter Try.func9, Try.ntmps9
  go_wp2_with fail
  refine (awake_any _).mono ?_
  rintro e w1 ⟨rfl, hb⟩
  have HB1 := Lib.hid hb
  have HY1 := Lib.hid (HY.out.below hb)
  clear hb
  go_wp2_with (first
    | (at_builtin; refine app_all rfl (.tmp 22) (.tmp 23) rfl A c _ l rfl HY1.out _ rfl rfl rfl (by omega) ?_; intro A2 n2 c2 w2 hm2; obtain ⟨HN2, HX2, HO2, HF2, k2, k2'⟩ := hm2
       have hn2 := HN2.out; subst hn2; obtain ⟨g, cap, hv, hg, hgl⟩ := HO2.out.form (by omega); injection hv with e1 e2 e3; subst e1; subst e3; clear e2
       have hcell : w2.cell? ⟨g, k, none⟩ = some (.int .u8 ((l[k]).toNat : Int)) := (HO2.out.cellAt k (by omega)).trans (by unfold u8s; rw [List.getElem?_map, List.getElem?_eq_getElem hk]; rfl)
       have hfr : w2.frozen? ⟨g, k, none⟩ = false := HO2.out.frozenAt k
       have HY3 : Hid (∀ v, BytesAt (w2.setCell ⟨g, k, none⟩ v) A l) := Lib.hid (fun v => (HY1.out.below (HF2.out.setCell (p := ⟨g, k, none⟩) hg v)))
       have HB3 : Hid (∀ v, Below w.heap.size w (w2.setCell ⟨g, k, none⟩ v)) := Lib.hid (fun v => HB1.out.trans ((HF2.out.mono HB1.out.size).setCell (p := ⟨g, k, none⟩) (Nat.le_trans HB1.out.size hg) v))
       have HS3 : Hid (Below w1.heap.size w1 w2) := HF2
       have HL3 := Lib.hid (row_turned (y := y) hk hy HO2.out)
       have HD := Lib.hid (sums_differ hk (turned_ne (x := l[k]) hy H2.out))
       clear HX2 HN2)
    | (at_builtin; refine app_all rfl (.tmp 32) (.tmp 33) rfl A c _ l rfl (HY3.out _) _ (by simp) rfl rfl (by omega) ?_; intro A4 n4 c4 w4 hm4; obtain ⟨HN4, HX4, HO4, HF4, k4, k4'⟩ := hm4))
  refine (Sum_in HN4.out HX4.out (by omega)).mono ?_
  rintro e w5 ⟨rfl, rfl⟩
  have HX5 := Lib.hid ((BytesAt.own' HL3.out).below HF4.out)
  have HB5 := Lib.hid ((HB3.out _).trans (HF4.out.mono (HB3.out (.int .u8 (bits .xor .u8 ((l[k]).toNat : Int) (y : Int)))).size))
  go_wp2_with fail
  refine (Sum_in (xs := l.set k (l[k] ^^^ OM.by8 y)) (by rw [List.length_set]) HX5.out (by rw [List.length_set]; omega)).mono ?_
  rintro e w6 ⟨rfl, rfl⟩
  go_wp2
  go_ret
  exact ⟨ret_bool (ne_true HD.out), HB5.out⟩
theorem walk (A : Option Addr) (c : Nat) (l : List UInt8) (n : Int) (m : Int) (w : World) (hB : BytesAt w A l) (hc : l.length ≤ c) (hm : c ≤ 140737488351232) (hr : -9223372036854775808 ≤ n ∧ n ≤ 9223372036854775807) (hr2 : 0 ≤ m ∧ m ≤ 255) :
    Calls Try.prog 9 #[.slice A l.length c, .int .i64 n, .int .u8 m] w (LK.True_ w) := by
  obtain ⟨y, rfl⟩ : ∃ y : Nat, m = (y : Int) := ⟨m.toNat, by omega⟩
  exact walk0 A c l n y w hB hc hm hr (by omega)

theorem own : ownKnob Try.prog.godebug = none := by kernel_rfl
theorem laidOut : laidOutB Try.prog = true := by kernel_rfl
set_option maxRecDepth 100000 in
theorem lifted (os : Os) (started : os.Started) (H : Type) (enc : TypeId × Value → H) :
    ReturnsInHanded {} Try.checked os 9 .any (Rows.octetsTurnedSpec.pre6 enc Try.prog Try.f9 [] false) (Rows.octetsTurnedSpec.post enc Try.prog Try.f9 false true false false) := by
  refine LK.lifted_bare (C := Try.checked) (tb := 4) own started (by kernel_rfl) Try.func9 laidOut rfl (by kernel_rfl) (by kernel_rfl) Try.underlying4
    (fun ds h => by
      match ds, h with
      | [_, _, _], _ => rfl)
    (ChangeSpec.witness6 (enc := enc) (C := Try.checked) false ⟨#[], #[.slice none 0 0, .int .i64 0, .int .u8 0], []⟩ 8 (by kernel_rfl) (by kernel_rfl) (by kernel_rfl) (by kernel_rfl)) ?_
  intro W base args ds ps hval hA hwt _
  rw [show Try.f9.params.toList = [28, 3, 5] by kernel_rfl] at hA hwt
  have hval' : ∀ (j : Nat) t v, (#[28, 3, 5] : Array TypeId)[j]? = some t → args[j]? = some v → Value.okWide Try.prog W .any base t v := by
    rw [← Try.params9]; exact hval
  clear hval
  obtain ⟨v0, v1, v2, d0, d1, d2, p0, p1, p2, rfl, rfl, rfl, h0, h1, h2⟩ := trodAll_three hA
  obtain ⟨A0, c0, l0, rfl, hB0, hc0, hm0⟩ := open_bytes (hval' 0 28 v0 rfl rfl) h0 hwt (j := 0) rfl rfl
  obtain ⟨n1, rfl, rfl, rfl, hn1⟩ := open_int Try.underlying3 (hval' 1 3 v1 rfl rfl) h1
  have hr1 : -9223372036854775808 ≤ n1 ∧ n1 ≤ 9223372036854775807 := by simpa [Lit.wf, IntKind.min, IntKind.max, IntKind.signed, IntKind.bits] using hn1
  obtain ⟨n2, rfl, rfl, rfl, hn2⟩ := open_int Try.underlying5 (hval' 2 5 v2 rfl rfl) h2
  have hr2 : 0 ≤ n2 ∧ n2 ≤ 255 := by simpa [Lit.wf, IntKind.min, IntKind.max, IntKind.signed, IntKind.bits] using hn2
  exact walk A0 c0 l0 n1 n2 W hB0 hc0 hm0 hr1 hr2

/-- The statement. -/
theorem proved : Rows.OctetsTurnedSaid :=
  OpenClaim.holds_of_wide 9 Try.f9 rfl rfl rfl rfl rfl rfl rfl ⟨rfl, rfl, rfl, rfl, rfl⟩ rfl rfl rfl rfl rfl (by kernel_rfl) Try.func9 (by kernel_rfl)
    (of_decide_eq_true (by kernel_rfl)) (by unfold Func.isWrapper; first | (rw [if_pos (by decide +kernel)]; kernel_rfl) | (rw [if_neg (by decide +kernel)]; exact ⟨rfl, rfl⟩))
    (fun os started H enc _ => lifted os started H enc)

end Go.Proofs.Ytgaimlmpfmbdoaa.lawOctetsTurned
