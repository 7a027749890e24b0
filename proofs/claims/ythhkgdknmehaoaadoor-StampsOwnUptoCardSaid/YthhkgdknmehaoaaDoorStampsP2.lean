/- The package's Text: a list's numbers in decimal digits, one point between each two. -/
import Derived.Test.YthhkgdknmehaoaaDoorStampsP1
import Derived.Test.YthhkgdknmehaoaaDoorStampsPMath
import Derived.Test.YthhkgdknmehaoaaDoorStampsW6
import Derived.Lib.AppendIntMem
namespace Go.Proofs.YthhkgdknmehaoaaDoor
open Go.RowKit
set_option linter.unusedVariables false
set_option maxRecDepth 100000
/-- The call's own Builder, at the block that it laid first, holds these bytes. -/
def Bld (w : World) (L : List UInt8) (wx : World) : Prop := Lib.IsBuilder 54 5 w.heap.size w.heap.size (Lib.byteCells L) wx ∧ Below w.heap.size w wx
theorem Bld.new (w : World) : Bld w [] (w.alloc (.cells #[.pointer none, .slice none 0 0] 54)) := ⟨Lib.fresh_isBuilder _ _ w, (Below.refl _ w).alloc (Nat.le_refl _) _⟩
theorem Bld.below {w a b : World} {L : List UInt8} (h : Bld w L a) (hb : Below a.heap.size a b) : Bld w L b := by
  have key : ∀ p, Lib.BuilderAt 54 5 w.heap.size w.heap.size p (Lib.byteCells L) a → Lib.BuilderAt 54 5 w.heap.size w.heap.size p (Lib.byteCells L) b := by
    rintro p ⟨hB, v, hbk, hown, hne⟩
    exact ⟨hB, v, (hb.block _ (Array.getElem?_eq_some_iff.1 hbk).1).trans hbk, (Mod.of_below hb []).own hown (by simp), hne⟩
  exact ⟨h.1.elim (fun x => .inl (key _ x)) (fun x => .inr (key _ x)), below_on h.2 hb⟩
theorem bld_write {w a : World} {L : List UInt8} (s : ByteArray) (h : Bld w L a) (hlen : L.length + s.size ≤ 140737488355328) :
    Calls Tryd.prog 36 #[.pointer (some ⟨w.heap.size, 0, none⟩), .string s] a fun e w' => (∃ v, e = .returned (.tuple #[v, .nilIface])) ∧ Bld w (L ++ s.data.toList) w' := by
  refine (WriteString_any w.heap.size w.heap.size (Lib.byteCells L) s a h.1 (by rw [Lib.byteCells_length]; exact hlen) h.2.size).mono ?_
  rintro e w' ⟨rfl, h1, h2⟩
  refine ⟨⟨_, rfl⟩, ?_, h.2.trans h2⟩
  have e : Lib.byteCells (L ++ s.data.toList) = Lib.byteCells L ++ Lib.strCells s := by unfold Lib.byteCells Lib.strCells; rw [List.map_append]
  rw [e]
  exact h1
theorem itoa_any (x : Int) (w : World) (hT : Tabs w) (hx : -9223372036854775808 ≤ x ∧ x ≤ 9223372036854775807) :
    Calls Tryd.prog 37 #[.int .i64 x] w fun e w' => e = .returned (.string (txt (SM.dec x))) ∧ Below w.heap.size w w' := by
  refine (Tryd.strconv_Itoa x hx.1 hx.2 w hT.pow).mono ?_
  rintro e w' ⟨rfl, k, os, rfl⟩
  exact ⟨by rw [SM.itoa_dec]; rfl, Lib.below_grow _ w (Nat.le_refl _) k os⟩
theorem bld_first {l : List Int} (h : 0 < l.length) : SM.body (l.take 0) ++ SM.dec l[0] = SM.body (l.take (0 + 1)) := by
  cases l with
  | nil => cases h
  | cons x r => rfl
theorem bld_next {l : List Int} {k : Nat} (h : k < l.length) (hk : 0 < k) : (SM.body (l.take k) ++ [46]) ++ SM.dec l[k] = SM.body (l.take (k + 1)) := by
  rw [List.take_add_one, List.getElem?_eq_getElem h]
  have hne : l.take k ≠ [] := by
    intro e
    have := congrArg List.length e
    rw [List.length_take] at this
    simp only [List.length_nil] at this
    omega
  rw [Option.toList_some, SM.body_snoc _ hne, List.append_assoc]
  rfl
theorem take_len {l : List Int} (hx : ∀ x ∈ l, -9223372036854775808 ≤ x ∧ x ≤ 9223372036854775807) (k : Nat) (hl : l.length ≤ 1048576) : (SM.body (l.take k)).length ≤ 22020096 := by
  have h1 := body_len (l.take k) (fun x h => hx x (List.mem_of_mem_take h))
  have h2 : (l.take k).length ≤ l.length := by rw [List.length_take]; exact Nat.min_le_right _ _
  omega
theorem txt_bytes (l : List UInt8) : (txt l).data.toList = l := by simp [txt]
theorem dec_size {x : Int} (hx : -9223372036854775808 ≤ x ∧ x ≤ 9223372036854775807) : (txt (SM.dec x)).size ≤ 20 := by
  rw [txt_size]
  exact dec_len hx
set_option maxHeartbeats 2000000 in
theorem Text_any (A : Option Addr) (c : Nat) (l : List Int) (w : World) (hT : Tabs w) (hA : IntsAt w A l) (hl : l.length ≤ c) (hc : c ≤ 9223372036854775807) (h8 : l.length ≤ 1048576) (hx : ∀ x ∈ l, -9223372036854775808 ≤ x ∧ x ≤ 9223372036854775807) :
    Calls Tryd.prog 28 #[.slice A l.length c] w fun e w' => e = .returned (.string (txt (SM.text l))) ∧ Below w.heap.size w w' := by
  have HA := Lib.hid hA; clear hA
  have HX := Lib.hid hx; clear hx
  have KT := Lib.hid hT; clear hT
  cases hn : l.length with
  | zero =>
    have HE := Lib.hid (show (⟨#[45]⟩ : ByteArray) = txt (SM.text l) by rw [List.length_eq_zero_iff.1 hn]; rfl)
    clear hl hn h8
    go_enter Tryd.func28, Tryd.ntmps28
    go_wp2_with fail
    go_ret
    exact ⟨ret_txt HE.out, Below.refl _ _⟩
  | succ n =>
    have HT := Lib.hid (show SM.text l = SM.body l from if_neg (fun e => by rw [e] at hn; cases hn))
    have HN := Lib.hid hn
    have hnc : n + 1 ≤ c := by omega
    have hz0 : ((n : Int) + 1 == 0) = false := by simpa using (show ¬ (n : Int) + 1 = 0 by omega)
    have H8 := Lib.hid h8
    clear hl hn h8
    go_enter Tryd.func28, Tryd.ntmps28
    go_wp2_with fail
    go_loopw [11] (fun i wx => ∃ k : Nat, i = .int .i64 (k : Int) ∧ k ≤ n + 1 ∧ Bld w (SM.body (l.take k)) wx) (fun i _ => n + 1 - (intOf i).toNat)
    case atStart => exact ⟨0, rfl, by omega, Bld.new w⟩
    case round =>
      obtain ⟨k, rfl, hk, hB⟩ := hrel
      have HB := Lib.hid hB; clear hB
      by_cases hlt : k < n + 1
      · have g1 : k < l.length := by rw [HN.out]; exact hlt
        have h0 := HX.out l[k] (List.getElem_mem g1)
        obtain ⟨ba, oa, eA, _, hca⟩ := (HA.out.below HB.out.2) (by omega)
        subst eA
        have ca := hca k l[k] (List.getElem?_eq_getElem g1)
        clear hca
        by_cases hk0 : k = 0
        · subst hk0
          have HE := Lib.hid (bld_first g1)
          have HL := Lib.hid (take_len HX.out 0 H8.out)
          replace ca : wr.cell? ⟨ba, oa, none⟩ = some (.int .i64 l[0]) := ca
          generalize l[0] = x at ca h0 HE
          clear g1
          have HD := Lib.hid (dec_size h0)
          go_wp2_with fail
          refine (itoa_any x _ (KT.out.below HB.out.2) h0).mono ?_
          rintro e w2 ⟨rfl, hb⟩
          have HB2 := Lib.hid (HB.out.below hb); clear hb
          go_wp2_with fail
          refine (bld_write (txt (SM.dec x)) HB2.out (by have := HL.out; have := HD.out; omega)).mono ?_
          rintro e w3 ⟨⟨v, rfl⟩, hb⟩
          rw [txt_bytes, HE.out] at hb
          have HB3 := Lib.hid hb; clear hb
          go_wp2_with fail
          go_roundw
          case rel => exact ⟨0 + 1, rfl, by omega, HB3.out⟩
          case measure => simp only [intOf]; omega
        · have hkp : 0 < k := by omega
          have HE := Lib.hid (bld_next g1 hkp)
          have HL := Lib.hid (take_len HX.out k H8.out)
          generalize l[k] = x at ca h0 HE
          clear g1
          have HD := Lib.hid (dec_size h0)
          go_wp2_with fail
          refine (bld_write ⟨#[46]⟩ HB.out (by have := HL.out; have h1 : (⟨#[46]⟩ : ByteArray).size = 1 := rfl; omega)).mono ?_
          rintro e w2 ⟨⟨v, rfl⟩, hb⟩
          have HB2 := Lib.hid hb; clear hb
          go_wp2_with fail
          refine (itoa_any x _ (KT.out.below HB2.out.2) h0).mono ?_
          rintro e w3 ⟨rfl, hb⟩
          have HB3 := Lib.hid (HB2.out.below hb); clear hb
          go_wp2_with fail
          refine (bld_write (txt (SM.dec x)) HB3.out (by have := HL.out; have := HD.out; rw [List.length_append]; show _ + 1 + _ ≤ _; omega)).mono ?_
          rintro e w4 ⟨⟨v2, rfl⟩, hb⟩
          rw [txt_bytes, HE.out] at hb
          have HB4 := Lib.hid hb; clear hb
          go_wp2_with fail
          go_roundw
          case rel => exact ⟨k + 1, rfl, by omega, HB4.out⟩
          case measure => simp only [intOf]; omega
      · have he : l.take k = l := List.take_of_length_le (by rw [HN.out]; omega)
        rw [he] at HB
        have hne : SM.body l ≠ [] := fun e => by
          have h1 := SM.body_count l
          have h2 := HN.out
          rw [e] at h1
          simp only [List.length_nil] at h1
          omega
        have HNE := Lib.hid hne
        clear hne he
        go_wp2_with fail
        refine (Tryd.Builder_String w.heap.size w.heap.size (SM.body l) _ HB.out.1 HNE.out).mono ?_
        rintro e w2 ⟨rfl, hb⟩
        have HB2 := Lib.hid (HB.out.2.trans hb); clear hb
        go_wp2_with fail
        go_ret
        exact ⟨ret_txt (by rw [HT.out]; rfl), HB2.out⟩
end Go.Proofs.YthhkgdknmehaoaaDoor
