/- Every call on a set answers what the document says: the walk, over any Sets. -/
import Derived.Test.YtbgcjbekbeobnaaGreatDoorPsL5
namespace Go.Proofs.YtbgcjbekbeobnaaGreatDoor.ahead
open Go.RowKit
open SE (Ent)
set_option linter.unusedVariables false
set_option maxRecDepth 100000
def plays (l : List Opr) : List Ent := l.foldl nextL []
theorem plays_step {l : List Opr} {k : Nat} (h : k < l.length) : plays (l.take (k + 1)) = nextL (plays (l.take k)) l[k] := by
  unfold plays
  rw [List.take_add_one, List.getElem?_eq_getElem h, Option.toList_some, List.foldl_append]
  rfl
set_option maxHeartbeats 4000000 in
theorem plays_walk (S : Sets) (A : Option Addr) (c : Nat) (l : List Opr) (w : World) (hx : HasMax w) (hA : OprsAt w A l) (hl : l.length ≤ c) (hc : c ≤ 9223372036854775807) (hF : ∀ o ∈ l, Fair o.ent) :
    Calls Tryz.prog 3 #[.slice A l.length c] w fun e w' => e = .returned (.bool true) ∧ Below w.heap.size w w' := by
  have HA := Lib.hid hA; clear hA
  have HX := Lib.hid hx; clear hx
  have HF := Lib.hid hF; clear hF
  go_enter Tryz.func3, Tryz.ntmps3
  go_wp2_with fail
  refine (awake_any S _ HX.out).mono ?_
  rintro x w1 ⟨rfl, hb⟩
  have HB1 := Lib.hid hb; clear hb
  go_wp2_with fail
  refine (Mine.new S HX.out HB1.out).mono ?_
  rintro x w2 ⟨g, rfl, HM, _⟩
  unfold ptr
  go_wp2_with fail
  go_loopw [4, 6, 7, 8, 14] (fun v _ _ _ i wx => ∃ (k : Nat) (B : Option Addr) (d : Nat), i = .int .i64 (k : Int) ∧ v = .slice B (plays (l.take k)).length d ∧ k ≤ l.length ∧ Hid (Mine S w g (plays (l.take k)) (blk B) wx) ∧ Hid (EntsAt wx B (plays (l.take k))) ∧ (plays (l.take k)).length ≤ d ∧ d ≤ 9223372036854775807) (fun _ _ _ _ i _ => l.length - (intOf i).toNat)
  case atStart => exact ⟨0, none, 0, rfl, rfl, by omega, HM, Lib.hid (EntsAt.nil _ _), Nat.le_refl _, by omega⟩
  case round =>
    obtain ⟨k, B, d, rfl, rfl, hk, HT, HE, hd1, hd2⟩ := hrel
    by_cases hlt : k < l.length
    · obtain ⟨b, o, eA, hbl, hca⟩ := HA.out (by omega)
      subst eA
      obtain ⟨xk, xe⟩ := hca k l[k] (List.getElem?_eq_getElem hlt)
      have hbw := HT.out.on
      obtain ⟨x0, x1, x2, x3⟩ := xe.below hbl hbw
      have xk := (hbw.cell (p := ⟨b, o + k * 5, none⟩) hbl).trans xk
      have HX := Lib.hid (HF.out l[k] (List.getElem_mem hlt))
      have HS := Lib.hid (plays_step hlt)
      clear hca xe hbw
      generalize l[k] = x at x0 x1 x2 x3 xk HX HS
      generalize plays (l.take k) = L at HT HE HS hd1
      obtain ⟨xkk, xee⟩ := x
      simp only at x0 x1 x2 x3 xk HX
      have HW := Lib.hid ((Below.refl wr.heap.size wr).alloc (Nat.le_refl _) (Obj.cells #[.int .i64 xkk, .int .i64 xee.id, .string xee.path, .int .i64 xee.mode, .int .i64 xee.who] 31))
      go_wp2_with fail
      refine (one_any S w g B d L ⟨xkk, xee⟩ _ (HT.out.below HW.out) (HE.out.below HW.out) hd1 hd2 HX.out).mono ?_
      rintro y w3 ⟨B', d', rfl, HM3, HE3, hd3, hd4⟩
      rw [← HS.out] at HM3 HE3 hd3 ⊢
      go_wp2_with fail
      refine (HM3.out.len).mono ?_
      rintro y w4 ⟨rfl, HM4, HB4⟩
      have HE4 := Lib.hid (HE3.out.below HB4.out)
      go_wp2_with fail
      go_roundw
      case rel => exact ⟨k + 1, B', d', rfl, rfl, by omega, HM4, HE4, hd3, hd4⟩
      case measure => simp only [intOf]; omega
    · have he : l.take k = l := List.take_of_length_le (by omega)
      rw [he] at HT HE hd1 ⊢
      clear he
      go_wp2_with fail
      refine (HT.out.list).mono ?_
      rintro y w3 ⟨C, c3, rfl, HE3, h31, h32, HM3, HB3⟩
      go_wp2_with fail
      refine (Same_any C B c3 d _ _ _ HE3.out (HE.out.below HB3.out) h31 hd1 h32 hd2).mono ?_
      rintro y w4 ⟨rfl, hb4⟩
      have HM4 := Lib.hid (HM3.out.below hb4)
      clear hb4
      go_wp2_with fail
      go_ret
      exact ⟨by simp, HM4.out.on⟩
end Go.Proofs.YtbgcjbekbeobnaaGreatDoor.ahead
