/- The statements' own helpers: does a number stand in a list; a set filled with entries. -/
import Derived.Test.YtpfljooceppcbaaDoorPsSet
namespace Go.Proofs.YtpfljooceppcbaaDoor
open Go.RowKit
open SE (Ent)
set_option linter.unusedVariables false
set_option maxRecDepth 100000
/-- Entries put in, as far as they may be. -/
def fillOn (L l : List Ent) : List Ent := l.foldl (fun L e => (SE.put L e).1) L
def fill (l : List Ent) : List Ent := fillOn [] l
theorem fill_step {l : List Ent} {k : Nat} (h : k < l.length) : fill (l.take (k + 1)) = (SE.put (fill (l.take k)) l[k]).1 := by
  unfold fill fillOn
  rw [List.take_add_one, List.getElem?_eq_getElem h, Option.toList_some, List.foldl_append]
  rfl
set_option maxHeartbeats 1000000 in
theorem filled_any (S : Sets) (w0 : World) (A : Option Addr) (c : Nat) (l : List Ent) (w : World) (hx : HasMax w0) (hA : EntsAt w0 A l) (hl : l.length ≤ c) (hc : c ≤ 9223372036854775807) (hF : ∀ e ∈ l, Fair e) (hb : Below w0.heap.size w0 w) :
    Calls Tryd.prog 6 #[.slice A l.length c] w fun x w' => ∃ g, x = .returned (ptr g) ∧ Hid (Mine S w0 g (fill l) [] w') := by
  have HA := Lib.hid hA; clear hA
  have HF := Lib.hid hF; clear hF
  have HB := Lib.hid hb; clear hb
  have HX := Lib.hid hx; clear hx
  go_enter Tryd.func6, Tryd.ntmps6
  go_wp2_with fail
  refine (Mine.new S HX.out HB.out).mono ?_
  rintro x w2 ⟨g, rfl, HM, HB2⟩
  unfold ptr
  go_wp2_with fail
  go_loopw [5, 9] (fun _ i wx => ∃ k : Nat, i = .int .i64 (k : Int) ∧ k ≤ l.length ∧ Hid (Mine S w0 g (fill (l.take k)) [] wx)) (fun _ i _ => l.length - (intOf i).toNat)
  case atStart => exact ⟨0, rfl, by omega, by rw [List.take_zero]; exact HM⟩
  case round =>
    obtain ⟨k, rfl, hk, HT⟩ := hrel
    by_cases hlt : k < l.length
    · obtain ⟨b, o, eA, hbl, hca⟩ := HA.out (by omega)
      subst eA
      obtain ⟨x0, x1, x2, x3⟩ := (hca k l[k] (List.getElem?_eq_getElem hlt)).below hbl HT.out.on
      have HX := Lib.hid (HF.out l[k] (List.getElem_mem hlt))
      have HS := Lib.hid (fill_step hlt)
      clear hca
      generalize l[k] = x at x0 x1 x2 x3 HX HS
      have HT2 := Lib.hid (HT.out.below (((Below.refl wr.heap.size wr).alloc (Nat.le_refl _) (Obj.cells (four x).toArray 25))))
      go_wp2_with fail
      refine (HT2.out.put x HX.out).mono ?_
      rintro y w3 ⟨rfl, HP, _⟩
      go_wp2_with fail
      go_roundw
      case rel => exact ⟨k + 1, rfl, by omega, by rw [HS.out]; exact HP⟩
      case measure => simp only [intOf]; omega
    · have HE := Lib.hid (show l.take k = l from List.take_of_length_le (by omega))
      go_wp2_with fail
      go_ret
      exact ⟨g, rfl, by rw [← HE.out]; exact HT⟩
end Go.Proofs.YtpfljooceppcbaaDoor
