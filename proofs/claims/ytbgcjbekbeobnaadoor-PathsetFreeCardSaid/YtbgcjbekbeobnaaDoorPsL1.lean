/- The statements' own helpers: does a number stand in a list; a set filled with entries. -/
import Derived.Test.YtbgcjbekbeobnaaDoorPsSet
namespace Go.Proofs.YtbgcjbekbeobnaaDoor
open Go.RowKit
open SE (Ent)
set_option linter.unusedVariables false
set_option maxRecDepth 100000
set_option maxHeartbeats 1000000 in
theorem in_any (A : Option Addr) (c : Nat) (l : List Int) (x : Int) (w : World) (hA : IntsAt w A l) (hl : l.length ≤ c) (hc : c ≤ 9223372036854775807) :
    Calls Tryd.prog 19 #[.slice A l.length c, .int .i64 x] w fun e w' => e = .returned (.bool (decide (x ∈ l))) ∧ w = w' := by
  have HA := Lib.hid hA; clear hA
  go_enter Tryd.func19, Tryd.ntmps19
  go_wp2_with fail
  go_loop [6, 9] (fun _ i => ∃ k : Nat, i = .int .i64 (k : Int) ∧ k ≤ l.length ∧ Hid (x ∉ l.take k)) (fun _ i => l.length - (intOf i).toNat)
  case atStart => exact ⟨0, rfl, by omega, Lib.hid (by simp)⟩
  case round =>
    obtain ⟨k, rfl, hk, HT⟩ := hrel
    by_cases hlt : k < l.length
    · obtain ⟨b, o, eA, _, hca⟩ := HA.out (by omega)
      subst eA
      have ca := hca k l[k] (List.getElem?_eq_getElem hlt)
      clear hca
      by_cases he : l[k] = x
      · have HE := Lib.hid (show x ∈ l from he ▸ List.getElem_mem hlt)
        rw [he] at ca
        clear he
        go_wp2_with fail
        go_ret
        exact ⟨ret_bool (decide_eq_true HE.out).symm, rfl⟩
      · have HS := Lib.hid (show x ∉ l.take (k + 1) from fun h => by
          rw [List.take_add_one, List.getElem?_eq_getElem hlt, List.mem_append] at h
          rcases h with h | h
          · exact HT.out h
          · exact he (by rw [Option.toList_some, List.mem_singleton] at h; exact h.symm))
        have hd : (l[k] == x) = false := by simpa using he
        clear he
        generalize l[k] = y at ca hd
        go_wp2_with fail
        go_round
        case rel => exact ⟨k + 1, rfl, by omega, HS⟩
        case measure => simp only [intOf]; omega
    · have HE := Lib.hid (show x ∉ l by have := HT.out; rwa [List.take_of_length_le (by omega)] at this)
      go_wp2_with fail
      go_ret
      exact ⟨ret_bool (decide_eq_false HE.out).symm, rfl⟩
/-- Entries put in, as far as they may be. -/
def fillOn (L l : List Ent) : List Ent := l.foldl (fun L e => (SE.put L e).1) L
def fill (l : List Ent) : List Ent := fillOn [] l
theorem fill_step {l : List Ent} {k : Nat} (h : k < l.length) : fill (l.take (k + 1)) = (SE.put (fill (l.take k)) l[k]).1 := by
  unfold fill fillOn
  rw [List.take_add_one, List.getElem?_eq_getElem h, Option.toList_some, List.foldl_append]
  rfl
set_option maxHeartbeats 1000000 in
theorem filled_any (S : Sets) (w0 : World) (A : Option Addr) (c : Nat) (l : List Ent) (w : World) (hx : HasMax w0) (hA : EntsAt w0 A l) (hl : l.length ≤ c) (hc : c ≤ 9223372036854775807) (hF : ∀ e ∈ l, Fair e) (hb : Below w0.heap.size w0 w) :
    Calls Tryd.prog 14 #[.slice A l.length c] w fun x w' => ∃ g, x = .returned (ptr g) ∧ Hid (Mine S w0 g (fill l) [] w') := by
  have HA := Lib.hid hA; clear hA
  have HF := Lib.hid hF; clear hF
  have HB := Lib.hid hb; clear hb
  have HX := Lib.hid hx; clear hx
  go_enter Tryd.func14, Tryd.ntmps14
  go_wp2_with fail
  refine (Mine.new S HX.out HB.out).mono ?_
  rintro x w2 ⟨g, rfl, HM, HB2⟩
  unfold ptr
  go_wp2_with fail
  go_loopw [5, 9] (fun _ i wx => ∃ k : Nat, i = .int .i64 (k : Int) ∧ k ≤ l.length ∧ Hid (Mine S w0 g (fill (l.take k)) [] wx)) (fun _ i _ => l.length - (intOf i).toNat)
  case atStart => exact ⟨0, rfl, by omega, by rw [List.take_zero]; exact HM⟩
  case round =>
    obtain ⟨k, rfl, hk, HT⟩ := hrel
    by_cases hlt : k < l.length
    · obtain ⟨b, o, eA, hbl, hca⟩ := HA.out (by omega)
      subst eA
      obtain ⟨x0, x1, x2, x3⟩ := (hca k l[k] (List.getElem?_eq_getElem hlt)).below hbl HT.out.on
      have HX := Lib.hid (HF.out l[k] (List.getElem_mem hlt))
      have HS := Lib.hid (fill_step hlt)
      clear hca
      generalize l[k] = x at x0 x1 x2 x3 HX HS
      have HT2 := Lib.hid (HT.out.below (((Below.refl wr.heap.size wr).alloc (Nat.le_refl _) (Obj.cells (four x).toArray 29))))
      go_wp2_with fail
      refine (HT2.out.put x HX.out).mono ?_
      rintro y w3 ⟨rfl, HP, _⟩
      go_wp2_with fail
      go_roundw
      case rel => exact ⟨k + 1, rfl, by omega, by rw [HS.out]; exact HP⟩
      case measure => simp only [intOf]; omega
    · have HE := Lib.hid (show l.take k = l from List.take_of_length_le (by omega))
      go_wp2_with fail
      go_ret
      exact ⟨g, rfl, by rw [← HE.out]; exact HT⟩
end Go.Proofs.YtbgcjbekbeobnaaDoor
