/- Where the first number of a list stands that a function tells (slices.IndexFunc). -/
import Derived.Test.YtbcpphckjfbkbaaInts
import Derived.Shelf.Abstract
namespace Go.Proofs.Ytbcpphckjfbkbaa
open Go.RowKit
set_option linter.unusedVariables false
set_option maxRecDepth 100000
/-- What a function value tells of these numbers, in these worlds: it may lay new blocks. -/
def Tells (g : Nat) (lb : Array Value) (f : Int → Bool) (xs : List Int) (K : World → Prop) : Prop :=
  ∀ x ∈ xs, ∀ W, K W → Calls Try.prog g (#[.int .i64 x] ++ lb) W fun e W' => e = .returned (.bool (f x)) ∧ Below W.heap.size W W'
theorem Tells.mono {g : Nat} {lb : Array Value} {f : Int → Bool} {xs : List Int} {K K' : World → Prop} (h : Tells g lb f xs K) (hk : ∀ W, K' W → K W) : Tells g lb f xs K' := fun x hx W hW => h x hx W (hk W hW)
/-- Where the first stands that is told; -1 if there is none. -/
def hit (f : Int → Bool) (xs : List Int) : Int := match xs.findIdx? f with
  | some i => (i : Int)
  | none => -1
theorem hit_some {f : Int → Bool} {xs : List Int} {k : Nat} (hk : k < xs.length) (h : f xs[k] = true) (hn : ∀ j (hj : j < k), f (xs[j]'(by omega)) = false) : hit f xs = (k : Int) := by
  have e : xs.findIdx? f = some k := List.findIdx?_eq_some_iff_getElem.2 ⟨hk, h, fun j hj => by rw [hn j hj]; decide⟩
  unfold hit
  rw [e]
theorem hit_none {f : Int → Bool} {xs : List Int} (h : ∀ j (hj : j < xs.length), f xs[j] = false) : hit f xs = -1 := by
  have e : xs.findIdx? f = none := List.findIdx?_eq_none_iff.2 fun x hx => by
    obtain ⟨j, hj, rfl⟩ := List.getElem_of_mem hx
    exact h j hj
  unfold hit
  rw [e]
theorem hit_cases (f : Int → Bool) (xs : List Int) : (hit f xs = -1 ∧ ∀ x ∈ xs, f x = false) ∨ ∃ k, ∃ hk : k < xs.length, hit f xs = (k : Int) ∧ f xs[k] = true ∧ ∀ j (hj : j < k), f (xs[j]'(by omega)) = false := by
  unfold hit
  cases e : xs.findIdx? f with
  | none => exact .inl ⟨rfl, fun x hx => by simpa using List.findIdx?_eq_none_iff.1 e x hx⟩
  | some k =>
    obtain ⟨hk, h1, h2⟩ := List.findIdx?_eq_some_iff_getElem.1 e
    exact .inr ⟨k, hk, rfl, h1, fun j hj => by simpa using h2 j hj⟩
set_option maxHeartbeats 2000000 in
theorem IndexFunc_row (g : Nat) (lb : Array Value) (f : Int → Bool) (eg : ∀ args w, (callFunc g args).run Try.prog w = .ok (.enter g args) w) (xs : List Int) (A : Option Addr) (c : Nat) (w : World) (hA : IntsAt w A xs) (hl : xs.length ≤ c) (hc : c ≤ 9223372036854775807) (hp : Tells g lb f xs (fun W => Below w.heap.size w W)) :
    Calls Try.prog 29 #[.slice A xs.length c, .func (.func g) #[] lb] w fun e w' => e = .returned (.int .i64 (hit f xs)) ∧ Below w.heap.size w w' := by
  have HA := Lib.hid hA; have HP := Lib.hid hp
  clear hA hp
  go_enter Try.func29, Try.ntmps29
  go_wp2_with fail
  go_loopw [5, 8] (fun _ i wr => ∃ k : Nat, i = .int .i64 (k : Int) ∧ k ≤ xs.length ∧ Hid (Below w.heap.size w wr) ∧ Hid (∀ j (hj : j < xs.length), j < k → f xs[j] = false)) (fun _ i _ => xs.length - (intOf i).toNat)
  case atStart => exact ⟨0, rfl, Nat.zero_le _, Lib.hid (Below.refl _ _), Lib.hid (fun j _ hj => absurd hj (Nat.not_lt_zero _))⟩
  case round =>
    obtain ⟨k, rfl, hk, HB, HN⟩ := hrel
    by_cases hlt : k < xs.length
    · obtain ⟨b, o, eA, hb, hca⟩ := HA.out (by omega)
      subst eA
      have hcell : wr.cell? ⟨b, o + k, none⟩ = some (.int .i64 xs[k]) := (HB.out.cell (p := ⟨b, o + k, none⟩) hb).trans (hca k xs[k] (List.getElem?_eq_getElem hlt))
      have hcall := HP.out xs[k] (List.getElem_mem hlt) wr HB.out
      have HS := Lib.hid (fun h => hit_some (f := f) hlt h (fun j hj => HN.out j (by omega) hj))
      have HX := Lib.hid (fun (h : f xs[k] = false) j (hj : j < xs.length) (hjk : j < k + 1) => (show f xs[j] = false from if e : j = k then by subst e; exact h else HN.out j hj (by omega)))
      clear hca
      generalize xs[k] = x at hcell hcall HS HX
      cases hq : f x with
      | true =>
        rw [hq] at hcall
        have HH := Lib.hid (HS.out hq)
        have HC := Lib.hid hcall
        clear hcall hq HX HS
        go_wp2_with (go_at_fn g; refine HC.out.mono ?_; rintro e w' ⟨rfl, hb'⟩; have HB' := Lib.hid hb'; clear hb')
        go_ret
        exact ⟨ret_int HH.out.symm, below_on HB.out HB'.out⟩
      | false =>
        rw [hq] at hcall
        have HX' := Lib.hid (HX.out hq)
        have HC := Lib.hid hcall
        clear hcall hq HX HS
        go_wp2_with (go_at_fn g; refine HC.out.mono ?_; rintro e w' ⟨rfl, hb'⟩; have HB' := Lib.hid hb'; clear hb')
        go_roundw
        case rel => exact ⟨k + 1, rfl, by omega, Lib.hid (below_on HB.out HB'.out), HX'⟩
        case measure => simp only [intOf]; omega
    · have HE := Lib.hid (hit_none (f := f) (xs := xs) (fun j hj => HN.out j hj (by omega)))
      go_wp2_with fail
      go_ret
      exact ⟨ret_int HE.out.symm, HB.out⟩
end Go.Proofs.Ytbcpphckjfbkbaa
