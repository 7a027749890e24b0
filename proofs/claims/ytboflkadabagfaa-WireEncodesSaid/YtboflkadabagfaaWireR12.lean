/- Both Encodes of layer 6 in one form. -/
import Derived.Test.YtboflkadabagfaaWireRD
import Derived.Test.YtboflkadabagfaaWireW14
namespace Go.Proofs.Ytboflkadabagfaa
open Go.RowKit
open Oct (BytesAt u8s)
open WM (Msg)
set_option linter.unusedVariables false
set_option linter.unusedSimpArgs false
set_option maxRecDepth 100000
/-- The bytes that Encode answers, and its error. -/
def encE (m : Msg) : List UInt8 := if WM.valid m = true then enc m else []
def encC (m : Msg) : Int := if WM.valid m = true then 0 else 22
theorem encE_len (m : Msg) : (encE m).length ≤ 154 := by
  unfold encE
  split
  · exact enc_len (by assumption)
  · simp
def EncP (w : World) (m : Msg) (e : Ending) (w' : World) : Prop := ∃ A c, e = .returned (.tuple #[.slice A (encE m).length c, .int .i64 (encC m)]) ∧ Hid (By.BytesAt w' A (encE m)) ∧ Below w.heap.size w w'
theorem wEnc_any (A : Option Addr) (c : Nat) (m : Msg) (w : World) (h : Fit w A c m) : Calls Try.prog 8 #[.agg (cellsM m (.slice A m.stamp.length c))] w (EncP w m) := by
  by_cases hv : WM.valid m = true
  · have e1 : encE m = enc m := if_pos hv
    have e2 : encC m = 0 := if_pos hv
    refine (WEncode_yes A c m w h hv).mono ?_
    rintro e w' ⟨v, rfl, hg⟩
    obtain ⟨A', c', rfl, _, _⟩ := By.own_shape hg.out.1
    unfold EncP
    rw [e1, e2]
    exact ⟨A', c', rfl, Lib.hid (By.BytesAt.own hg.out.1), hg.out.2⟩
  · have e1 : encE m = [] := if_neg hv
    have e2 : encC m = 22 := if_neg hv
    refine (WEncode_no A c m w h (by simpa using hv)).mono ?_
    rintro e w' ⟨rfl, hb⟩
    unfold EncP
    rw [e1, e2]
    exact ⟨none, 0, rfl, Lib.hid (By.BytesAt.nil _ _), hb⟩
theorem rEnc_any (A : Option Addr) (c : Nat) (m : Msg) (w : World) (h : Fit6 w A c m) : Calls Try.prog 10 #[.agg (cellsM m (.slice A m.stamp.length c))] w (EncP w m) := by
  by_cases hv : WM.valid m = true
  · have e1 : encE m = enc m := if_pos hv
    have e2 : encC m = 0 := if_pos hv
    refine (r6_Encode_yes A c m w h hv).mono ?_
    rintro e w' ⟨v, rfl, hg⟩
    obtain ⟨A', c', rfl, _, _⟩ := By.own_shape hg.out.1
    unfold EncP
    rw [e1, e2]
    exact ⟨A', c', rfl, Lib.hid (By.BytesAt.own hg.out.1), hg.out.2⟩
  · have e1 : encE m = [] := if_neg hv
    have e2 : encC m = 22 := if_neg hv
    refine (r6_Encode_no A c m w h (by simpa using hv)).mono ?_
    rintro e w' ⟨rfl, hb⟩
    unfold EncP
    rw [e1, e2]
    exact ⟨none, 0, rfl, Lib.hid (By.BytesAt.nil _ _), hb⟩
theorem Came.six {w : World} {A : Option Addr} {c : Nat} {m : Msg} (h : Came w A c m) : Fit6 w A c m := ⟨h.wide, h.ints, h.le, by have := h.cap; omega⟩
theorem Fit.six {w : World} {A : Option Addr} {c : Nat} {m : Msg} (h : Fit w A c m) : Fit6 w A c m := ⟨h.wide, h.ints, h.le, h.cap⟩
end Go.Proofs.Ytboflkadabagfaa
