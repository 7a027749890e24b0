/- Texts that belong together: CaSt, CaAwake. -/
import Derived.Test.YtnacchldecjcaaaCaOpen
import Derived.Test.YtnacchldecjcaaaCaQ
import Derived.Test.YtnacchldecjcaaaCaB
namespace Go.Proofs.Ytnacchldecjcaaa
open Go.RowKit
open CA (Cl St)
open WM (Msg)
set_option linter.unusedVariables false
set_option linter.unusedSimpArgs false
set_option maxRecDepth 100000
/-- Calls of the law's own. -/
structure K1 (w0 w : World) (g M : Nat) (s : St) : Prop where
  below : Below w0.heap.size w0 w
  at_ : CallsAt w g M s
  fg : w0.heap.size ≤ g
  fM : w0.heap.size ≤ M
section
variable {w0 w w' : World} {g M : Nat} {s s' : St}
theorem K1.on (h : K1 w0 w g M s) (hb : Below w.heap.size w w') : K1 w0 w' g M s := ⟨below_on h.below hb, h.at_.below hb, h.fg, h.fM⟩
theorem K1.put {F : List Nat} (h : K1 w0 w g M s) (ht : Turned w g M F s' w') (hF : ∀ x ∈ F, x = g ∨ x = M) : K1 w0 w' g M s' :=
  ⟨h.below.trans (ht.2.below h.below.size (fun x hx => by rcases hF x hx with rfl | rfl; exact h.fg; exact h.fM)), ht.1, h.fg, h.fM⟩
theorem K1.put2 (h : K1 w0 w g M s) (ht : Turned w g M [g, M] s' w') : K1 w0 w' g M s' := h.put ht (by simp)
theorem K1.put1 (h : K1 w0 w g M s) (ht : Turned w g M [M] s' w') : K1 w0 w' g M s' := h.put ht (by simp)
theorem K1.box (h : K1 w0 w g M s) (o : Obj) : K1 w0 (w.alloc o) g M s := h.on ((Below.refl _ w).alloc (Nat.le_refl _) o)
theorem K1.start {b : Int} (hb : Below w0.heap.size w0 w) (hc : CallsAt w' (w.heap.size + 1) w.heap.size (CA.new b)) (hb2 : Below w.heap.size w w') : K1 w0 w' (w.heap.size + 1) w.heap.size (CA.new b) :=
  ⟨below_on hb hb2, hc, Nat.le_succ_of_le hb.size, hb.size⟩
/-- A block of cells that stands aside. -/
theorem far_of {t : TypeId} {cs : Array Value} {p : Nat} {F : List Nat} (hW : Whole w p t cs) (ht : Turned w g M F s' w') (hp : p ∉ F) : Whole w' p t cs := ht.2.whole hW hp
theorem blk_on {t : TypeId} {cs : Array Value} {p : Nat} (hW : Whole w p t cs) (hb : Below w.heap.size w w') : Whole w' p t cs := (Mod.of_below hb []).whole hW (by simp)
theorem K1.ne (h : K1 w0 w g M s) {t : TypeId} {cs : Array Value} {p : Nat} (hW : Whole w p t cs) (ht : t ≠ 54) : p ≠ g ∧ p ≠ M := by
  refine ⟨fun e => Whole.ne hW h.at_.cells ht e, fun e => ?_⟩
  subst e
  obtain ⟨es, c, hb, _⟩ := h.at_.map
  unfold Whole at hW
  rw [hb] at hW
  cases hW
theorem K1.far2 (h : K1 w0 w g M s) {t : TypeId} {cs : Array Value} {p : Nat} (hW : Whole w p t cs) (ht : t ≠ 54) (hT : Turned w g M [g, M] s' w') : Whole w' p t cs := hT.2.whole hW (by have := h.ne hW ht; simp; exact this)
theorem K1.far1 (h : K1 w0 w g M s) {t : TypeId} {cs : Array Value} {p : Nat} (hW : Whole w p t cs) (ht : t ≠ 54) (hT : Turned w g M [M] s' w') : Whole w' p t cs := hT.2.whole hW (by have := h.ne hW ht; simp; exact this.2)
end
theorem Again_any {w : World} {g M : Nat} {s : St} (h : CallsAt w g M s) (q : Int) : Calls Try.prog 11 #[.pointer (some ⟨g, 0, none⟩), .int .i64 q] w fun e w' => e = .returned (.tuple #[aggC (if CA.has s q then CA.more (CA.get s q) else CA.zero), .bool (CA.has s q)]) ∧ Turned w g M [M] (CA.again s q) w' := by
  cases hh : CA.has s q with
  | true => exact Again_yes h q hh
  | false =>
    refine (Again_no h q hh).mono fun e w' hp => ⟨hp.1, ?_⟩
    rw [CA.again_no hh]
    exact Turned.same h hp.2
theorem Close_any {w : World} {g M : Nat} {s : St} (h : CallsAt w g M s) (q : Int) : Calls Try.prog 10 #[.pointer (some ⟨g, 0, none⟩), .int .i64 q] w fun e w' => e = .returned (.tuple #[aggC (CA.get s q), .bool (CA.has s q)]) ∧ Turned w g M [M] (CA.close s q) w' := by
  cases hh : CA.has s q with
  | true => exact Close_yes h q hh
  | false =>
    refine (Close_no h q hh).mono fun e w' hp => ⟨by rw [CA.get_no hh]; exact hp.1, ?_⟩
    rw [CA.close_no hh]
    exact Turned.same h hp.2
/-! ### The document's examples -/
def acq : Cl := ⟨0, 0, 1, ⟨#[97]⟩, 1, 9, 0, false, 0, 0⟩
def vb4 : Cl := ⟨0, 0, 4, ⟨#[]⟩, 0, 0, 0, false, 0, 0⟩
theorem clw_acq : ClW acq := by constructor <;> first | (unfold In64 acq; decide) | (unfold acq; decide)
theorem clw_bad : ClW vb4 := by constructor <;> first | (unfold In64 vb4; decide) | (unfold vb4; decide)
set_option maxHeartbeats 1000000 in
theorem acquire_any (w : World) : Calls Try.prog 9 #[] w fun e w' => e = .returned (aggC acq) ∧ Below w.heap.size w w' := by
  have hz := fun w : World => Try.zeroValue32 w
  go_enter Try.func9, Try.ntmps9
  go_wp2_with fail
  change bodyPost Try.prog _ _ Exit.ret _ _
  refine bodyPost_ret (v := aggC acq) (by simp [results, Try.results9, go_sem, aggC, ten, acq]) rfl ?_
  exact ⟨rfl, (Below.refl w.heap.size w).alloc (Nat.le_refl _) _⟩
def aw1 : St := CA.start (CA.new 3) 10 acq
def aw2 : St := CA.again aw1 1
def aw3 : St := CA.close aw2 1
def awX : Cl := ⟨1, 0, 1, ⟨#[97]⟩, 1, 9, 0, false, 10, 2⟩
def awM : Msg := ⟨1, 2, 0, 3, 1, 1, 1, ⟨#[97]⟩, 1, 9, 0, false, 0, [], 0, 0⟩
theorem aw_given : CA.given (CA.new 3) 10 acq = 1 ∧ CA.fault (CA.new 3) 10 acq = 0 := by decide +kernel
theorem aw_ask : CA.ask aw1 2 1 = awM ∧ CA.asks aw1 2 1 = true := by decide +kernel
theorem aw_again : (if CA.has aw1 1 then CA.more (CA.get aw1 1) else CA.zero) = awX ∧ CA.has aw1 1 = true := by decide +kernel
theorem aw_bad : CA.fault aw2 10 vb4 = 22 ∧ CA.given aw2 10 vb4 = 0 := by decide +kernel
theorem aw_same : CA.start aw2 10 vb4 = aw2 := by unfold CA.start; rw [aw_bad.1]; rfl
theorem aw_low2 : CA.low aw2 = 1 := by decide +kernel
theorem aw_close : CA.get aw2 1 = awX ∧ CA.has aw2 1 = true := by decide +kernel
theorem aw_low3 : CA.low aw3 = 2 ∧ aw3.boot = 3 ∧ aw3.on = [] := by decide +kernel
end Go.Proofs.Ytnacchldecjcaaa
namespace Go.Proofs.Ytnacchldecjcaaa
open Go.RowKit
open CA (Cl St)
open WM (Msg)
set_option linter.unusedVariables false
set_option linter.unusedSimpArgs false
set_option maxRecDepth 100000
set_option maxHeartbeats 8000000 in
theorem awake_any (w : World) : Calls Try.prog 7 #[] w fun e w' => e = .returned (.bool true) ∧ Below w.heap.size w w' := by
  go_enter Try.func7, Try.ntmps7
  go_wp2_with fail
  refine (New_yes 3 w (by decide)).mono ?_
  rintro e w1 ⟨rfl, hc, hb, hs⟩
  have HS0 := Lib.hid (K1.start (Below.refl _ w) hc hb)
  generalize w.heap.size + 1 = g at HS0 ⊢
  generalize hM : w.heap.size = M at HS0
  have HMM := Lib.hid hM
  clear hc hb hs hM
  go_wp2_with fail
  refine (acquire_any w1).mono ?_
  rintro e w2 ⟨rfl, hb⟩
  have HS1 := Lib.hid (HS0.out.on hb)
  clear hb HS0
  go_wp2_with fail
  refine (Open_any HS1.out.at_ 10 acq clw_acq).mono ?_
  rintro e w3 ⟨rfl, ht⟩
  have HS2 := Lib.hid (show K1 w w3 g M aw1 from HS1.out.put2 ht)
  clear ht HS1
  rw [aw_given.1, aw_given.2]
  go_wp2_with fail
  refine (Ask_any HS2.out.at_ 2 1 (by unfold In64; decide)).mono ?_
  rintro e w4 ⟨rfl, hb⟩
  have HS3 := Lib.hid (HS2.out.on hb)
  clear hb HS2
  rw [aw_ask.1, aw_ask.2]
  have HS4 := Lib.hid (HS3.out.box (.cells (cellsM awM (.slice none 0 0)) 45))
  have HKM := Lib.hid (show MsgBlk (w4.alloc (.cells (cellsM awM (.slice none 0 0)) 45)) w4.heap.size awM (.slice none 0 0) from Whole.new w4 _ _)
  clear HS3
  rw [show cellsM awM (.slice none 0 0) = #[.int .i64 1, .int .i64 2, .int .i64 0, .int .i64 3, .int .i64 1, .int .i64 1, .int .i64 1, .string ⟨#[97]⟩, .int .i64 1, .int .i64 9, .int .i64 0, .bool false, .int .i64 0, .slice none 0 0, .int .i64 0, .int .i64 0] from rfl] at HS4 HKM ⊢
  go_wp2_with fail
  generalize w4.alloc _ = w5 at HS4 HKM ⊢
  generalize w4.heap.size = p at HKM ⊢
  refine (Again_any HS4.out.at_ 1).mono ?_
  rintro e w6 ⟨rfl, ht⟩
  have HS5 := Lib.hid (show K1 w w6 g M aw2 from HS4.out.put1 ht)
  have HKM5 := Lib.hid (show MsgBlk w6 p awM (.slice none 0 0) from HS4.out.far1 HKM.out (by decide) ht)
  clear ht HS4 HKM
  rw [aw_again.1, aw_again.2]
  have HS6 := Lib.hid (HS5.out.box (.cells (ten awX) 32))
  have HKM6 := Lib.hid (show MsgBlk (w6.alloc (.cells (ten awX) 32)) p awM (.slice none 0 0) from HKM5.out.alloc _)
  have HKX := Lib.hid (show ClBlk (w6.alloc (.cells (ten awX) 32)) w6.heap.size awX from Whole.new w6 _ _)
  clear HS5 HKM5
  unfold aggC
  rw [show ten awX = #[.int .i64 1, .int .i64 0, .int .i64 1, .string ⟨#[97]⟩, .int .i64 1, .int .i64 9, .int .i64 0, .bool false, .int .i64 10, .int .i64 2] from rfl] at HS6 HKM6 HKX ⊢
  go_wp2_with fail
  generalize w6.alloc _ = w7 at HS6 HKM6 HKX ⊢
  generalize w6.heap.size = r at HKX ⊢
  refine (Open_any HS6.out.at_ 10 vb4 clw_bad).mono ?_
  rintro e w8 ⟨rfl, ht⟩
  rw [aw_same] at ht
  rw [aw_bad.1, aw_bad.2]
  have HS7 := Lib.hid (show K1 w w8 g M aw2 from HS6.out.put2 ht)
  have HKM7 := Lib.hid (show MsgBlk w8 p awM (.slice none 0 0) from HS6.out.far2 HKM6.out (by decide) ht)
  have HKX7 := Lib.hid (show ClBlk w8 r awX from HS6.out.far2 HKX.out (by decide) ht)
  clear ht HS6 HKM6 HKX
  have k1 : w8.cell? ⟨p, 1, none⟩ = some (.int .i64 2) := HKM7.out.cell 1
  have k3 : w8.cell? ⟨p, 3, none⟩ = some (.int .i64 3) := HKM7.out.cell 3
  have k7 : w8.cell? ⟨p, 7, none⟩ = some (.string ⟨#[97]⟩) := HKM7.out.cell 7
  have x9 : w8.cell? ⟨r, 9, none⟩ = some (.int .i64 2) := HKX7.out.cell 9
  have x8 : w8.cell? ⟨r, 8, none⟩ = some (.int .i64 10) := HKX7.out.cell 8
  go_wp2_with fail
  clear k1 k3 k7 x9 x8
  refine (Low_any HS7.out.at_).mono ?_
  rintro e w9 ⟨rfl, hb⟩
  have HS8 := Lib.hid (HS7.out.on hb)
  clear hb HS7 HKM7 HKX7
  rw [aw_low2]
  go_wp2_with fail
  refine (Close_any HS8.out.at_ 1).mono ?_
  rintro e w10 ⟨rfl, ht⟩
  have HS9 := Lib.hid (show K1 w w10 g M aw3 from HS8.out.put1 ht)
  clear ht HS8
  rw [aw_close.1, aw_close.2]
  have HSA := Lib.hid (HS9.out.box (.cells (ten awX) 32))
  have HKA := Lib.hid (show ClBlk (w10.alloc (.cells (ten awX) 32)) w10.heap.size awX from Whole.new w10 _ _)
  clear HS9
  unfold aggC
  rw [show ten awX = #[.int .i64 1, .int .i64 0, .int .i64 1, .string ⟨#[97]⟩, .int .i64 1, .int .i64 9, .int .i64 0, .bool false, .int .i64 10, .int .i64 2] from rfl] at HSA HKA ⊢
  go_upto_region 11 with (fail)
  generalize w10.alloc _ = w11 at HSA HKA ⊢
  generalize w10.heap.size = r2 at HKA ⊢
  have x9 : w11.cell? ⟨r2, 9, none⟩ = some (.int .i64 2) := HKA.out.cell 9
  go_wp2_with fail
  clear x9
  refine (Low_any HSA.out.at_).mono ?_
  rintro e w12 ⟨rfl, hb⟩
  have HSB := Lib.hid (HSA.out.on hb)
  clear hb HSA HKA
  rw [aw_low3.1]
  go_wp2_with fail
  refine (Boot_any HSB.out.at_).mono ?_
  rintro e w13 ⟨rfl, rfl⟩
  rw [aw_low3.2.1]
  go_wp2_with fail
  refine (List_any HSB.out.at_).mono ?_
  rintro e w14 ⟨v, rfl, ho, hb⟩
  have HSC := Lib.hid (HSB.out.on hb)
  rw [aw_low3.2.2] at ho
  obtain ⟨A, c, rfl, _, _⟩ := own_shape ho
  clear hb ho HSB
  go_wp2_with fail
  go_ret
  exact ⟨rfl, HSC.out.below⟩
end Go.Proofs.Ytnacchldecjcaaa
