/- Packets and bags in memory. -/
import Derived.Test.YtnbfdgccaacdiaaBytes
namespace Go.Proofs.Ytnbfdgccaacdiaa
open Go.RowKit
open By (BytesAt u8s own_shape)
set_option linter.unusedVariables false
set_option linter.unusedSimpArgs false
set_option maxRecDepth 100000
structure Pk where
  frm : Int
  dst : Int
  d : List UInt8
  deriving DecidableEq
instance instPk : Inhabited Pk := ⟨⟨0, 0, []⟩⟩
/-- A packet's three cells; its bytes lie at A. -/
def three (p : Pk) (A : Option Addr) (c : Nat) : Array Value := #[.int .i64 p.frm, .int .i64 p.dst, .slice A p.d.length c]
def zero3 : Array Value := #[.int .i64 0, .int .i64 0, .slice none 0 0]
/-- A packet's bytes, in blocks of S. -/
structure Data (S : Nat → Prop) (w : World) (A : Option Addr) (d : List UInt8) : Prop where
  bytes : BytesAt w A d
  lt : 0 < d.length → ∀ ad, A = some ad → ad.block < w.heap.size ∧ S ad.block
section
variable {S S' : Nat → Prop} {w w' : World} {A : Option Addr} {d : List UInt8} {F : List Nat}
theorem Data.mod (h : Data S w A d) (hm : Mod F w w') (hF : ∀ x ∈ F, ¬ S x) : Data S w' A d :=
  ⟨fun h0 => (h.bytes.mod hm (fun ad e hf => hF _ hf (h.lt h0 ad e).2)) h0, fun h0 ad e => ⟨Nat.lt_of_lt_of_le (h.lt h0 ad e).1 hm.size, (h.lt h0 ad e).2⟩⟩
theorem Data.below (h : Data S w A d) (hb : Below w.heap.size w w') : Data S w' A d := h.mod (Mod.of_below hb []) (by simp)
theorem Data.mono (h : Data S w A d) (hS : ∀ x, x < w.heap.size → S x → S' x) : Data S' w A d := ⟨h.bytes, fun h0 ad e => ⟨(h.lt h0 ad e).1, hS _ (h.lt h0 ad e).1 (h.lt h0 ad e).2⟩⟩
theorem Data.own {b c : Nat} (h : w.ownsRow b 5 1 (.slice A d.length c) d.length (u8s d)) (hS : ∀ x, b ≤ x → x < w.heap.size → S x) : Data S w A d :=
  ⟨BytesAt.own h, fun _ ad e => by
    subst e
    have := h.lt ad.block rfl
    exact ⟨this.2, hS _ this.1 this.2⟩⟩
theorem Data.arg (h : BytesAt w A d) (hS : ∀ x, x < w.heap.size → S x) : Data S w A d :=
  ⟨h, fun h0 ad e => by
    obtain ⟨b, o, e1, hb, _⟩ := h h0
    rw [e] at e1
    injection e1 with e1
    subst e1
    exact ⟨hb, hS _ hb⟩⟩
theorem Data.nil : Data S w none [] := ⟨BytesAt.nil _ _, fun h0 => absurd h0 (Nat.lt_irrefl 0)⟩
theorem Data.text (h : Data S w A d) (c : Nat) : (convert 29 9 (.slice A d.length c)).run Try.prog w = .ok (.string ⟨d.toArray⟩) w := By.conv_of rfl h.bytes
end
/-- A packet lies in block b from cell o on. -/
def PkAt (S : Nat → Prop) (w : World) (b o : Nat) (p : Pk) : Prop :=
  ∃ A c, w.cell? ⟨b, o, none⟩ = some (.int .i64 p.frm) ∧ w.cell? ⟨b, o + 1, none⟩ = some (.int .i64 p.dst) ∧ w.cell? ⟨b, o + 2, none⟩ = some (.slice A p.d.length c) ∧ Data S w A p.d
/-- A list of packets, nil let in, in blocks of S. -/
def PksAt (S : Nat → Prop) (w : World) (B : Option Addr) (ps : List Pk) : Prop :=
  0 < ps.length → ∃ b o, B = some ⟨b, o, none⟩ ∧ b < w.heap.size ∧ S b ∧ ∀ j p, ps[j]? = some p → PkAt S w b (o + j * 3) p
section
variable {S S' : Nat → Prop} {w w' : World} {b o : Nat} {p : Pk} {F : List Nat} {B : Option Addr} {ps : List Pk}
theorem PkAt.mod (h : PkAt S w b o p) (hlt : b < w.heap.size) (hb : b ∉ F) (hm : Mod F w w') (hF : ∀ x ∈ F, ¬ S x) : PkAt S w' b o p := by
  obtain ⟨A, c, h0, h1, h2, h3⟩ := h
  exact ⟨A, c, (hm.cell (p := ⟨b, o, none⟩) hlt hb).trans h0, (hm.cell (p := ⟨b, o + 1, none⟩) hlt hb).trans h1, (hm.cell (p := ⟨b, o + 2, none⟩) hlt hb).trans h2, h3.mod hm hF⟩
theorem PkAt.mono (h : PkAt S w b o p) (hS : ∀ x, x < w.heap.size → S x → S' x) : PkAt S' w b o p := by
  obtain ⟨A, c, h0, h1, h2, h3⟩ := h
  exact ⟨A, c, h0, h1, h2, h3.mono hS⟩
theorem PksAt.nil : PksAt S w B [] := fun h => absurd h (Nat.lt_irrefl 0)
theorem PksAt.mod (h : PksAt S w B ps) (hm : Mod F w w') (hF : ∀ x ∈ F, ¬ S x) : PksAt S w' B ps := fun h0 => by
  obtain ⟨b, o, e, hlt, hs, hp⟩ := h h0
  exact ⟨b, o, e, Nat.lt_of_lt_of_le hlt hm.size, hs, fun j p hj => (hp j p hj).mod hlt (fun hb => hF _ hb hs) hm hF⟩
theorem PksAt.below (h : PksAt S w B ps) (hb : Below w.heap.size w w') : PksAt S w' B ps := h.mod (Mod.of_below hb []) (by simp)
theorem PksAt.mono (h : PksAt S w B ps) (hS : ∀ x, x < w.heap.size → S x → S' x) : PksAt S' w B ps := fun h0 => by
  obtain ⟨b, o, e, hlt, hs, hp⟩ := h h0
  exact ⟨b, o, e, hlt, hS _ hlt hs, fun j p hj => (hp j p hj).mono hS⟩
end
/-- The bag at block g holds these packets; it has sent s, and lost q. -/
structure BagAt (S : Nat → Prop) (w : World) (g : Nat) (ps : List Pk) (s q : Int) : Prop where
  ex : ∃ cs : Array Value, Whole w g 56 cs ∧ cs.size = 147 ∧ cs[144]? = some (.int .i64 (ps.length : Int)) ∧ cs[145]? = some (.int .i64 s) ∧ cs[146]? = some (.int .i64 q) ∧
    (∀ v ∈ cs.toList, v.oneCell' = true) ∧
    ∀ j p, ps[j]? = some p → ∃ A c, cs[j * 3]? = some (.int .i64 p.frm) ∧ cs[j * 3 + 1]? = some (.int .i64 p.dst) ∧ cs[j * 3 + 2]? = some (.slice A p.d.length c) ∧ Data S w A p.d
  le : ps.length ≤ 48
  self : ¬ S g
section
variable {S S' : Nat → Prop} {w w' : World} {g : Nat} {ps : List Pk} {s q : Int} {F : List Nat}
theorem BagAt.lt (h : BagAt S w g ps s q) : g < w.heap.size := by
  obtain ⟨cs, h1, _⟩ := h.ex
  exact h1.lt
theorem BagAt.mod (h : BagAt S w g ps s q) (hg : g ∉ F) (hm : Mod F w w') (hF : ∀ x ∈ F, ¬ S x) : BagAt S w' g ps s q := by
  obtain ⟨cs, h1, h2, h3, h4, h5, h6, h7⟩ := h.ex
  refine ⟨⟨cs, hm.whole h1 hg, h2, h3, h4, h5, h6, fun j p hj => ?_⟩, h.le, h.self⟩
  obtain ⟨A, c, k0, k1, k2, k3⟩ := h7 j p hj
  exact ⟨A, c, k0, k1, k2, k3.mod hm hF⟩
theorem BagAt.below (h : BagAt S w g ps s q) (hb : Below w.heap.size w w') : BagAt S w' g ps s q := h.mod (F := []) (by simp) (Mod.of_below hb []) (by simp)
theorem BagAt.mono (h : BagAt S w g ps s q) (hS : ∀ x, x < w.heap.size → S x → S' x) (hg : ¬ S' g) : BagAt S' w g ps s q := by
  obtain ⟨cs, h1, h2, h3, h4, h5, h6, h7⟩ := h.ex
  refine ⟨⟨cs, h1, h2, h3, h4, h5, h6, fun j p hj => ?_⟩, h.le, hg⟩
  obtain ⟨A, c, k0, k1, k2, k3⟩ := h7 j p hj
  exact ⟨A, c, k0, k1, k2, k3.mono hS⟩
theorem BagAt.pk (h : BagAt S w g ps s q) {j : Nat} {p : Pk} (hj : ps[j]? = some p) : PkAt S w g (j * 3) p := by
  obtain ⟨cs, h1, h2, h3, h4, h5, h6, h7⟩ := h.ex
  obtain ⟨A, c, k0, k1, k2, k3⟩ := h7 j p hj
  exact ⟨A, c, (h1.cell _).trans k0, (h1.cell _).trans k1, (h1.cell _).trans k2, k3⟩
theorem BagAt.nums (h : BagAt S w g ps s q) : w.cell? ⟨g, 144, none⟩ = some (.int .i64 (ps.length : Int)) ∧ w.cell? ⟨g, 145, none⟩ = some (.int .i64 s) ∧ w.cell? ⟨g, 146, none⟩ = some (.int .i64 q) := by
  obtain ⟨cs, h1, h2, h3, h4, h5, _⟩ := h.ex
  exact ⟨(h1.cell _).trans h3, (h1.cell _).trans h4, (h1.cell _).trans h5⟩
end
def bag0 : Array Value := ((List.replicate 48 zero3.toList).flatten ++ [Value.int .i64 0, Value.int .i64 0, Value.int .i64 0]).toArray
theorem bag0_at (w : World) {S : Nat → Prop} (hS : ¬ S w.heap.size) : BagAt S (w.alloc (.cells bag0 56)) w.heap.size [] 0 0 :=
  ⟨⟨bag0, Whole.new w _ _, by decide, by rfl, by rfl, by rfl, by decide, fun j p h => by simp at h⟩, by decide, hS⟩
set_option maxHeartbeats 1000000 in
theorem New_any (w : World) : Calls Try.prog 6 #[] w fun e w' => e = .returned (.pointer (some ⟨w.heap.size, 0, none⟩)) ∧ w' = w.alloc (.cells bag0 56) := by
  have hz : ∀ w, (zeroValue 56).run Try.prog w = .ok (.agg bag0) w := fun w => by kernel_rfl
  go_enter Try.func6, Try.ntmps6
  go_wp2_with fail
  go_ret
  exact ⟨rfl, rfl⟩
section
variable {S : Nat → Prop} {w : World} {g : Nat} {ps : List Pk} {s q : Int}
set_option maxHeartbeats 1000000 in
theorem Len_any (h : BagAt S w g ps s q) : Calls Try.prog 20 #[.pointer (some ⟨g, 0, none⟩)] w fun e w' => e = .returned (.int .i64 (ps.length : Int)) ∧ w = w' := by
  obtain ⟨h1, h2, h3⟩ := h.nums
  clear h h2 h3
  go_enter Try.func20, Try.ntmps20
  go_wp2_with fail
  go_ret
  exact ⟨rfl, rfl⟩
set_option maxHeartbeats 1000000 in
theorem Sent_any (h : BagAt S w g ps s q) : Calls Try.prog 21 #[.pointer (some ⟨g, 0, none⟩)] w fun e w' => e = .returned (.int .i64 s) ∧ w = w' := by
  obtain ⟨h1, h2, h3⟩ := h.nums
  clear h h1 h3
  go_enter Try.func21, Try.ntmps21
  go_wp2_with fail
  go_ret
  exact ⟨rfl, rfl⟩
set_option maxHeartbeats 1000000 in
theorem Lost_any (h : BagAt S w g ps s q) : Calls Try.prog 22 #[.pointer (some ⟨g, 0, none⟩)] w fun e w' => e = .returned (.int .i64 q) ∧ w = w' := by
  obtain ⟨h1, h2, h3⟩ := h.nums
  clear h h1 h2
  go_enter Try.func22, Try.ntmps22
  go_wp2_with fail
  go_ret
  exact ⟨rfl, rfl⟩
set_option maxHeartbeats 1000000 in
theorem has_yes (h : BagAt S w g ps s q) {k : Nat} (hk : k < ps.length) : Calls Try.prog 24 #[.pointer (some ⟨g, 0, none⟩), .int .i64 (k : Int)] w fun e w' => e = .returned (.bool true) ∧ w = w' := by
  have H := Lib.hid h; clear h
  go_enter Try.func24, Try.ntmps24
  go_wp2_with fail
  refine (Len_any H.out).mono ?_
  rintro e w1 ⟨rfl, rfl⟩
  go_wp2_with fail
  go_ret
  exact ⟨rfl, rfl⟩
set_option maxHeartbeats 1000000 in
theorem has_no (h : BagAt S w g ps s q) {k : Int} (hk : k < 0 ∨ (ps.length : Int) ≤ k) : Calls Try.prog 24 #[.pointer (some ⟨g, 0, none⟩), .int .i64 k] w fun e w' => e = .returned (.bool false) ∧ w = w' := by
  have H := Lib.hid h; clear h
  by_cases h0 : k < 0
  · have hd : decide (0 ≤ k) = false := by simp; omega
    go_enter Try.func24, Try.ntmps24
    go_wp2_with fail
    go_ret
    exact ⟨rfl, rfl⟩
  · have hd : decide (0 ≤ k) = true := by simp; omega
    have hd2 : decide (k < (ps.length : Int)) = false := by simp; omega
    clear hk
    go_enter Try.func24, Try.ntmps24
    go_wp2_with fail
    refine (Len_any H.out).mono ?_
    rintro e w1 ⟨rfl, rfl⟩
    go_wp2_with fail
    go_ret
    exact ⟨rfl, rfl⟩
end
/- A nil bag. -/
set_option maxHeartbeats 1000000 in
theorem Len_nil (w : World) : Calls Try.prog 20 #[.pointer none] w fun e w' => e = .returned (.int .i64 0) ∧ w = w' := by
  go_enter Try.func20, Try.ntmps20
  go_wp2_with fail
  go_ret
  exact ⟨rfl, rfl⟩
set_option maxHeartbeats 1000000 in
theorem Sent_nil (w : World) : Calls Try.prog 21 #[.pointer none] w fun e w' => e = .returned (.int .i64 0) ∧ w = w' := by
  go_enter Try.func21, Try.ntmps21
  go_wp2_with fail
  go_ret
  exact ⟨rfl, rfl⟩
set_option maxHeartbeats 1000000 in
theorem Lost_nil (w : World) : Calls Try.prog 22 #[.pointer none] w fun e w' => e = .returned (.int .i64 0) ∧ w = w' := by
  go_enter Try.func22, Try.ntmps22
  go_wp2_with fail
  go_ret
  exact ⟨rfl, rfl⟩
set_option maxHeartbeats 1000000 in
theorem has_nil (w : World) (k : Int) : Calls Try.prog 24 #[.pointer none, .int .i64 k] w fun e w' => e = .returned (.bool false) ∧ w = w' := by
  by_cases h0 : k < 0
  · have hd : decide (0 ≤ k) = false := by simp; omega
    go_enter Try.func24, Try.ntmps24
    go_wp2_with fail
    go_ret
    exact ⟨rfl, rfl⟩
  · have hd : decide (0 ≤ k) = true := by simp; omega
    have hd2 : decide (k < 0) = false := by simp; omega
    go_enter Try.func24, Try.ntmps24
    go_wp2_with fail
    refine (Len_nil w).mono ?_
    rintro e w1 ⟨rfl, rfl⟩
    go_wp2_with fail
    go_ret
    exact ⟨rfl, rfl⟩
end Go.Proofs.Ytnbfdgccaacdiaa
