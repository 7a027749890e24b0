/- The rest of the document's own answers on paths (package subletref01), and the statements' helper that holds two lists against each other. -/
import Derived.Test.YtpfljooceppcbaaDoorPathsW3
namespace Go.Proofs.YtpfljooceppcbaaDoor
open Go.RowKit
set_option maxRecDepth 100000
open PM (str)

theorem below_drewN {B : Nat} {a w : World} (h : Below B a w) (n : Nat) : Below B a (w.drewN n) := ⟨h.os, h.tape, h.output, h.size, h.block⟩

section
variable (s : ByteArray) (w : World) (hs : s.size ≤ 140737488351232)
include hs
end

/-! ### same -/
/-! ### Join, by definition -/
theorem jn_snoc (xs : List (List UInt8)) (x : List UInt8) (h : xs ≠ []) : PM.jn (xs ++ [x]) = PM.jn xs ++ 47 :: x := by
  rw [PM.jn_app xs [x] h (by simp)]
  have : PM.jn [x] = x := Lib.join_one x [47]
  rw [this]
theorem jn_one (x : List UInt8) : PM.jn ([] ++ [x]) = x := Lib.join_one x [47]

theorem data_app (a b : ByteArray) : (a ++ b).data.toList = a.data.toList ++ b.data.toList := by simp
theorem size_app (a b : ByteArray) : (a ++ b).size = a.size + b.size := by simp

/-! ### Covers, by definition -/
theorem take_prefix {xs ys : List (List UInt8)} (h : xs = ys.take xs.length) : xs <+: ys := by
  rw [h]; exact List.take_prefix _ _
theorem prefix_take {xs ys : List (List UInt8)} (h : xs <+: ys) : xs = ys.take xs.length := List.prefix_iff_eq_take.1 h

section
variable (p q : ByteArray) (w : World) (hp : p.size ≤ 140737488351232) (hq : q.size ≤ 140737488351232)
include hp hq
end

/-! ### Compare, byte by byte -/
theorem cmp_lt {p q : ByteArray} {k : Nat} (hp : k < p.size) (hq : k < q.size) (H : Hid (PM.cmp p.data.toList q.data.toList = PM.cmp (rest p k) (rest q k))) (h : p[k].toNat < q[k].toNat) : PM.cmp p.data.toList q.data.toList = -1 := by
  rw [H.out, rest_cons p k hp, rest_cons q k hq, PM.cmp_cons, if_pos (by rw [UInt8.lt_iff_toNat_lt]; exact h)]
theorem cmp_gt {p q : ByteArray} {k : Nat} (hp : k < p.size) (hq : k < q.size) (H : Hid (PM.cmp p.data.toList q.data.toList = PM.cmp (rest p k) (rest q k))) (h : q[k].toNat < p[k].toNat) : PM.cmp p.data.toList q.data.toList = 1 := by
  rw [H.out, rest_cons p k hp, rest_cons q k hq, PM.cmp_cons, if_neg (by rw [UInt8.lt_iff_toNat_lt]; omega), if_pos (by rw [UInt8.lt_iff_toNat_lt]; exact h)]
theorem cmp_same {p q : ByteArray} {k : Nat} (hp : k < p.size) (hq : k < q.size) (H : Hid (PM.cmp p.data.toList q.data.toList = PM.cmp (rest p k) (rest q k))) (h : p[k].toNat = q[k].toNat) :
    Hid (PM.cmp p.data.toList q.data.toList = PM.cmp (rest p (k + 1)) (rest q (k + 1))) :=
  Lib.hid (by rw [H.out, rest_cons p k hp, rest_cons q k hq, PM.cmp_cons, if_neg (by rw [UInt8.lt_iff_toNat_lt]; omega), if_neg (by rw [UInt8.lt_iff_toNat_lt]; omega)])
theorem rest_ne {s : ByteArray} {k : Nat} (h : k < s.size) : ∃ c r, rest s k = c :: r := ⟨_, _, rest_cons s k h⟩
theorem rest_over {s : ByteArray} {k : Nat} (h : s.size ≤ k) : rest s k = [] := by
  unfold rest
  apply List.drop_of_length_le
  rw [len_toList]; exact h

end Go.Proofs.YtpfljooceppcbaaDoor
