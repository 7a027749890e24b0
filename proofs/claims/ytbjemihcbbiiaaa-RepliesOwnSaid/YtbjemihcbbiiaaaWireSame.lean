/- Whether two messages are one: the package's call of layer 6. -/
import Derived.Test.YtbjemihcbbiiaaaWireN1
import Derived.Test.YtbjemihcbbiiaaaWireN2
import Derived.Test.YtbjemihcbbiiaaaWireN3
import Derived.Test.YtbjemihcbbiiaaaWireN4
import Derived.Test.YtbjemihcbbiiaaaWireN5
namespace Go.Proofs.Ytbjemihcbbiiaaa
open Go.RowKit
open WM (Msg)
set_option linter.unusedVariables false
set_option maxRecDepth 100000
theorem Same_any (A B : Option Addr) (c d : Nat) (a b : Msg) (w : World) (hA : IntsAt w A a.stamp) (hB : IntsAt w B b.stamp) (ha : a.stamp.length ≤ c) (hb : b.stamp.length ≤ d) (hc : c ≤ 9223372036854775807) (hd : d ≤ 9223372036854775807) :
    Calls Try.prog 34 #[.agg (cellsM a (.slice A a.stamp.length c)), .agg (cellsM b (.slice B b.stamp.length d))] w fun e w' => e = .returned (.bool (decide (a = b))) ∧ Below w.heap.size w w' := by
  by_cases h : a = b
  · subst h
    exact (Same_self A B c d a w hA hB ha hb hc hd).mono fun e w' k => ⟨by rw [k.1, decide_eq_true rfl], k.2⟩
  · rw [decide_eq_false h]
    by_cases e0 : a.kind = b.kind
    rotate_left
    · exact Same_no0 A B c d a b w hA hB ha hb hc hd  e0
    by_cases e1 : a.frm = b.frm
    rotate_left
    · exact Same_no1 A B c d a b w hA hB ha hb hc hd e0 e1
    by_cases e2 : a.dst = b.dst
    rotate_left
    · exact Same_no2 A B c d a b w hA hB ha hb hc hd e0 e1 e2
    by_cases e3 : a.boot = b.boot
    rotate_left
    · exact Same_no3 A B c d a b w hA hB ha hb hc hd e0 e1 e2 e3
    by_cases e4 : a.seq = b.seq
    rotate_left
    · exact Same_no4 A B c d a b w hA hB ha hb hc hd e0 e1 e2 e3 e4
    by_cases e5 : a.low = b.low
    rotate_left
    · exact Same_no5 A B c d a b w hA hB ha hb hc hd e0 e1 e2 e3 e4 e5
    by_cases e6 : a.verb = b.verb
    rotate_left
    · exact Same_no6 A B c d a b w hA hB ha hb hc hd e0 e1 e2 e3 e4 e5 e6
    by_cases e7 : a.path = b.path
    rotate_left
    · exact Same_no7 A B c d a b w hA hB ha hb hc hd e0 e1 e2 e3 e4 e5 e6 e7
    by_cases e8 : a.mode = b.mode
    rotate_left
    · exact Same_no8 A B c d a b w hA hB ha hb hc hd e0 e1 e2 e3 e4 e5 e6 e7 e8
    by_cases e9 : a.term = b.term
    rotate_left
    · exact Same_no9 A B c d a b w hA hB ha hb hc hd e0 e1 e2 e3 e4 e5 e6 e7 e8 e9
    by_cases e10 : a.id = b.id
    rotate_left
    · exact Same_no10 A B c d a b w hA hB ha hb hc hd e0 e1 e2 e3 e4 e5 e6 e7 e8 e9 e10
    by_cases e11 : a.fresh = b.fresh
    rotate_left
    · exact Same_no11 A B c d a b w hA hB ha hb hc hd e0 e1 e2 e3 e4 e5 e6 e7 e8 e9 e10 e11
    by_cases e12 : a.code = b.code
    rotate_left
    · exact Same_no12 A B c d a b w hA hB ha hb hc hd e0 e1 e2 e3 e4 e5 e6 e7 e8 e9 e10 e11 e12
    by_cases e13 : a.stamp = b.stamp
    rotate_left
    · exact Same_no13 A B c d a b w hA hB ha hb hc hd e0 e1 e2 e3 e4 e5 e6 e7 e8 e9 e10 e11 e12 e13
    by_cases e14 : a.origin = b.origin
    rotate_left
    · exact Same_no14 A B c d a b w hA hB ha hb hc hd e0 e1 e2 e3 e4 e5 e6 e7 e8 e9 e10 e11 e12 e13 e14
    by_cases e15 : a.number = b.number
    rotate_left
    · exact Same_no15 A B c d a b w hA hB ha hb hc hd e0 e1 e2 e3 e4 e5 e6 e7 e8 e9 e10 e11 e12 e13 e14 e15
    exact absurd (by cases a; cases b; simp_all) h
end Go.Proofs.Ytbjemihcbbiiaaa
