/- Seen: all its ways. -/
import Derived.Test.YtbjemihcbbiiaaaRpW5a
import Derived.Test.YtbjemihcbbiiaaaRpW5b
import Derived.Test.YtbjemihcbbiiaaaRpW5c
namespace Go.Proofs.Ytbjemihcbbiiaaa
open Go.RowKit
open RP (Kp St)
open WM (Msg)
set_option linter.unusedVariables false
set_option linter.unusedSimpArgs false
set_option maxRecDepth 100000
section
variable {w : World} {g lo up : Nat} {s : St}
theorem Seen_ok (A : Option Addr) (c : Nat) (m : Msg) (h : RepAt w g lo up s) (hs : RP.Oks s) (hf : Fit w A c m) (ha : RP.askOk m = true) :
    Calls Try.prog 13 #[.pointer (some ⟨g, 0, none⟩), .agg (cellsM m (.slice A m.stamp.length c))] w (SeenPost w g lo up s m) := by
  cases hh : RP.has (RP.now s m).boot (RP.now s m).low m with
  | false => exact Seen_stale A c m h hs hf ha hh
  | true =>
    by_cases hq : (RP.pick (RP.now s m) m.seq).seq = m.seq
    · exact Seen_kept A c m h hs hf ha hh hq
    · exact Seen_new A c m h hs hf ha hh hq
end
end Go.Proofs.Ytbjemihcbbiiaaa
