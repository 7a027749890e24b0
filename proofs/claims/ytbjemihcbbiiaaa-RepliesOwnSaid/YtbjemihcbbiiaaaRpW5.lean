/- What has become of a request: Seen. -/
import Derived.Test.YtbjemihcbbiiaaaRpW3
namespace Go.Proofs.Ytbjemihcbbiiaaa
open Go.RowKit
open RP (Kp St)
open WM (Msg)
set_option linter.unusedVariables false
set_option linter.unusedSimpArgs false
set_option maxRecDepth 100000
theorem set16 (w : World) (b : Nat) (v0 v1 v2 v3 v4 v5 v6 v7 v8 v9 v10 v11 v12 v13 v14 v15 : Value) : ((((((((((((((((w.setCell ⟨b, 0, none⟩ v0).setCell ⟨b, 1, none⟩ v1).setCell ⟨b, 2, none⟩ v2).setCell ⟨b, 3, none⟩ v3).setCell ⟨b, 4, none⟩ v4).setCell ⟨b, 5, none⟩ v5).setCell ⟨b, 6, none⟩ v6).setCell ⟨b, 7, none⟩ v7).setCell ⟨b, 8, none⟩ v8).setCell ⟨b, 9, none⟩ v9).setCell ⟨b, 10, none⟩ v10).setCell ⟨b, 11, none⟩ v11).setCell ⟨b, 12, none⟩ v12).setCell ⟨b, 13, none⟩ v13).setCell ⟨b, 14, none⟩ v14).setCell ⟨b, 15, none⟩ v15) = w.setCells b 0 [v0, v1, v2, v3, v4, v5, v6, v7, v8, v9, v10, v11, v12, v13, v14, v15] := rfl
/-- What a function answers: a number, and a message that lies in a box. -/
theorem results_tc {fn : Func} {t u : Tmp} {ty : TypeId} {tmps : Array Value} {P : Program} {w : World} {v x : Value} {ad : Addr} (h : fn.results = #[.tmp t, .cell u ty]) (h1 : tmps.getD t undef = v) (h2 : tmps.getD u undef = .pointer (some ad))
    (hl : (loadVar ty ad).run P w = .ok x w) : (results fn tmps).run P w = .ok (.tuple #[v, x]) w := by
  have h1' : tmps[t]?.getD undef = v := by rw [← h1]; simp
  have h2' : tmps[u]?.getD undef = .pointer (some ad) := by rw [← h2]; simp
  have ha : (asAddr (.pointer (some ad))).run P w = .ok ad w := rfl
  simp [results, h, h1', h2', ha, hl]
def SeenPost (w : World) (g lo up : Nat) (s : St) (m : Msg) (e : Ending) (w' : World) : Prop :=
  ∃ A c, e = .returned (.tuple #[.int .i64 (RP.verdict s m), .agg (cellsM (RP.answer s m) (.slice A (RP.answer s m).stamp.length c))]) ∧ Hid (Fit w' A c (RP.answer s m)) ∧
    Hid (w'.ownsRow w.heap.size 3 1 (.slice A (RP.answer s m).stamp.length c) (RP.answer s m).stamp.length (i64s (RP.answer s m).stamp)) ∧ Hid (RepAt w' g lo up (RP.seenSt s m)) ∧ Hid (Mod [g] w w')
end Go.Proofs.Ytbjemihcbbiiaaa
