/- One byte laid down by a writer: behind what there is, whether it has a page yet or not. -/
import Derived.Test.YtbjemihcbbiiaaaOctA
namespace Go.Proofs.Ytbjemihcbbiiaaa.Oct
open Go.RowKit
set_option maxRecDepth 100000
set_option maxHeartbeats 1000000 in
set_option maxRecDepth 100000 in
theorem lay_some (a p g0 cap0 : Nat) (c : UInt8) (L : List UInt8) (w : World) (hlen : L.length + 1 ≤ 140737488355328)
    (h1 : Whole w a 108 #[.pointer (some ⟨p, 0, none⟩), .int .i64 (L.length : Int)]) (h2 : Whole w p 128 #[.slice (some ⟨g0, 0, none⟩) L.length cap0])
    (h3 : w.ownsRow 0 5 1 (.slice (some ⟨g0, 0, none⟩) L.length cap0) L.length (u8s L)) :
    Calls Try.prog 88 #[.pointer (some ⟨a, 0, none⟩), u8 c] w fun e w' => e = .returned (.tuple #[]) ∧ Laid w a [a, p, g0] (L ++ [c]) w' := by
  obtain ⟨i0, hi, hz0, hz1, hz2⟩ := info_parts info_u8
  have a0 : w.cell? ⟨a, 0, none⟩ = some (.pointer (some ⟨p, 0, none⟩)) := h1.cell 0
  have a1 : w.cell? ⟨a, 1, none⟩ = some (.int .i64 (L.length : Int)) := h1.cell 1
  have p0 : w.cell? ⟨p, 0, none⟩ = some (.slice (some ⟨g0, 0, none⟩) L.length cap0) := h2.cell 0
  have H1 := Lib.hid h1; clear h1
  have H2 := Lib.hid h2; clear h2
  have H3 := Lib.hid h3; clear h3
  unfold u8
  go_enter Try.func88, Try.ntmps88
  go_wp2_with fail
  go_quiet (fail)
  have M3 : Mod [a, p, g0] w (w.drewN nq) := (Mod.refl _ _).drewN _
  have K1 := Lib.hid (H1.out.drewN nq)
  have K2 := Lib.hid (H2.out.drewN nq)
  have K3 : Hid ((w.drewN nq).ownsRow 0 5 1 (.slice (some ⟨g0, 0, none⟩) L.length cap0) L.length (u8s L)) := H3
  generalize w.drewN nq = w3 at M3 K1 K2 K3 ⊢
  clear a0 a1 p0 H1 H2 H3
  go_wp2_with fail
  have a0 : w3.cell? ⟨a, 0, none⟩ = some (.pointer (some ⟨p, 0, none⟩)) := K1.out.cell 0
  have p0 : w3.cell? ⟨p, 0, none⟩ = some (.slice (some ⟨g0, 0, none⟩) L.length cap0) := K2.out.cell 0
  have fp : w3.frozen? ⟨p, 0, none⟩ = false := K2.out.frozen 0
  have la := K1.out.lt
  have lp := K2.out.lt
  have hne : a ≠ p := K1.out.ne K2.out (by decide)
  have nga : ((.slice (some ⟨g0, 0, none⟩) L.length cap0) : Value).ownBlock ≠ some a := own_ne K3.out K1.out (by decide)
  have ngp : ((.slice (some ⟨g0, 0, none⟩) L.length cap0) : Value).ownBlock ≠ some p := own_ne K3.out K2.out (by decide)
  go_region_law (refine step_append_lies _ (by rfl) _ _ _ (by rfl) 0 5 i0 _ 1 1 Try.underlying88 hi hz0 hz1 hz2 rfl (by omega) (.slice (some ⟨g0, 0, none⟩) L.length cap0) L.length (u8s L) (by rfl) ((K3.out.alloc _).drew) ⟨w3.heap.size, 0, none⟩ 1 1 [u8 c] (by rfl) (by rfl) (World.news_of_block (cs := #[u8 c]) (t := 5) (fr := (0, 0)) (heap_alloc_new w3 _)) (by simp [u8, Value.oneCell']) (by omega) (by unfold maxLen; omega) (by omega) (Nat.zero_le _) (w3.heap.size + 1) (by simp) ?_; intro g cap w1 hown hgrow hat hlt; have W1 : Whole w1 a 108 #[.pointer (some ⟨p, 0, none⟩), .int .i64 ((L).length : Int)] := (hgrow.block a (by simp; omega) (Ne.symm nga)).trans ((((Mod.refl [] w3).alloc (.cells #[u8 c] 5)).drew).whole K1.out (by simp)); have W2 : Whole w1 p 128 #[(.slice (some ⟨g0, 0, none⟩) L.length cap0)] := (hgrow.block p (by simp; omega) (Ne.symm ngp)).trans ((((Mod.refl [] w3).alloc (.cells #[u8 c] 5)).drew).whole K2.out (by simp)); have b0 : w1.cell? ⟨a, 0, none⟩ = some (.pointer (some ⟨p, 0, none⟩)) := W1.cell 0; have b1 : w1.cell? ⟨a, 1, none⟩ = some (.int .i64 ((L).length : Int)) := W1.cell 1; have g1 : w1.frozen? ⟨a, 1, none⟩ = false := W1.frozen 1; have d0 : w1.cell? ⟨p, 0, none⟩ = some (.slice (some ⟨g0, 0, none⟩) L.length cap0) := W2.cell 0; have d1 : w1.frozen? ⟨p, 0, none⟩ = false := W2.frozen 0; have V1 := Lib.hid W1; clear W1; have V2 := Lib.hid W2; clear W2)
  all_goals
    go_wp2
    go_end0
    exact ⟨rfl, laid_of (L := L) (v := (.slice (some ⟨g0, 0, none⟩) L.length cap0)) M3 (by simp) (.inl (by simp)) (fun k hk => by cases hk; exact .inl (by simp)) V1.out V2.out hown hgrow hat hne⟩
end Go.Proofs.Ytbjemihcbbiiaaa.Oct
