/- One byte laid down by a writer: behind what there is, whether it has a page yet or not. -/
import Derived.Test.YtbjemihcbbiiaaaOctA
namespace Go.Proofs.Ytbjemihcbbiiaaa.Oct
open Go.RowKit
set_option maxRecDepth 100000
theorem Bytes_none (a : Nat) (w : World) (h : Whole w a 108 #[.pointer none, .int .i64 0]) :
    Calls Try.prog 67 #[.pointer (some ⟨a, 0, none⟩)] w fun e w' => e = .returned (.slice none 0 0) ∧ w = w' := by
  have h0 : w.cell? ⟨a, 0, none⟩ = some (.pointer none) := h.cell 0
  go_enter Try.func67, Try.ntmps67
  go_wp2
  go_ret
  exact ⟨rfl, rfl⟩
set_option maxHeartbeats 1000000 in
set_option maxRecDepth 100000 in
theorem lay_none (a : Nat) (c : UInt8) (w : World) (h : Whole w a 108 #[.pointer none, .int .i64 0]) :
    Calls Try.prog 88 #[.pointer (some ⟨a, 0, none⟩), u8 c] w fun e w' => e = .returned (.tuple #[]) ∧ Laid w a [a] [c] w' := by
  obtain ⟨i0, hi, hz0, hz1, hz2⟩ := info_parts info_u8
  have h0 : w.cell? ⟨a, 0, none⟩ = some (.pointer none) := h.cell 0
  have H := Lib.hid h; clear h
  unfold u8
  go_enter Try.func88, Try.ntmps88
  go_wp2_with fail
  go_quiet (fail)
  have M0 : Mod [a] w (w.drewN nq) := (Mod.refl _ _).drewN _
  have H0 := Lib.hid (H.out.drewN nq)
  generalize w.drewN nq = wd at M0 H0 ⊢
  clear h0 H
  go_wp2_with (go_at_call 67; refine (Bytes_none a _ H0.out).mono ?_; rintro e w' ⟨rfl, rfl⟩
               have h0 : wd.cell? ⟨a, 0, none⟩ = some (.pointer none) := H0.out.cell 0
               have f0 : wd.frozen? ⟨a, 0, none⟩ = false := H0.out.frozen 0
               have ha := H0.out.lt)
  have M3 : Mod [a] w ((wd.setCell ⟨a, 0, none⟩ (.pointer (some ⟨wd.heap.size, 0, none⟩))).alloc (.cells #[.slice none 0 0] 128)) := (M0.store (.inl (by simp)) _).alloc _
  have K1 := Lib.hid ((Mod.refl [] _).alloc (Obj.cells #[.slice none 0 0] 128) |>.whole (H0.out.store 0 (.pointer (some ⟨wd.heap.size, 0, none⟩))) (by simp))
  have K2 := Lib.hid (Whole.new (wd.setCell ⟨a, 0, none⟩ (.pointer (some ⟨wd.heap.size, 0, none⟩))) 128 #[.slice none 0 0])
  simp only [World.size_setCell] at K2
  have N0 : w.heap.size ≤ wd.heap.size := M0.size
  clear h0 f0 ha H0 M0
  generalize (wd.setCell ⟨a, 0, none⟩ (.pointer (some ⟨wd.heap.size, 0, none⟩))).alloc (.cells #[.slice none 0 0] 128) = w3 at M3 K1 K2 ⊢
  have K3 := Lib.hid (World.ownsRow_nil w3 0 5 1)
  generalize wd.heap.size = p at K1 K2 N0 ⊢
  have a0 : w3.cell? ⟨a, 0, none⟩ = some (.pointer (some ⟨p, 0, none⟩)) := K1.out.cell 0
  have p0 : w3.cell? ⟨p, 0, none⟩ = some (.slice none 0 0) := K2.out.cell 0
  have fp : w3.frozen? ⟨p, 0, none⟩ = false := K2.out.frozen 0
  have la := K1.out.lt
  have hlen : (([] : List UInt8)).length + 1 ≤ 140737488355328 := by simp
  have lp := K2.out.lt
  have hne : a ≠ p := K1.out.ne K2.out (by decide)
  have nga : ((.slice none 0 0) : Value).ownBlock ≠ some a := own_ne K3.out K1.out (by decide)
  have ngp : ((.slice none 0 0) : Value).ownBlock ≠ some p := own_ne K3.out K2.out (by decide)
  go_region_law (refine step_append_lies _ (by rfl) _ _ _ (by rfl) 0 5 i0 _ 1 1 Try.underlying88 hi hz0 hz1 hz2 rfl (by omega) (.slice none 0 0) ([] : List UInt8).length (u8s ([] : List UInt8)) (by rfl) ((K3.out.alloc _).drew) ⟨w3.heap.size, 0, none⟩ 1 1 [u8 c] (by rfl) (by rfl) (World.news_of_block (cs := #[u8 c]) (t := 5) (fr := (0, 0)) (heap_alloc_new w3 _)) (by simp [u8, Value.oneCell']) (by omega) (by unfold maxLen; omega) (by omega) (Nat.zero_le _) (w3.heap.size + 1) (by simp) ?_; intro g cap w1 hown hgrow hat hlt; have W1 : Whole w1 a 108 #[.pointer (some ⟨p, 0, none⟩), .int .i64 ((([] : List UInt8)).length : Int)] := (hgrow.block a (by simp; omega) (Ne.symm nga)).trans ((((Mod.refl [] w3).alloc (.cells #[u8 c] 5)).drew).whole K1.out (by simp)); have W2 : Whole w1 p 128 #[(.slice none 0 0)] := (hgrow.block p (by simp; omega) (Ne.symm ngp)).trans ((((Mod.refl [] w3).alloc (.cells #[u8 c] 5)).drew).whole K2.out (by simp)); have b0 : w1.cell? ⟨a, 0, none⟩ = some (.pointer (some ⟨p, 0, none⟩)) := W1.cell 0; have b1 : w1.cell? ⟨a, 1, none⟩ = some (.int .i64 ((([] : List UInt8)).length : Int)) := W1.cell 1; have g1 : w1.frozen? ⟨a, 1, none⟩ = false := W1.frozen 1; have d0 : w1.cell? ⟨p, 0, none⟩ = some (.slice none 0 0) := W2.cell 0; have d1 : w1.frozen? ⟨p, 0, none⟩ = false := W2.frozen 0; have V1 := Lib.hid W1; clear W1; have V2 := Lib.hid W2; clear W2)
  all_goals
    go_wp2
    go_end0
    exact ⟨rfl, laid_of (L := ([] : List UInt8)) (v := (.slice none 0 0)) M3 (by simp) (.inr N0) (fun k hk => by cases hk) V1.out V2.out hown hgrow hat hne⟩
end Go.Proofs.Ytbjemihcbbiiaaa.Oct
