/- The law's awake: calls whose answers the document fixes. -/
import Derived.Test.YtkgipdhbaiaaeaaAgW8
namespace Go.Proofs.Ytkgipdhbaiaaeaa
open Go.RowKit Go.Sort
open AM (It HS g sw)
set_option linter.unusedVariables false
set_option linter.unusedSimpArgs false
set_option maxRecDepth 100000
/-- An agenda of the law's own, and boxes with items. -/
structure St1 (w0 w : World) (b : Nat) (L : List It) (Bs : List (Nat × It)) : Prop where
  below : Below w0.heap.size w0 w
  ag : AgAt w b L
  bx : ∀ p ∈ Bs, Whole w p.1 29 (three p.2)
  fresh : w0.heap.size ≤ b
section
variable {w0 w w' : World} {b : Nat} {L L' : List It} {Bs : List (Nat × It)}
theorem St1.on (h : St1 w0 w b L Bs) (hb : Below w.heap.size w w') : St1 w0 w' b L Bs := ⟨below_on h.below hb, h.ag.below hb, fun p hp => (Mod.of_below hb []).whole (h.bx p hp) (by simp), h.fresh⟩
theorem AgAt.ne (h : AgAt w b L) {p : Nat} {cs : Array Value} (hp : Whole w p 29 cs) : p ≠ b := by
  obtain ⟨hh, h1, _⟩ := h
  exact fun e => Whole.ne h1.whole hp (by decide) e.symm
theorem St1.put (h : St1 w0 w b L Bs) (ha : AgAt w' b L') (hm : Mod [b] w w') : St1 w0 w' b L' Bs :=
  ⟨h.below.trans (hm.below h.below.size (by simpa using h.fresh)), ha, fun p hp => hm.whole (h.bx p hp) (by simpa using h.ag.ne (h.bx p hp)), h.fresh⟩
theorem St1.box (h : St1 w0 w b L Bs) (x : It) : St1 w0 (w.alloc (.cells (three x) 29)) b L ((w.heap.size, x) :: Bs) :=
  ⟨h.below.alloc h.below.size _, h.ag.below ((Below.refl _ w).alloc (Nat.le_refl _) _), fun p hp => by
    rcases List.mem_cons.1 hp with rfl | hp
    · exact Whole.new w _ _
    · exact (h.bx p hp).alloc _, h.fresh⟩
theorem St1.start (w : World) : St1 w (w.alloc (.cells ag0 59)) w.heap.size [] [] := ⟨(Below.refl _ w).alloc (Nat.le_refl _) _, AgAt.new w, by simp, Nat.le_refl _⟩
theorem St1.cells (h : St1 w0 w b L Bs) {p : Nat} {x : It} (hp : (p, x) ∈ Bs) : w.cell? ⟨p, 0, none⟩ = some (.int .i64 x.due) ∧ w.cell? ⟨p, 1, none⟩ = some (.int .i64 x.kind) ∧ w.cell? ⟨p, 2, none⟩ = some (.int .i64 x.key) := three_cells (h.bx _ hp)
end
theorem Put_says {w : World} {b : Nat} {L L' : List It} {x : It} {r : Int} (H : AgAt w b L) (hp : AM.put L x = (L', r)) : Calls Try.prog 10 #[.pointer (some ⟨b, 0, none⟩), .agg #[.int .i64 x.due, .int .i64 x.kind, .int .i64 x.key]] w fun e w' => e = .returned (.int .i64 r) ∧ AgAt w' b L' ∧ Mod [b] w w' := by
  refine (Put_any H x).mono ?_
  rintro e w' ⟨rfl, h1, h2⟩
  rw [hp] at h1 ⊢
  exact ⟨rfl, h1, h2⟩
set_option maxHeartbeats 8000000 in
theorem awake_any (w : World) : Calls Try.prog 9 #[] w fun e w' => e = .returned (.bool true) ∧ Below w.heap.size w w' := by
  have HS0 := Lib.hid (St1.start w)
  go_enter Try.func9, Try.ntmps9
  go_wp2_with fail
  refine (New_any w).mono ?_
  rintro e w1 ⟨rfl, e1⟩
  rw [← e1] at HS0
  clear e1
  go_wp2_with fail
  refine (Put_says (L := []) (L' := [⟨9, 1, 5⟩]) (x := ⟨9, 1, 5⟩) (r := 0) HS0.out.ag (by decide)).mono ?_
  rintro e w2 ⟨rfl, ha, hm⟩
  have HS1 := Lib.hid (HS0.out.put ha hm)
  clear ha hm HS0
  go_wp2_with fail
  refine (Put_says (L := [⟨9, 1, 5⟩]) (L' := [⟨3, 2, 1⟩, ⟨9, 1, 5⟩]) (x := ⟨3, 2, 1⟩) (r := 0) HS1.out.ag (by decide)).mono ?_
  rintro e w3 ⟨rfl, ha, hm⟩
  have HS2 := Lib.hid (HS1.out.put ha hm)
  clear ha hm HS1
  go_wp2_with fail
  refine (Put_says (L := [⟨3, 2, 1⟩, ⟨9, 1, 5⟩]) (L' := [⟨3, 1, 7⟩, ⟨3, 2, 1⟩, ⟨9, 1, 5⟩]) (x := ⟨3, 1, 7⟩) (r := 0) HS2.out.ag (by decide)).mono ?_
  rintro e w4 ⟨rfl, ha, hm⟩
  have HS3 := Lib.hid (HS2.out.put ha hm)
  clear ha hm HS2
  go_wp2_with fail
  refine (First_any (L := [⟨3, 1, 7⟩, ⟨3, 2, 1⟩, ⟨9, 1, 5⟩]) HS3.out.ag).mono ?_
  rintro e w5 ⟨hb, rfl⟩
  unfold tup agg
  have HS4 := Lib.hid (HS3.out.on hb)
  clear hb HS3
  have HS5 := Lib.hid (HS4.out.box ⟨3, 1, 7⟩)
  clear HS4
  unfold three at HS5
  go_wp2_with fail
  generalize hp : w5.heap.size = p5 at HS5 ⊢
  clear hp
  generalize w5.alloc (.cells #[.int .i64 3, .int .i64 1, .int .i64 7] 29) = w6 at HS5 ⊢
  go_wp2_with fail
  refine (Take_any (L := [⟨3, 1, 7⟩, ⟨3, 2, 1⟩, ⟨9, 1, 5⟩]) HS5.out.ag 2).mono ?_
  rintro e w7 ⟨rfl, ha, hm⟩
  have ha2 : AgAt w7 w.heap.size [⟨3, 1, 7⟩, ⟨3, 2, 1⟩, ⟨9, 1, 5⟩] := ha
  clear ha
  have ha := ha2
  clear ha2
  have ev : tkV [⟨3, 1, 7⟩, ⟨3, 2, 1⟩, ⟨9, 1, 5⟩] 2 = tup itz false := by rfl
  rw [ev]
  clear ev
  unfold tup agg itz
  have HS6 := Lib.hid (HS5.out.put ha hm)
  clear ha hm HS5
  have HS7 := Lib.hid (HS6.out.box ⟨0, 0, 0⟩)
  clear HS6
  unfold three at HS7
  go_wp2_with fail
  generalize hp : w7.heap.size = p7 at HS7 ⊢
  clear hp
  generalize w7.alloc (.cells #[.int .i64 0, .int .i64 0, .int .i64 0] 29) = w8 at HS7 ⊢
  go_wp2_with fail
  refine (Take_any (L := [⟨3, 1, 7⟩, ⟨3, 2, 1⟩, ⟨9, 1, 5⟩]) HS7.out.ag 5).mono ?_
  rintro e w9 ⟨rfl, ha, hm⟩
  have ha2 : AgAt w9 w.heap.size [⟨3, 2, 1⟩, ⟨9, 1, 5⟩] := ha
  clear ha
  have ha := ha2
  clear ha2
  have ev : tkV [⟨3, 1, 7⟩, ⟨3, 2, 1⟩, ⟨9, 1, 5⟩] 5 = tup ⟨3, 1, 7⟩ true := by rfl
  rw [ev]
  clear ev
  unfold tup agg 
  have HS8 := Lib.hid (HS7.out.put ha hm)
  clear ha hm HS7
  have HS9 := Lib.hid (HS8.out.box ⟨3, 1, 7⟩)
  clear HS8
  unfold three at HS9
  go_wp2_with fail
  generalize hp : w9.heap.size = p9 at HS9 ⊢
  clear hp
  generalize w9.alloc (.cells #[.int .i64 3, .int .i64 1, .int .i64 7] 29) = w10 at HS9 ⊢
  go_wp2_with fail
  refine (Take_any (L := [⟨3, 2, 1⟩, ⟨9, 1, 5⟩]) HS9.out.ag 5).mono ?_
  rintro e w11 ⟨rfl, ha, hm⟩
  have ha2 : AgAt w11 w.heap.size [⟨9, 1, 5⟩] := ha
  clear ha
  have ha := ha2
  clear ha2
  have ev : tkV [⟨3, 2, 1⟩, ⟨9, 1, 5⟩] 5 = tup ⟨3, 2, 1⟩ true := by rfl
  rw [ev]
  clear ev
  unfold tup agg 
  have HS10 := Lib.hid (HS9.out.put ha hm)
  clear ha hm HS9
  have HS11 := Lib.hid (HS10.out.box ⟨3, 2, 1⟩)
  clear HS10
  unfold three at HS11
  go_wp2_with fail
  generalize hp : w11.heap.size = p11 at HS11 ⊢
  clear hp
  generalize w11.alloc (.cells #[.int .i64 3, .int .i64 2, .int .i64 1] 29) = w12 at HS11 ⊢
  go_wp2_with fail
  refine (Get_any (L := [⟨9, 1, 5⟩]) HS11.out.ag 1 5).mono ?_
  rintro e w13 ⟨hb, hg⟩
  have hv : e = .returned (tup ⟨9, 1, 5⟩ true) := by
    rcases hg with ⟨h1, _⟩ | ⟨x, h1, _, _, h4⟩
    · exact absurd h1 (by decide)
    · rw [List.mem_singleton.1 h1] at h4; exact h4
  subst hv
  clear hg
  unfold tup agg
  have HS12 := Lib.hid (HS11.out.on hb)
  clear hb HS11
  have HS13 := Lib.hid (HS12.out.box ⟨9, 1, 5⟩)
  clear HS12
  unfold three at HS13
  obtain ⟨-, -, f2⟩ := HS13.out.cells (p := p5) (x := ⟨3, 1, 7⟩) (by simp)
  obtain ⟨-, -, x2⟩ := HS13.out.cells (p := p9) (x := ⟨3, 1, 7⟩) (by simp)
  obtain ⟨-, y1, -⟩ := HS13.out.cells (p := p11) (x := ⟨3, 2, 1⟩) (by simp)
  obtain ⟨g0, -, -⟩ := HS13.out.cells (p := w13.heap.size) (x := ⟨9, 1, 5⟩) (by simp)
  simp only [] at f2 x2 y1 g0
  go_wp2_with fail
  clear f2 x2 y1 g0
  generalize hp : w13.heap.size = p13 at HS13 ⊢
  clear hp
  generalize w13.alloc (.cells #[.int .i64 9, .int .i64 1, .int .i64 5] 29) = w14 at HS13 ⊢
  obtain ⟨hh, k1, k2⟩ := HS13.out.ag
  refine (Len_any k1).mono ?_
  rintro e wl ⟨rfl, q, e1⟩
  have hb : Below w14.heap.size w14 wl := by rw [e1]; exact drewN_below w14 q
  have HS14 := Lib.hid (HS13.out.on hb)
  clear hb HS13 k1 k2 e1
  have e1 : (([⟨9, 1, 5⟩] : List It).length : Int) = 1 := rfl
  rw [e1]
  clear e1
  go_wp2_with fail
  refine (List_any HS14.out.ag).mono ?_
  rintro e wm ⟨v, rfl, ho, hb⟩
  have HS15 := Lib.hid (HS14.out.on hb)
  have hsh : ∃ A c, v = .slice A 1 c := by
    rcases ho.2 with ⟨_, h0⟩ | ⟨g, cap, cur, e, _⟩
    · exact absurd h0 (by decide)
    · exact ⟨_, _, e⟩
  obtain ⟨A, c, rfl⟩ := hsh
  clear hb HS14 ho
  go_wp2_with fail
  refine (Drop_any HS15.out.ag 1 5).mono ?_
  rintro e wn ⟨rfl, ha, hm⟩
  have HS16 := Lib.hid (HS15.out.put (L' := []) ha hm)
  have e1 : AM.has [⟨9, 1, 5⟩] 1 5 = true := by decide
  rw [e1]
  clear ha hm e1 HS15
  go_wp2_with fail
  refine (Drop_any HS16.out.ag 1 5).mono ?_
  rintro e wo ⟨rfl, ha, hm⟩
  have HS17 := Lib.hid (HS16.out.put (L' := []) ha hm)
  have e1 : AM.has [] 1 5 = false := by decide
  rw [e1]
  clear ha hm e1 HS16
  go_wp2_with fail
  go_ret
  exact ⟨rfl, HS17.out.below⟩
end Go.Proofs.Ytkgipdhbaiaaeaa
