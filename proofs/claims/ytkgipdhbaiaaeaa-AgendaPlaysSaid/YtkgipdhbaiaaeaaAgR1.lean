/- The document's own answers of layer 13: Before, Find, Drop. -/
import Derived.Test.YtkgipdhbaiaaeaaAgW8
namespace Go.Proofs.Ytkgipdhbaiaaeaa
open Go.RowKit Go.Sort
open AM (It HS g sw)
set_option linter.unusedVariables false
set_option linter.unusedSimpArgs false
set_option maxRecDepth 100000
/-- A list of items that reads so, nil let in. -/
def ItsAt (w : World) (A : Option Addr) (xs : List It) : Prop :=
  0 < xs.length → ∃ b o, A = some ⟨b, o, none⟩ ∧ b < w.heap.size ∧ ∀ j x, xs[j]? = some x → w.cell? ⟨b, o + j * 3, none⟩ = some (.int .i64 x.due) ∧ w.cell? ⟨b, o + j * 3 + 1, none⟩ = some (.int .i64 x.kind) ∧ w.cell? ⟨b, o + j * 3 + 2, none⟩ = some (.int .i64 x.key)
theorem ItsAt.nil (w : World) (A : Option Addr) : ItsAt w A [] := fun h => absurd h (Nat.lt_irrefl 0)
theorem ItsAt.mod {w w' : World} {A : Option Addr} {xs : List It} {G : List Nat} (h : ItsAt w A xs) (hm : Mod G w w') (hn : ∀ ad, A = some ad → ad.block ∉ G) : ItsAt w' A xs := fun h0 => by
  obtain ⟨b, o, e, hb, hc⟩ := h h0
  refine ⟨b, o, e, Nat.lt_of_lt_of_le hb hm.size, fun j x hx => ?_⟩
  obtain ⟨h1, h2, h3⟩ := hc j x hx
  have hn' : b ∉ G := hn _ e
  exact ⟨(hm.cell (p := ⟨b, o + j * 3, none⟩) hb hn').trans h1, (hm.cell (p := ⟨b, o + j * 3 + 1, none⟩) hb hn').trans h2, (hm.cell (p := ⟨b, o + j * 3 + 2, none⟩) hb hn').trans h3⟩
theorem ItsAt.below {w w' : World} {A : Option Addr} {xs : List It} (h : ItsAt w A xs) (hb : Below w.heap.size w w') : ItsAt w' A xs := h.mod (Mod.of_below hb []) (by simp)
theorem ItsAt.own {w : World} {A : Option Addr} {n c : Nat} {xs : List It} {base : Nat} (h : w.ownsRow base 29 3 (.slice A n c) n (flat xs)) : ItsAt w A xs := fun h0 => by
  have hl := h.1
  rw [flat_len] at hl
  have hn : n = xs.length := by omega
  rcases h.2 with ⟨_, h1⟩ | ⟨g, cap, cur, hv, _, hh, _, _, _, ht⟩
  · omega
  · injection hv with hA
    subst hA
    refine ⟨g, 0, rfl, (Array.getElem?_eq_some_iff.1 hh).1, fun j x hx => ?_⟩
    have key : ∀ k u, (flat xs)[k]? = some u → w.cell? ⟨g, 0 + k, none⟩ = some u := fun k u hu => by
      rw [Nat.zero_add, cell_of_row w g k cur _ (0, 0) hh]
      rw [← ht, List.getElem?_take] at hu
      split at hu
      · rw [← hu, Array.getElem?_toList]
      · cases hu
    obtain ⟨h1, h2, h3⟩ := flat_at hx
    exact ⟨key _ _ h1, key _ _ h2, key _ _ h3⟩
theorem ItsAt.at {w : World} {A : Option Addr} {xs : List It} (h : ItsAt w A xs) {k : Nat} (hk : k < xs.length) : ∃ b o, A = some ⟨b, o, none⟩ ∧ b < w.heap.size ∧ w.cell? ⟨b, o + k * 3, none⟩ = some (.int .i64 (g xs k).due) ∧ w.cell? ⟨b, o + k * 3 + 1, none⟩ = some (.int .i64 (g xs k).kind) ∧ w.cell? ⟨b, o + k * 3 + 2, none⟩ = some (.int .i64 (g xs k).key) := by
  obtain ⟨b, o, e, hb, hc⟩ := h (by omega)
  exact ⟨b, o, e, hb, hc k _ (AM.g_get hk)⟩
/-- What the call itself has grown holds these items. -/
def GrewI (w : World) (xs : List It) (v : Value) (w' : World) : Prop := w'.ownsRow w.heap.size 29 3 v xs.length (flat xs) ∧ Below w.heap.size w w'
theorem GrewI.nil (w : World) : GrewI w [] (.slice none 0 0) w := ⟨World.ownsRow_nil _ _ _ _, Below.refl _ _⟩
theorem GrewI.keep {w w1 w2 : World} {xs : List It} {v : Value} (g : GrewI w xs v w1) (h : Below w1.heap.size w1 w2) : GrewI w xs v w2 :=
  ⟨(Mod.of_below h []).own g.1 (by simp), below_on g.2 h⟩
theorem own_shapeI {w : World} {base : Nat} {e : TypeId} {s n : Nat} {v : Value} {xs : List Value} (h : w.ownsRow base e s v n xs) : ∃ A c, v = .slice A n c ∧ n ≤ c ∧ c ≤ 9223372036854775807 := by
  rcases h.2 with ⟨rfl, rfl⟩ | ⟨g, cap, cur, rfl, _, _, h1, h2, _⟩
  · exact ⟨none, 0, rfl, Nat.le_refl _, by omega⟩
  · exact ⟨_, cap, rfl, h1, by unfold maxLen at h2; omega⟩
/-- One item put behind what the call itself has grown. -/
theorem app_it {w w1 : World} {ops : Array Oper} {rest : List Oper} {o : Oper} {a : Act} {Q : Exit → Act → World → Prop} (hgd : o.guard = none) (s x : Operand)
    (ho : o.op = .call { callee := .builtin .append, args := #[s, x], argTypes := #[32, 32] })
    (v : Value) (pre : List It) (hG : GrewI w pre v w1) (hs : a.eval s = v) (k : It) (hx : a.eval x = .slice (some ⟨w1.heap.size, 0, none⟩) 1 1) (hl : (pre.length + 1) * 24 ≤ 140737488355328)
    (h : ∀ v' w2, GrewI w (pre ++ [k]) v' w2 → wpList Try.prog ops Q rest (a.put o.dst v') w2) : wpList Try.prog ops Q (o :: rest) a (w1.alloc (.cells (c3 k).toArray 29)) := by
  obtain ⟨i0, z, hi, hz0, hz1, hz2, hzc⟩ := info_itz
  refine wpList_append_own_at _ hgd s x 32 ho w.heap.size 29 i0 z 3 24 Try.underlying32 hi hz0 hz1 hz2 hzc (by decide) v pre.length (flat pre) hs (hG.1.alloc _) ⟨w1.heap.size, 0, none⟩ 1 1 (c3 k) hx rfl
    (World.news_of_block (cs := (c3 k).toArray) (t := 29) (fr := (0, 0)) (heap_alloc_new w1 _)) (fun u hu => one_c3 (l := [k]) u (by unfold flat; simpa using hu)) (by unfold maxLen; omega) (by omega) (by have := hG.2.size; rw [World.size_alloc]; omega) ?_
  intro v' w2 hown hgrow _ _
  refine h v' w2 ⟨?_, (hG.2.alloc hG.2.size _).grown hgrow ?_ (fun k hk => (hG.1.lt k hk).1)⟩
  · rw [List.length_append, flat_append, show flat [k] = c3 k by unfold flat; simp]
    exact hown
  · have := hG.2.size
    rw [World.size_alloc]
    omega
theorem before_of {a b : It} {r : Bool} (h : AM.lt a b ↔ r = true) : AM.before a b = r := by
  unfold AM.before
  cases r with
  | true => exact decide_eq_true (h.2 rfl)
  | false => exact decide_eq_false (fun e => by have := h.1 e; cases this)
set_option maxHeartbeats 2000000 in
theorem RBefore (a b : It) (w : World) : Calls Try.prog 22 #[agg a, agg b] w fun e w' => e = .returned (.bool (AM.before a b)) ∧ Below w.heap.size w w' := by
  have HB := Lib.hid (((Below.refl _ w).alloc (Nat.le_refl _) (.cells (three a) 29)).alloc (by simp) (.cells (three b) 29))
  unfold agg
  unfold three at HB
  by_cases h0 : a.due = b.due
  · by_cases h1 : a.kind = b.kind
    · have e : AM.before a b = decide (a.key < b.key) := before_of (by unfold AM.lt; rw [decide_eq_true_iff]; omega)
      rw [e]
      clear e
      have d0 : (a.due == b.due) = true := by rw [beq_iff_eq]; exact h0
      have d1 : (a.kind == b.kind) = true := by rw [beq_iff_eq]; exact h1
      clear h0 h1
      go_enter Try.func22, Try.ntmps22
      go_wp2_with fail
      go_ret
      exact ⟨rfl, HB.out⟩
    · have e : AM.before a b = decide (a.kind < b.kind) := before_of (by unfold AM.lt; rw [decide_eq_true_iff]; omega)
      rw [e]
      clear e
      have d0 : (a.due == b.due) = true := by rw [beq_iff_eq]; exact h0
      have d1 : (a.kind == b.kind) = false := by rw [beq_eq_false_iff_ne]; exact h1
      clear h0 h1
      go_enter Try.func22, Try.ntmps22
      go_wp2_with fail
      go_ret
      exact ⟨rfl, HB.out⟩
  · have e : AM.before a b = decide (a.due < b.due) := before_of (by unfold AM.lt; rw [decide_eq_true_iff]; omega)
    rw [e]
    clear e
    have d0 : (a.due == b.due) = false := by rw [beq_eq_false_iff_ne]; exact h0
    clear h0
    go_enter Try.func22, Try.ntmps22
    go_wp2_with fail
    go_ret
    exact ⟨rfl, HB.out⟩
theorem hit_no1 {k y : Int} {x : It} (h : ¬ x.kind = k) : AM.hit k y x = false := by
  cases e : AM.hit k y x with | false => rfl | true => exact absurd (AM.hit_iff.1 e).1 h
theorem hit_no2 {k y : Int} {x : It} (h : ¬ x.key = y) : AM.hit k y x = false := by
  cases e : AM.hit k y x with | false => rfl | true => exact absurd (AM.hit_iff.1 e).2 h
section
variable {w : World} {A : Option Addr} {n c : Nat} {L : List It}
set_option maxHeartbeats 2000000 in
theorem RFind (k y : Int) (h : ItsAt w A L) (hn : L.length = n) (hm : n ≤ 64) : Calls Try.prog 15 #[.slice A n c, .int .i64 k, .int .i64 y] w fun e w' => PlPost L n k y e ∧ w' = w := by
  have H := Lib.hid h
  have HN := Lib.hid hn
  clear h hn
  go_enter Try.func15, Try.ntmps15
  go_wp2_with fail
  go_loopw [7] (fun iv wr => ∃ i : Nat, iv = .int .i64 (i : Int) ∧ i ≤ n ∧ Hid (∀ j, j < i → AM.hit k y (g L j) = false) ∧ Hid (wr = w)) (fun iv _ => n - (intOf iv).toNat)
  case atStart => exact ⟨0, rfl, Nat.zero_le _, Lib.hid (fun j hj => absurd hj (Nat.not_lt_zero _)), Lib.hid rfl⟩
  case round =>
    obtain ⟨i, rfl, hi, HF, HW⟩ := hrel
    have hW := HW.out
    subst hW
    clear HW
    by_cases hin : i < n
    · have d1 : ((i : Int) < (n : Int)) := by omega
      have d2 : ((0 : Int) ≤ (i : Int)) := by omega
      obtain ⟨b, o, rfl, hb, i0, i1, i2⟩ := H.out.at (k := i) (by rw [HN.out]; exact hin)
      have hw : IntKind.i64.wrap ((i : Int) + 1) = (i : Int) + 1 := IntWalk.i64_in _ (by omega)
      by_cases h1 : (g L i).kind = k
      · by_cases h2 : (g L i).key = y
        · have HR := Lib.hid (AM.hit_iff.2 ⟨h1, h2⟩)
          have e1 : ((g L i).kind == k) = true := by rw [beq_iff_eq]; exact h1
          have e2 : ((g L i).key == y) = true := by rw [beq_iff_eq]; exact h2
          clear h1 h2
          go_wp2_with fail
          go_ret
          exact ⟨.inl ⟨i, hin, HR.out, rfl⟩, rfl⟩
        · have HR := Lib.hid (hit_no2 (k := k) h2)
          have e1 : ((g L i).kind == k) = true := by rw [beq_iff_eq]; exact h1
          have e2 : ((g L i).key == y) = false := by rw [beq_eq_false_iff_ne]; exact h2
          clear h1 h2
          go_wp2_with fail
          go_roundw
          case rel =>
            exact ⟨i + 1, rfl, by omega, Lib.hid (fun j hj => by
              by_cases e : j = i
              · rw [e]; exact HR.out
              · exact HF.out j (by omega)), Lib.hid trivial⟩
          case measure => simp [intOf]; omega
      · have HR := Lib.hid (hit_no1 (y := y) h1)
        have e1 : ((g L i).kind == k) = false := by rw [beq_eq_false_iff_ne]; exact h1
        clear h1
        go_wp2_with fail
        go_roundw
        case rel =>
          exact ⟨i + 1, rfl, by omega, Lib.hid (fun j hj => by
            by_cases e : j = i
            · rw [e]; exact HR.out
            · exact HF.out j (by omega)), Lib.hid trivial⟩
        case measure => simp [intOf]; omega
    · have d1 : decide ((i : Int) < (n : Int)) = false := by simp; omega
      go_wp2_with fail
      go_ret
      exact ⟨.inr ⟨fun j hj => HF.out j (by omega), rfl⟩, rfl⟩
theorem drop_more {i : Nat} {k y : Int} (hi : i < L.length) : AM.drop (L.take (i + 1)) k y = AM.drop (L.take i) k y ++ (if AM.hit k y (g L i) = true then [] else [g L i]) := by
  rw [take_more hi]
  unfold AM.drop
  rw [List.filter_append]
  congr 1
  rw [List.filter_cons]
  cases AM.hit k y (g L i) <;> rfl
theorem has_len (L : List It) (k y : Int) : decide ((AM.drop L k y).length < L.length) = AM.has L k y := by
  cases e : AM.has L k y with
  | false => rw [AM.drop_same e]; simp
  | true =>
    unfold AM.has at e
    obtain ⟨x, hx, hh⟩ := List.any_eq_true.1 e
    refine decide_eq_true ?_
    have h1 : AM.drop L k y ≠ L := fun e2 => by
      unfold AM.drop at e2
      have := List.filter_eq_self.1 e2 x hx
      rw [hh] at this
      cases this
    rcases Nat.lt_or_eq_of_le (List.length_filter_le (fun x => !AM.hit k y x) L) with h | h
    · exact h
    · exact absurd (List.Sublist.eq_of_length List.filter_sublist h) h1
set_option maxHeartbeats 4000000 in
theorem RDrop (k y : Int) (h : ItsAt w A L) (hn : L.length = n) (hm : n ≤ 64) : Calls Try.prog 12 #[.slice A n c, .int .i64 k, .int .i64 y] w fun e w' => ∃ v, e = .returned (.tuple #[v, .bool (AM.has L k y)]) ∧ GrewI w (AM.drop L k y) v w' := by
  have H := Lib.hid h
  have HN := Lib.hid hn
  clear h hn
  go_enter Try.func12, Try.ntmps12
  go_wp2_with fail
  go_loopw [8, 9] (fun ov iv wr => ∃ i : Nat, iv = .int .i64 (i : Int) ∧ i ≤ n ∧ Hid (GrewI w (AM.drop (L.take i) k y) ov wr)) (fun ov iv _ => n - (intOf iv).toNat)
  case atStart => exact ⟨0, rfl, Nat.zero_le _, Lib.hid (GrewI.nil w)⟩
  case round =>
    obtain ⟨i, rfl, hi, HG⟩ := hrel
    obtain ⟨OA, oc, rfl, _, _⟩ := own_shapeI HG.out.1
    by_cases hin : i < n
    · have d1 : ((i : Int) < (n : Int)) := by omega
      have d2 : ((0 : Int) ≤ (i : Int)) := by omega
      have hw : IntKind.i64.wrap ((i : Int) + 1) = (i : Int) + 1 := IntWalk.i64_in _ (by omega)
      have HM := Lib.hid (drop_more (L := L) (i := i) (k := k) (y := y) (by rw [HN.out]; exact hin))
      have HL := Lib.hid (show (AM.drop (L.take i) k y).length ≤ 64 from Nat.le_trans (List.length_filter_le ..) (by rw [List.length_take]; omega))
      obtain ⟨b, o, rfl, hb, i0, i1, i2⟩ := (H.out.below HG.out.2).at (k := i) (by rw [HN.out]; exact hin)
      generalize hds : AM.drop (L.take i) k y = ds at HG HM HL
      clear hds
      by_cases h1 : (g L i).kind = k
      · by_cases h2 : (g L i).key = y
        · have HE := Lib.hid (show (if AM.hit k y (g L i) = true then [] else [g L i]) = [] by rw [if_pos (AM.hit_iff.2 ⟨h1, h2⟩)])
          subst h1 h2
          go_wp2_with fail
          go_roundw
          case rel => exact ⟨i + 1, rfl, by omega, by rw [HM.out, HE.out, List.append_nil]; exact HG⟩
          case measure => simp [intOf]; omega
        · have HE := Lib.hid (show (if AM.hit k y (g L i) = true then [] else [g L i]) = [g L i] by rw [if_neg (by rw [hit_no2 (k := k) h2]; simp)])
          subst h1
          go_wp2_with (at_builtin; refine app_it rfl (.tmp 32) (.tmp 37) rfl _ ds HG.out rfl (g L i) rfl (by have := HL.out; omega) ?_; intro v' w2 hg2; have HG2 := Lib.hid hg2; clear hg2)
          go_roundw
          case rel => exact ⟨i + 1, rfl, by omega, by rw [HM.out, HE.out]; exact HG2⟩
          case measure => simp [intOf]; omega
      · have HE := Lib.hid (show (if AM.hit k y (g L i) = true then [] else [g L i]) = [g L i] by rw [if_neg (by rw [hit_no1 (y := y) h1]; simp)])
        go_wp2_with (at_builtin; refine app_it rfl (.tmp 32) (.tmp 37) rfl _ ds HG.out rfl (g L i) rfl (by have := HL.out; omega) ?_; intro v' w2 hg2; have HG2 := Lib.hid hg2; clear hg2)
        go_roundw
        case rel => exact ⟨i + 1, rfl, by omega, by rw [HM.out, HE.out]; exact HG2⟩
        case measure => simp [intOf]; omega
    · have d1 : decide ((i : Int) < (n : Int)) = false := by simp; omega
      obtain rfl : i = n := by omega
      have e1 : L.take i = L := List.take_of_length_le (by rw [HN.out]; exact Nat.le_refl _)
      rw [e1] at HG ⊢
      have HE := Lib.hid (has_len L k y)
      go_wp2_with fail
      refine bodyPost_ret (v := .tuple #[.slice OA (AM.drop L k y).length oc, .bool (decide ((AM.drop L k y).length < i))]) (by simp [results, Try.results12, go_sem]) rfl ?_
      exact ⟨_, by rw [← HE.out, HN.out], HG.out⟩
end
end Go.Proofs.Ytkgipdhbaiaaeaa
