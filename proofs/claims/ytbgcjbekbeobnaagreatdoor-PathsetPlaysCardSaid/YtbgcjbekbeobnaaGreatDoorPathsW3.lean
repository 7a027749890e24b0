/- The calls of the document's own answers (package subletref01) and of the statements' helper that holds two lists against each other. -/
import Derived.Test.YtbgcjbekbeobnaaGreatDoorPathsW2
import Derived.OwnWalk
namespace Go.Proofs.YtbgcjbekbeobnaaGreatDoor
open Go.RowKit
set_option maxRecDepth 100000
open PM (str)

theorem all_ends {s : ByteArray} : (rest s s.size).all PM.isSeg = true := by rw [rest_end]; rfl
theorem all_step {s : ByteArray} {k : Nat} (h : k < s.size) (H : Hid (s.data.toList.all PM.isSeg = (rest s k).all PM.isSeg))
    (h1 : 97 ≤ (s[k].toNat : Int) ∧ (s[k].toNat : Int) ≤ 122 ∨ 48 ≤ (s[k].toNat : Int) ∧ (s[k].toNat : Int) ≤ 57) : Hid (s.data.toList.all PM.isSeg = (rest s (k + 1)).all PM.isSeg) := by
  refine Lib.hid ?_
  have : PM.isSeg s[k] = true := by unfold PM.isSeg; rw [decide_eq_true_eq]; omega
  rw [H.out, rest_cons s k h, List.all_cons, this, Bool.true_and]
theorem all_bad {s : ByteArray} {k : Nat} (h : k < s.size) (H : Hid (s.data.toList.all PM.isSeg = (rest s k).all PM.isSeg))
    (h1 : ¬ (97 ≤ (s[k].toNat : Int) ∧ (s[k].toNat : Int) ≤ 122 ∨ 48 ≤ (s[k].toNat : Int) ∧ (s[k].toNat : Int) ≤ 57)) : false = PM.segB s.data.toList := by
  have : PM.isSeg s[k] = false := by unfold PM.isSeg; rw [decide_eq_false_iff_not]; omega
  have h2 : s.data.toList.all PM.isSeg = false := by rw [H.out, rest_cons s k h, List.all_cons, this, Bool.false_and]
  unfold PM.segB
  rw [h2]; simp
theorem all_end {s : ByteArray} {k : Nat} (h : s.size = k) (h1 : 1 ≤ s.size) (h6 : s.size ≤ 6) (H : Hid (s.data.toList.all PM.isSeg = (rest s k).all PM.isSeg)) : true = PM.segB s.data.toList := by
  subst h
  refine ((PM.segB_iff _).2 ⟨by rw [len_toList]; exact h1, by rw [len_toList]; exact h6, ?_⟩).symm
  rw [H.out, all_ends]
theorem seg_short {s : ByteArray} (h : ¬ (1 ≤ s.size ∧ s.size ≤ 6)) : false = PM.segB s.data.toList := by
  symm
  rw [Bool.eq_false_iff, ne_eq, PM.segB_iff, len_toList]
  omega

set_option maxHeartbeats 400000 in
theorem segment_any (s : ByteArray) (w : World) :
    Calls Tryz.prog 79 #[.string s] w fun e w' => e = .returned (.bool (PM.segB s.data.toList)) ∧ w = w' := by
  by_cases h6 : 1 ≤ s.size ∧ s.size ≤ 6
  · obtain ⟨h1, h6⟩ := h6
    go_enter Tryz.func79, Tryz.ntmps79
    go_wp2
    go_loop [3] (fun i => ∃ k : Nat, k ≤ s.size ∧ i = .int .i64 k ∧ Hid (s.data.toList.all PM.isSeg = (rest s k).all PM.isSeg)) (fun i => s.size - (intOf i).toNat)
    case atStart => exact ⟨0, Nat.zero_le _, rfl, Lib.hid (by rw [rest_zero])⟩
    case round =>
      obtain ⟨k, hk, rfl, H⟩ := hrel
      by_cases hlt : k < s.size
      · go_wp2
        all_goals first
          | (go_round
             case rel => exact ⟨k + 1, by omega, by go_num, all_step hlt H (by omega)⟩
             case measure => simp [intOf]; omega)
          | (go_ret
             exact ⟨ret_bool (all_bad hlt H (by omega)), rfl⟩)
      · go_wp2
        go_ret
        exact ⟨ret_bool (all_end (by omega) h1 h6 H), rfl⟩
  · by_cases h0 : s.size < 1
    · go_enter Tryz.func79, Tryz.ntmps79
      go_wp2
      go_ret
      exact ⟨ret_bool (seg_short h6), rfl⟩
    · have h7 : 6 < s.size := by omega
      go_enter Tryz.func79, Tryz.ntmps79
      go_wp2
      go_ret
      exact ⟨ret_bool (seg_short h6), rfl⟩

/-! ### Split, by definition -/
theorem own_form {w : World} {base : Nat} {e : TypeId} {v : Value} {n : Nat} {xs : List Value} (h : w.ownsRow base e 1 v n xs) : ∃ A c, v = .slice A n c := by
  rcases h.2 with ⟨rfl, rfl⟩ | ⟨g, cap, cur, rfl, _⟩
  · exact ⟨_, _, rfl⟩
  · exact ⟨_, _, rfl⟩
theorem own_strs {w : World} {base : Nat} {A : Option Addr} {n c : Nat} {xs : List (List UInt8)} (h : w.ownsRow base 9 1 (.slice A n c) n (xs.map str)) (hn : xs.length = n) : StrsAt w A c xs := by
  have hl := h.lt
  have hc := @World.ownsRow.cells _ _ _ _ _ _ _ h
  rcases h.2 with ⟨hv, hn0⟩ | ⟨g, cap, cur, hv, _, hg, hle, _⟩
  · have : xs = [] := List.eq_nil_of_length_eq_zero (by omega)
    subst this
    exact StrsAt.nil _ _ _
  · cases hv
    refine ⟨by omega, fun h0 => ⟨g, 0, rfl, (hl g rfl).2, fun j x hx => ?_⟩⟩
    have := hc rfl j (str x) (by rw [List.getElem?_map, hx]; rfl)
    rw [Addr.add_lit] at this
    exact this

/-- The text's bytes from 'f' up to 'k'. -/
def cut (s : ByteArray) (f k : Nat) : List UInt8 := (s.data.toList.take k).drop f
theorem cut_data (s : ByteArray) (f k : Nat) : (s.extract f k).data.toList = cut s f k := by
  rw [Lib.extract_data]
  unfold cut
  simp [List.drop_take]
theorem cut_str (s : ByteArray) (f k : Nat) : Value.string (s.extract f k) = str (cut s f k) := by
  rw [← cut_data]; rfl
theorem cut_more (s : ByteArray) (f k : Nat) (hf : f ≤ k) (h : k < s.size) : cut s f (k + 1) = cut s f k ++ [s[k]] := by
  unfold cut
  rw [List.take_succ_eq_append_getElem (by rw [len_toList]; exact h), List.drop_append_of_le_length (by simp; omega)]
  rfl
theorem cut_self (s : ByteArray) (k : Nat) : cut s k k = [] := by
  unfold cut
  apply List.drop_of_length_le
  simp
  omega
theorem info_str : (Tryz.prog.info? 9).map (fun i => (i.zero, i.size, i.bytes)) = some (some (.string ⟨#[]⟩), 1, 16) := by kernel_rfl

/-- What is known at byte k: the pieces are those that are done, then those of what is at hand. -/
def AtByte (s : ByteArray) (o : List (List UInt8)) (f k : Nat) : Prop :=
  (k ≤ s.size → PM.pcs [] s.data.toList = o ++ PM.pcs (cut s f k) (rest s k)) ∧ (s.size < k → PM.pcs [] s.data.toList = o)
section
variable {s : ByteArray} {o : List (List UInt8)} {f k : Nat}
theorem AtByte.more (H : AtByte s o f k) (hf : f ≤ k) (h : k < s.size) (hc : ((s[k].toNat : Int) != 47) = true) : AtByte s o f (k + 1) := by
  have hc' : s[k] ≠ 47 := fun e => by rw [e] at hc; exact absurd hc (by decide)
  refine ⟨fun _ => ?_, fun h2 => by omega⟩
  rw [H.1 (by omega), rest_cons s k h, PM.pcs, if_neg hc', ← cut_more s f k hf h]
theorem AtByte.slash (H : AtByte s o f k) (h : k < s.size) (hc : ((s[k].toNat : Int) != 47) = false) :
    (∃ R, PM.pcs [] s.data.toList = o ++ cut s f k :: R) ∧ AtByte s (o ++ [cut s f k]) (k + 1) (k + 1) := by
  have hc' : s[k] = 47 := UInt8.toNat_inj.1 (by simp only [bne_eq_false_iff_eq] at hc; rw [show (47 : UInt8).toNat = 47 from rfl]; omega)
  have := H.1 (by omega)
  rw [rest_cons s k h, PM.pcs, if_pos hc'] at this
  exact ⟨⟨_, this⟩, fun _ => by rw [cut_self, this]; simp, fun h2 => by omega⟩
theorem AtByte.last (H : AtByte s o f k) (h : s.size = k) : (∃ R, PM.pcs [] s.data.toList = o ++ cut s f k :: R) ∧ AtByte s (o ++ [cut s f k]) (k + 1) (k + 1) := by
  subst h
  have := H.1 (Nat.le_refl _)
  rw [rest_end, PM.pcs] at this
  exact ⟨⟨[], this⟩, fun h2 => by omega, fun _ => this⟩
theorem many_bad (h0 : s.data.toList ≠ []) {x : List UInt8} (H : ∃ R, PM.pcs [] s.data.toList = o ++ x :: R) (h : (o.length : Int) = 4) : PM.okB s.data.toList = false := by
  obtain ⟨R, hR⟩ := H
  rw [Bool.eq_false_iff, ne_eq, PM.okB_iff _ h0, hR]
  simp only [List.length_append, List.length_cons]
  omega
theorem seg_bad (h0 : s.data.toList ≠ []) {x : List UInt8} (H : ∃ R, PM.pcs [] s.data.toList = o ++ x :: R) (h : PM.segB x = false) : PM.okB s.data.toList = false := by
  obtain ⟨R, hR⟩ := H
  rw [Bool.eq_false_iff, ne_eq, PM.okB_iff _ h0, hR]
  simp only [List.all_append, List.all_cons, h, Bool.false_and, Bool.and_false]
  simp
theorem AtByte.done (h0 : s.data.toList ≠ []) (H : AtByte s o f k) (h : s.size < k) (h4 : o.length ≤ 4) (hs : o.all PM.segB = true) : PM.okB s.data.toList = true ∧ PM.segsOf s.data.toList = o := by
  have := H.2 h
  refine ⟨(PM.okB_iff _ h0).2 ⟨by rw [this]; exact h4, by rw [this]; exact hs⟩, ?_⟩
  unfold PM.segsOf
  rw [if_neg h0, this]
end

theorem one_str {x : ByteArray} : ∀ u ∈ [Value.string x], u.oneCell' = true := by
  intro u hu
  simp at hu
  subst hu
  rfl
theorem bad_of {n : Int} {b : Bool} (h : ¬ n = 4) (h2 : (n == 4) = true ∨ (!b) = true) : b = false := by
  rcases h2 with h2 | h2
  · exact absurd (beq_iff_eq.1 h2) h
  · simpa using h2
theorem size_alloc (w : World) (o : Obj) : (w.alloc o).heap.size = w.heap.size + 1 := by simp
/-- What the document's Split leaves. -/
def RSplitPost (l : List UInt8) (w : World) (e : Ending) (w' : World) : Prop :=
  (PM.okB l = true ∧ (∃ A c, e = .returned (.tuple #[.slice A (PM.segsOf l).length c, .int .i64 0]) ∧ StrsAt w' A c (PM.segsOf l)) ∨ PM.okB l = false ∧ e = .returned (.tuple #[.slice none 0 0, .int .i64 10])) ∧ Below w.heap.size w w'

set_option maxHeartbeats 800000 in
theorem RSplit_any (s : ByteArray) (w : World) (hs : s.size ≤ 140737488351232) :
    Calls Tryz.prog 61 #[.string s] w (RSplitPost s.data.toList w) := by
  obtain ⟨i0, hi, hz0, hz1, hz2⟩ := info_parts info_str
  by_cases h0 : s.toList = []
  · go_enter Tryz.func61, Tryz.ntmps61
    go_wp2
    go_ret2
    have h1 : s.data.toList = [] := by rw [← Lib.toList_data]; exact h0
    rw [h1]
    exact ⟨Or.inl ⟨rfl, none, 0, rfl, StrsAt.nil _ _ _⟩, Below.refl _ _⟩
  · have h1 : s.toList.isEmpty = false := by simpa using h0
    have h2 : s.data.toList ≠ [] := by rw [← Lib.toList_data]; exact h0
    clear h0
    have H2 := Lib.hid h2; clear h2
    go_enter Tryz.func61, Tryz.ntmps61
    go_wp2
    go_loopw [4, 5, 6] (fun v fr i wr => ∃ (k f : Nat) (o : List (List UInt8)), f ≤ k ∧ k ≤ s.size + 1 ∧ i = .int .i64 k ∧ fr = .int .i64 f ∧ wr.ownsRow w.heap.size 9 1 v o.length (o.map str) ∧ o.length ≤ 4 ∧ Hid (o.all PM.segB = true) ∧ AtByte s o f k ∧ Below w.heap.size w wr) (fun _ _ i _ => s.size + 1 - (intOf i).toNat)
    case atStart => exact ⟨0, 0, [], Nat.le_refl _, by omega, rfl, rfl, World.ownsRow_nil _ _ _ _, by simp, Lib.hid rfl, ⟨fun _ => by simp [cut, rest_zero], fun h => absurd h (by omega)⟩, Below.refl _ _⟩
    case round =>
      obtain ⟨k, f, o, hf, hk, rfl, rfl, hown, ho4, HO, HP, hbel⟩ := hrel
      obtain ⟨A, c, rfl⟩ := own_form hown
      by_cases hlt : s.size < k
      · obtain ⟨d1, d2⟩ := HP.done H2.out hlt ho4 HO.out
        have D1 := Lib.hid d1; have D2 := Lib.hid d2; clear d1 d2
        go_wp2
        go_ret2
        refine ⟨Or.inl ⟨D1.out, A, c, ?_, ?_⟩, hbel⟩
        · rw [D2.out]; rfl
        · rw [D2.out]; exact own_strs hown rfl
      · by_cases hmore : ∃ h : k < s.size, ((s[k].toNat : Int) != 47) = true
        · obtain ⟨hlt2, hc⟩ := hmore
          have HP' := HP.more hf hlt2 hc
          clear HP
          go_wp2
          go_roundw
          case rel => exact ⟨k + 1, f, o, by omega, by omega, by go_num, rfl, hown, ho4, HO, HP', hbel⟩
          case measure => simp [intOf]; omega
        · have hB : (∃ R, PM.pcs [] s.data.toList = o ++ cut s f k :: R) ∧ AtByte s (o ++ [cut s f k]) (k + 1) (k + 1) := by
            by_cases hlt2 : k < s.size
            · exact HP.slash hlt2 (by
                rw [Bool.eq_false_iff]
                exact fun e => hmore ⟨hlt2, e⟩)
            · exact HP.last (by omega)
          obtain ⟨hR, HP'⟩ := hB
          have HR := Lib.hid hR
          clear HP hR
          have hB2 : (∃ h : k < s.size, ((s[k].toNat : Int) != 47) = false) ∨ ¬ k < s.size := by
            by_cases hlt2 : k < s.size
            · exact Or.inl ⟨hlt2, by
                rw [Bool.eq_false_iff]
                exact fun e => hmore ⟨hlt2, e⟩⟩
            · exact Or.inr hlt2
          clear hmore
          have hseg := segment_any (s.extract f k)
          rw [cut_data] at hseg
          have HSeg := Lib.hid hseg; clear hseg
          rcases hB2 with ⟨hlt2, hc⟩ | hlt2
          all_goals
            go_wp2_with (first
              | (go_at_call 79; refine (HSeg.out _).mono ?_; rintro e w' ⟨rfl, rfl⟩)
              | (at_builtin; refine wpList_append_own _ rfl (.tmp 36) (.tmp 41) 68 rfl w.heap.size 9 i0 (.string ⟨#[]⟩) 1 16 Tryz.underlying68 hi hz0 hz1 hz2 rfl (by decide) _ _ _ rfl (hown.alloc _) ⟨wr.heap.size, 0, none⟩ 1 1 [.string (s.extract f k)] rfl rfl (cell_one_new _ _ _) one_str (by unfold maxLen; omega) (by omega) (by rw [size_alloc]; exact Nat.le_succ_of_le hbel.size) ?_; intro v2 w2 hown2 hgrow2 _))
          all_goals first
            | (go_ret2
               refine ⟨Or.inr ⟨?_, rfl⟩, hbel⟩
               first
                 | exact many_bad H2.out HR.out (by assumption)
                 | exact seg_bad H2.out HR.out (bad_of (by assumption) (by assumption)))
            | (go_roundw
               case rel =>
                 refine ⟨k + 1, k + 1, o ++ [cut s f k], Nat.le_refl _, by omega, by go_num, by go_num, ?_, ?_, Lib.hid ?_, HP', ?_⟩
                 · rw [List.length_append, List.map_append]
                   have := hown2
                   rw [cut_str] at this
                   exact this
                 · have : ¬ (o.length : Int) = 4 := by assumption
                   simp; omega
                 · have h := HO.out
                   have hand : ((o.length : Int) == 4) = false ∧ (!PM.segB (cut s f k)) = false := by assumption
                   rw [List.all_append, h, List.all_cons, List.all_nil]
                   simpa using hand.2
                 · exact (hbel.alloc hbel.size _).grown hgrow2 (by rw [size_alloc]; exact Nat.le_succ_of_le hbel.size) (fun g hg => (hown.lt g hg).1)
               case measure => simp [intOf]; omega)

end Go.Proofs.YtbgcjbekbeobnaaGreatDoor
