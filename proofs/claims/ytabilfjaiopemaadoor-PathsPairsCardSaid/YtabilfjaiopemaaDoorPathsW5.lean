/- The statements' opening question ('awake'): the calls of the document's examples, each answered as the document says. -/
import Derived.Test.YtabilfjaiopemaaDoorPathsW4
import Derived.Test.YtabilfjaiopemaaDoorLawKit
import Derived.Laws.AppendOwnNone
namespace Go.Proofs.YtabilfjaiopemaaDoor
open Go.RowKit
open PM (str)

section
variable (w : World)
theorem aw_valid1 : Calls Tryd.prog 12 #[.string ⟨#[97, 47, 98, 50, 47, 99]⟩] w fun e w' => e = .returned (.bool true) ∧ w = w' :=
  (Valid_any ⟨#[97, 47, 98, 50, 47, 99]⟩ w (by decide)).mono (by rintro e w' ⟨rfl, rfl⟩; exact ⟨ret_bool (by decide), rfl⟩)
theorem aw_valid2 : Calls Tryd.prog 12 #[.string ⟨#[97, 47, 47, 98]⟩] w fun e w' => e = .returned (.bool false) ∧ w = w' :=
  (Valid_any ⟨#[97, 47, 47, 98]⟩ w (by decide)).mono (by rintro e w' ⟨rfl, rfl⟩; exact ⟨ret_bool (by decide), rfl⟩)
theorem aw_depth : Calls Tryd.prog 17 #[.string ⟨#[97, 47, 98]⟩] w fun e w' => e = .returned (.int .i64 2) ∧ w = w' :=
  (Depth_any ⟨#[97, 47, 98]⟩ w (by decide)).mono (by rintro e w' ⟨rfl, rfl⟩; exact ⟨ret_int (by decide), rfl⟩)
theorem aw_cov1 : Calls Tryd.prog 23 #[.string ⟨#[97]⟩, .string ⟨#[97, 47, 98]⟩] w fun e w' => e = .returned (.bool true) ∧ w = w' :=
  (Covers_any ⟨#[97]⟩ ⟨#[97, 47, 98]⟩ w (by decide) (by decide)).mono (by rintro e w' ⟨rfl, rfl⟩; exact ⟨ret_bool (by decide), rfl⟩)
theorem aw_cov2 : Calls Tryd.prog 23 #[.string ⟨#[97]⟩, .string ⟨#[97, 98]⟩] w fun e w' => e = .returned (.bool false) ∧ w = w' :=
  (Covers_any ⟨#[97]⟩ ⟨#[97, 98]⟩ w (by decide) (by decide)).mono (by rintro e w' ⟨rfl, rfl⟩; exact ⟨ret_bool (by decide), rfl⟩)
theorem aw_over : Calls Tryd.prog 25 #[.string ⟨#[97, 47, 98]⟩, .string ⟨#[97]⟩] w fun e w' => e = .returned (.bool true) ∧ w = w' :=
  (Overlap_any ⟨#[97, 47, 98]⟩ ⟨#[97]⟩ w (by decide) (by decide)).mono (by rintro e w' ⟨rfl, rfl⟩; exact ⟨ret_bool (by decide), rfl⟩)
theorem aw_cmp : Calls Tryd.prog 27 #[.string ⟨#[97, 47, 98]⟩, .string ⟨#[97, 48]⟩] w fun e w' => e = .returned (.int .i64 (-1)) ∧ w = w' :=
  (Compare_any ⟨#[97, 47, 98]⟩ ⟨#[97, 48]⟩ w).mono (by rintro e w' ⟨rfl, rfl⟩; exact ⟨ret_int (by decide), rfl⟩)
theorem aw_meet : Calls Tryd.prog 21 #[.string ⟨#[97]⟩, .string ⟨#[97, 47, 98]⟩] w fun e w' => e = .returned (.tuple #[.string ⟨#[97, 47, 98]⟩, .bool true]) ∧ w = w' :=
  (Meet_any ⟨#[97]⟩ ⟨#[97, 47, 98]⟩ w (by decide) (by decide)).mono (by
    rintro e w' ⟨h, rfl⟩
    unfold MeetPost at h
    rw [if_pos (by decide)] at h
    exact ⟨h, rfl⟩)
theorem aw_split (hw : HasMax w) : Calls Tryd.prog 13 #[.string ⟨#[97, 47, 98]⟩] w fun e w' => e = .returned (.tuple #[.slice (some ⟨w.heap.size, 0, none⟩) 2 2, .int .i64 0]) ∧ w' = w.alloc (.cells #[.string ⟨#[97]⟩, .string ⟨#[98]⟩] 9) :=
  Split_some ⟨#[97, 47, 98]⟩ w hw (by rw [Lib.toList_data]; rfl) (by decide)
theorem aw_join (b : Nat) (hb : b < w.heap.size) (h0 : w.cell? ⟨b, 0, none⟩ = some (.string ⟨#[97]⟩)) (h1 : w.cell? ⟨b, 1, none⟩ = some (.string ⟨#[98]⟩)) :
    Calls Tryd.prog 19 #[.slice (some ⟨b, 0, none⟩) 2 2] w fun e w' => e = .returned (.tuple #[.string ⟨#[97, 47, 98]⟩, .int .i64 0]) ∧ Below w.heap.size w w' := by
  refine (Join_any (some ⟨b, 0, none⟩) 2 [[97], [98]] w ⟨Nat.le_refl _, fun _ => ⟨b, 0, rfl, hb, fun j x hx => ?_⟩⟩ (by decide) (by decide)).mono ?_
  · match j, hx with
    | 0, hx => cases hx; exact h0
    | 1, hx => cases hx; exact h1
  · rintro e w' ⟨rfl, hb⟩
    exact ⟨joinE_ok (by decide), hb⟩
end

set_option maxRecDepth 100000 in
set_option maxHeartbeats 1000000 in
theorem awake_any (w : World) (hw : HasMax w) :
    Calls Tryd.prog 11 #[] w fun e w' => e = .returned (.bool true) ∧ Below w.heap.size w w' := by
  have HW := Lib.hid hw; clear hw
  go_enter Tryd.func11, Tryd.ntmps11
  go_wp2_with fail
  refine (aw_split _ HW.out).mono ?_
  rintro e w1 ⟨rfl, rfl⟩
  go_wp2_with fail
  refine (aw_join _ _ ?_ ?_ ?_).mono ?_
  case refine_1 => simp
  case refine_2 => go_simp
  case refine_3 => go_simp
  rintro e w2 ⟨rfl, hb⟩
  have c0 : w2.cell? ⟨w.heap.size, 0, none⟩ = some (.string ⟨#[97]⟩) := by
    rw [hb.cell (p := ⟨w.heap.size, 0, none⟩) (by simp; omega)]; go_simp
  have c1 : w2.cell? ⟨w.heap.size, 1, none⟩ = some (.string ⟨#[98]⟩) := by
    rw [hb.cell (p := ⟨w.heap.size, 1, none⟩) (by simp; omega)]; go_simp
  have hB : Below w.heap.size w w2 := (((Below.refl _ w).alloc (Nat.le_refl _) _).alloc (by simp) _).trans (hb.mono (by simp; omega))
  clear hb
  go_wp2_with (first
    | (go_at_call 21; refine (aw_meet _).mono ?_; rintro e w' ⟨rfl, rfl⟩)
    | (go_at_call 12; with_reducible refine (aw_valid1 _).mono ?_; rintro e w' ⟨rfl, rfl⟩)
    | (go_at_call 12; with_reducible refine (aw_valid2 _).mono ?_; rintro e w' ⟨rfl, rfl⟩)
    | (go_at_call 17; refine (aw_depth _).mono ?_; rintro e w' ⟨rfl, rfl⟩)
    | (go_at_call 23; with_reducible refine (aw_cov1 _).mono ?_; rintro e w' ⟨rfl, rfl⟩)
    | (go_at_call 23; with_reducible refine (aw_cov2 _).mono ?_; rintro e w' ⟨rfl, rfl⟩)
    | (go_at_call 25; refine (aw_over _).mono ?_; rintro e w' ⟨rfl, rfl⟩)
    | (go_at_call 27; refine (aw_cmp _).mono ?_; rintro e w' ⟨rfl, rfl⟩))
  go_ret
  exact ⟨rfl, hB⟩

section
open Go.ChangeShapes Go.WideShapes Go.ChangeAt
theorem nil_bytes : Tryd.prog.bytesOf 9 = 16 := by kernel_rfl
/-- A list of texts that came in. -/
theorem open_texts {H : Type} {enc : TypeId × Value → H} {W : World} {base : Nat} {v : Value} {d : DataW H} {p : List MemPlace} {ts : List TypeId} {ds : List (DataW H)} {j : Nat}
    (hv : Value.okWide Tryd.prog W .any base 24 v) (h : DataW.Trod enc Tryd.prog W 0 (fun _ => true) true 24 v d p)
    (hw : (DataW.weightsEach Tryd.prog ts ds).all (· ≤ reachBytes) = true) (ht : ts[j]? = some 24) (hd : ds[j]? = some d) :
    ∃ A c xs, v = .slice A xs.length c ∧ StrsAt W A c xs ∧ (∀ x ∈ xs, x.length ≤ 9223372036854775807) ∧ c * 16 ≤ 140737488351232 ∧ (A = none → c = 0) := by
  obtain ⟨A, len, cap, rfl⟩ := okWide_slice Tryd.underlying24 hv
  obtain ⟨fuel, hf⟩ := h
  rcases open_strings Tryd.underlying24 Tryd.underlying9 (by kernel_rfl) hf with ⟨hcs, hx⟩ | ⟨a, len', cap', ss, hcs, _, hl, hm, hz, hx, hcell, hws⟩
  · simp [Value.cells] at hcs
    obtain ⟨rfl, rfl, rfl⟩ := hcs
    exact ⟨none, 0, [], rfl, StrsAt.nil _ _ _, fun x hx => by simp at hx, by omega, fun _ => rfl⟩
  · simp [Value.cells] at hcs
    obtain ⟨rfl, rfl, rfl⟩ := hcs
    simp only [Prod.mk.injEq] at hx
    obtain ⟨rfl, _⟩ := hx
    have hz' : ss.length = cap := by simpa using hz
    have hcap := sized_slice hw ht hd Tryd.underlying24
    rw [nil_bytes] at hcap
    simp only [strs, List.length_map, List.length_take, List.length_drop] at hcap
    have hlen : ((ss.take len).map (·.data.toList)).length = len := by simp; omega
    refine ⟨some a, cap, (ss.take len).map (·.data.toList), by rw [hlen], ⟨by rw [hlen]; exact hl, fun h0 => ?_⟩, fun x hx => ?_, by
      have : reachBytes = 140737488351232 := rfl
      omega, (fun h => by cases h)⟩
    · rw [hlen] at h0
      obtain ⟨b, o, sp⟩ := a
      have c0 := hcell 0 (by omega)
      have hsp : sp = none := by simpa [Addr.add] using World.cell?_spot c0
      subst hsp
      refine ⟨b, o, rfl, ?_, fun j x hx => ?_⟩
      · have := World.block_lt_of_cell? W _ c0
        simpa [Addr.add] using this
      · rw [List.getElem?_map] at hx
        obtain ⟨y, hy, rfl⟩ := Option.map_eq_some_iff.1 hx
        have hj : j < len := by
          have := (List.getElem?_eq_some_iff.1 hy).1
          simp at this; omega
        have hy' : ss[j]? = some y := by rw [List.getElem?_take_of_lt hj] at hy; exact hy
        have cj := hcell j (by omega)
        rw [List.getD_eq_getElem?_getD, hy'] at cj
        have e : (⟨b, o, none⟩ : Addr).add j = ⟨b, o + j, none⟩ := by rw [Addr.add_lit]
        rw [e] at cj
        exact cj
    · rw [List.mem_map] at hx
      obtain ⟨y, hy, rfl⟩ := hx
      have := hws y (List.mem_of_mem_take hy)
      rw [len_toList]
      exact this
end

end Go.Proofs.YtabilfjaiopemaaDoor
namespace Go.RowKit
theorem Below.on {w a b : World} (h : Below w.heap.size w a) (k : Below a.heap.size a b) : Below w.heap.size w b := h.trans (k.mono h.size)
end Go.RowKit
namespace Go.Proofs.YtabilfjaiopemaaDoor
open Go.RowKit
open PM (str)
theorem segs_len {l : List UInt8} (h : PM.okB l = true) : (PM.segsOf l).length ≤ 4 ∧ ∀ x ∈ PM.segsOf l, x.length ≤ 6 := by
  rw [PM.okB_segs] at h
  simp only [PM.segsB, Bool.and_eq_true, decide_eq_true_eq, List.all_eq_true] at h
  exact ⟨h.1, fun x hx => ((PM.segB_iff x).1 (h.2 x hx)).2.1⟩

/-- The source of an append, cell by cell. -/
theorem news_of {w : World} {a : Addr} {c : Nat} {xs : List (List UInt8)} (h : StrsAt w (some a) c xs) : ∀ j u, (xs.map str)[j]? = some u → w.cell? (a.add j) = some u := by
  intro j u hu
  rw [List.getElem?_map] at hu
  obtain ⟨x, hx, rfl⟩ := Option.map_eq_some_iff.1 hu
  have h0 : 0 < xs.length := Nat.lt_of_le_of_lt (Nat.zero_le j) (List.getElem?_eq_some_iff.1 hx).1
  obtain ⟨b, o, e, hb, hc⟩ := h.2 h0
  cases e
  have e : (⟨b, o, none⟩ : Addr).add j = ⟨b, o + j, none⟩ := by rw [Addr.add_lit]
  rw [e]
  exact hc j x hx
theorem one_strs {xs : List (List UInt8)} : ∀ u ∈ xs.map str, u.oneCell' = true := by
  intro u hu
  obtain ⟨x, _, rfl⟩ := List.mem_map.1 hu
  rfl
/-- append of a list of texts, nil or not, onto a list of the call's own. -/
theorem app_strs {w : World} {ops : Array Oper} {rest : List Oper} {o : Oper} {a : Act} {Q : Exit → Act → World → Prop} (hgd : o.guard = none) (s x : Operand)
    (ho : o.op = .call { callee := .builtin .append, args := #[s, x], argTypes := #[24, 24] })
    (base : Nat) (v : Value) (n : Nat) (ys : List (List UInt8)) (hs : a.eval s = v) (hown : w.ownsRow base 9 1 v n (ys.map str))
    (A : Option Addr) (c m : Nat) (xs : List (List UInt8)) (hx : a.eval x = .slice A m c) (hm : xs.length = m) (hS : StrsAt w A c xs) (hA : A = none → c = 0)
    (hbytes : (n + m) * 16 ≤ 140737488355328) (hbase : base ≤ w.heap.size)
    (h : ∀ v' w', w'.ownsRow base 9 1 v' (n + m) ((ys ++ xs).map str) → w.grownBy w' v.ownBlock → wpList Tryd.prog ops Q rest (a.put o.dst v') w') : wpList Tryd.prog ops Q (o :: rest) a w := by
  obtain ⟨i0, hi, hz0, hz1, hz2⟩ := info_parts info_str
  cases A with
  | some ad =>
    refine wpList_append_own _ hgd s x 24 ho base 9 i0 (.string ⟨#[]⟩) 1 16 Tryd.underlying24 hi hz0 hz1 hz2 rfl (by decide) v n (ys.map str) hs hown ad m c (xs.map str) hx (by rw [List.length_map, hm, Nat.mul_one]) (news_of hS) one_strs (by unfold maxLen; omega) hbytes hbase ?_
    intro v' w' h1 h2 _
    rw [← List.map_append] at h1
    exact h v' w' h1 h2
  | none =>
    have h0 : xs = [] := by
      cases xs with
      | nil => rfl
      | cons y r =>
        obtain ⟨b, o, e, _⟩ := hS.2 (by simp)
        cases e
    subst h0
    have hc := hA rfl
    subst hc
    simp only [List.length_nil] at hm
    subst hm
    refine wpList_append_own_none hgd s x 24 ho base 9 i0 1 Tryd.underlying24 hi v n (ys.map str) hs hown hx ?_
    exact h v w (by rw [Nat.add_zero, List.append_nil]; exact hown) (World.grownBy.refl w _)
theorem own_lit0 (w : World) : (w.alloc (.cells #[] 9)).ownsRow w.heap.size 9 1 (.slice (some ⟨w.heap.size, 0, none⟩) 0 0) 0 (([] : List (List UInt8)).map str) :=
  World.ownsRow_lit w #[] 0 (Nat.le_refl _) (by decide) rfl
theorem grown_lit0 {w w' : World} (h : (w.alloc (.cells #[] 9)).grownBy w' (Value.slice (some ⟨w.heap.size, 0, none⟩) 0 0).ownBlock) : Below w.heap.size w w' :=
  ((Below.refl _ w).alloc (Nat.le_refl _) _).grown h (by rw [size_alloc]; omega) (fun k hk => by cases hk; exact Nat.le_refl _)

theorem max_of {W : World} (h : W.ShapedOpen Tryd.prog) : HasMax W := by
  obtain ⟨m, hm⟩ := Tryd.laysM146.s1_3 W h
  exact ⟨World.block_lt_of_cell? W _ hm, m, hm⟩

end Go.Proofs.YtabilfjaiopemaaDoor
