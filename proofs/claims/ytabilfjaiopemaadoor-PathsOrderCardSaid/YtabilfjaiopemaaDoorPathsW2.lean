/- The calls of the package that take paths apart, put them together, and hold two against each other: what each answers, and that old memory stands. -/
import Derived.Test.YtabilfjaiopemaaDoorPathsW1
import Derived.Test.YtabilfjaiopemaaDoorPathsSplitMath
import Derived.Test.YtabilfjaiopemaaDoorShelf
import Derived.RegionTactic
namespace Go.Proofs.YtabilfjaiopemaaDoor
open Go.RowKit
open PM (str)

/-- The library's variable that tells how long a text is sought at once holds some number. -/
def HasMax (w : World) : Prop := 0 < w.heap.size ∧ ∃ m, w.cell? ⟨0, 0, none⟩ = some (.int .i64 m)
theorem HasMax.below {w w' : World} (h : HasMax w) (hb : Below w.heap.size w w') : HasMax w' :=
  ⟨Nat.lt_of_lt_of_le h.1 hb.size, h.2.elim fun m hm => ⟨m, (hb.cell (p := ⟨0, 0, none⟩) h.1).trans hm⟩⟩

/-- A slice of texts that reads as a list (nil let in). -/
def StrsAt (w : World) (A : Option Addr) (c : Nat) (xs : List (List UInt8)) : Prop :=
  xs.length ≤ c ∧ (0 < xs.length → ∃ b o, A = some ⟨b, o, none⟩ ∧ b < w.heap.size ∧ ∀ j x, xs[j]? = some x → w.cell? ⟨b, o + j, none⟩ = some (str x))
theorem StrsAt.nil (w : World) (A : Option Addr) (c : Nat) : StrsAt w A c [] := ⟨Nat.zero_le _, fun h => absurd h (Nat.lt_irrefl 0)⟩
theorem StrsAt.below {w w' : World} {A : Option Addr} {c : Nat} {xs : List (List UInt8)} (h : StrsAt w A c xs) (hb : Below w.heap.size w w') : StrsAt w' A c xs :=
  ⟨h.1, fun h0 => by
    obtain ⟨b, o, e, hlt, hc⟩ := h.2 h0
    exact ⟨b, o, e, Nat.lt_of_lt_of_le hlt hb.size, fun j x hx => (hb.cell (p := ⟨b, o + j, none⟩) hlt).trans (hc j x hx)⟩⟩
theorem StrsAt.new (w : World) (xs : List (List UInt8)) (c : Nat) (hc : xs.length ≤ c) : StrsAt (w.alloc (.cells (xs.map str).toArray 9)) (some ⟨w.heap.size, 0, none⟩) c xs :=
  ⟨hc, fun _ => ⟨w.heap.size, 0, rfl, by simp, fun j x hx => by
    rw [Nat.zero_add, World.cell?_alloc_new]
    simp [hx]⟩⟩

section
variable (s : ByteArray) (w : World)
set_option maxHeartbeats 400000 in
theorem Split_no (hs : s.size ≤ 9223372036854775807) (h : PM.okB s.data.toList = false) :
    Calls Tryd.prog 13 #[.string s] w fun e w' => e = .returned (.tuple #[.slice none 0 0, .int .i64 10]) ∧ w = w' := by
  go_enter Tryd.func13, Tryd.ntmps13
  go_wp2_with (go_at_call 12; refine (Valid_any _ _ hs).mono ?_; rintro e w' ⟨rfl, rfl⟩)
  go_ret2
  exact ⟨rfl, rfl⟩
set_option maxHeartbeats 400000 in
theorem Split_nil (h0 : s.toList = []) (h : PM.okB s.data.toList = true) :
    Calls Tryd.prog 13 #[.string s] w fun e w' => e = .returned (.tuple #[.slice none 0 0, .int .i64 0]) ∧ w = w' := by
  have hs : s.size ≤ 9223372036854775807 := by
    have h1 := len_toList s
    rw [← Lib.toList_data, h0] at h1
    simp at h1; omega
  go_enter Tryd.func13, Tryd.ntmps13
  go_wp2_with (go_at_call 12; refine (Valid_any _ _ hs).mono ?_; rintro e w' ⟨rfl, rfl⟩)
  go_ret2
  exact ⟨rfl, rfl⟩
theorem ok_size (h : PM.okB s.data.toList = true) : s.size ≤ 27 := by
  have := PM.okB_len _ h
  rwa [len_toList] at this
set_option maxHeartbeats 400000 in
theorem Split_some (hw : HasMax w) (h0 : s.toList.isEmpty = false) (h : PM.okB s.data.toList = true) :
    Calls Tryd.prog 13 #[.string s] w fun e w' =>
      e = .returned (.tuple #[.slice (some ⟨w.heap.size, 0, none⟩) (PM.pcs [] s.data.toList).length (PM.pcs [] s.data.toList).length, .int .i64 0]) ∧
      w' = w.alloc (.cells ((PM.pcs [] s.data.toList).map str).toArray 9) := by
  have hs := ok_size s h
  obtain ⟨_, m, hm⟩ := hw
  have hc : Calls Tryd.prog 29 #[.string s, .string ⟨#[47]⟩] w fun e w' =>
      e = .returned (.slice (some ⟨w.heap.size, 0, none⟩) (PM.pcs [] s.data.toList).length (PM.pcs [] s.data.toList).length) ∧
      w' = w.alloc (.cells ((PM.pcs [] s.data.toList).map str).toArray 9) := by
    refine (Tryd.strings_Split s ⟨#[47]⟩ m w (by omega) hm (Nat.le_refl 1)).mono ?_
    rintro e w' ⟨he, hw⟩
    rw [PM.splitB_vals] at hw
    rw [PM.countB_one] at he
    exact ⟨he, hw⟩
  generalize hn : (PM.pcs [] s.data.toList).length = n at hc ⊢
  generalize hC : ((PM.pcs [] s.data.toList).map str).toArray = C at hc ⊢
  clear hn hC
  have HC := Lib.hid hc; clear hc hm
  go_enter Tryd.func13, Tryd.ntmps13
  go_wp2_with (first
    | (go_at_call 12; refine (Valid_any _ _ (by omega)).mono ?_; rintro e w' ⟨rfl, rfl⟩)
    | (go_at_call 29; refine HC.out.mono ?_; rintro e w' ⟨rfl, rfl⟩))
  go_ret2
  exact ⟨rfl, rfl⟩
end

/-- Split at a path: a slice that reads as its segments. -/
theorem Split_ok (s : ByteArray) (w : World) (hw : HasMax w) (h : PM.okB s.data.toList = true) :
    Calls Tryd.prog 13 #[.string s] w fun e w' => ∃ A c, e = .returned (.tuple #[.slice A (PM.segsOf s.data.toList).length c, .int .i64 0]) ∧ StrsAt w' A c (PM.segsOf s.data.toList) ∧ Below w.heap.size w w' ∧ (A = none → c = 0) ∧ c ≤ 4 := by
  by_cases h0 : s.toList = []
  · refine (Split_nil s w h0 h).mono ?_
    rintro e w' ⟨rfl, rfl⟩
    have : PM.segsOf s.data.toList = [] := by rw [PM.segsOf_nil_iff, ← Lib.toList_data, h0]
    rw [this]
    exact ⟨none, 0, rfl, StrsAt.nil _ _ _, Below.refl _ _, fun _ => rfl, by omega⟩
  · refine (Split_some s w hw (by simpa using h0) h).mono ?_
    rintro e w' ⟨rfl, rfl⟩
    have : PM.segsOf s.data.toList = PM.pcs [] s.data.toList := by
      unfold PM.segsOf
      rw [if_neg (by rw [← Lib.toList_data]; exact h0)]
    have hl : (PM.segsOf s.data.toList).length ≤ 4 := by
      have := h
      rw [PM.okB_segs] at this
      simp only [PM.segsB, Bool.and_eq_true, decide_eq_true_eq] at this
      exact this.1
    rw [this] at hl ⊢
    exact ⟨_, _, rfl, StrsAt.new _ _ _ (Nat.le_refl _), (Below.refl _ _).alloc (Nat.le_refl _) _, (fun h => by cases h), hl⟩

section
variable {p q : ByteArray}
theorem cov_bad (h : (!PM.okB q.data.toList) = true) : false = PM.cov p.data.toList q.data.toList := by
  have : PM.okB q.data.toList = false := by simpa using h
  unfold PM.cov
  rw [this]; simp
theorem cov_bad1 (h : (!PM.okB p.data.toList) = true) : false = PM.cov p.data.toList q.data.toList := by
  have : PM.okB p.data.toList = false := by simpa using h
  unfold PM.cov
  rw [this]; simp
theorem cov_nil (h1 : PM.okB p.data.toList = true) (h2 : (!PM.okB q.data.toList) = false) (h : p.toList = []) : true = PM.cov p.data.toList q.data.toList := by
  refine ((PM.cov_iff _ _).2 ⟨h1, by simpa using h2, (PM.prefix_iff _ _).2 (Or.inl ?_)⟩).symm
  rw [← Lib.toList_data]; exact h
theorem cov_same (h1 : PM.okB p.data.toList = true) (h2 : (!PM.okB q.data.toList) = false) (h : p.toList = q.toList) : true = PM.cov p.data.toList q.data.toList := by
  refine ((PM.cov_iff _ _).2 ⟨h1, by simpa using h2, (PM.prefix_iff _ _).2 (Or.inr (Or.inl ?_))⟩).symm
  rw [← Lib.toList_data, ← Lib.toList_data]; exact h
theorem cov_pre (h1 : PM.okB p.data.toList = true) (h2 : (!PM.okB q.data.toList) = false) (h3 : ¬ p.toList = []) (h4 : ¬ p.toList = q.toList) :
    Lib.hasPrefix q.data.toList (p.data.toList ++ [47]) = PM.cov p.data.toList q.data.toList := by
  rw [Lib.toList_data] at h3 h4
  rw [Lib.toList_data] at h4
  rw [Bool.eq_iff_iff, PM.cov_iff, PM.prefix_iff]
  unfold Lib.hasPrefix
  rw [List.isPrefixOf_iff_prefix]
  exact ⟨fun h => ⟨h1, by simpa using h2, Or.inr (Or.inr h)⟩, fun h => h.2.2.resolve_left h3 |>.resolve_left h4⟩
end

set_option maxHeartbeats 400000 in
theorem Covers_any (p q : ByteArray) (w : World) (hp : p.size ≤ 9223372036854775807) (hq : q.size ≤ 9223372036854775807) :
    Calls Tryd.prog 23 #[.string p, .string q] w fun e w' => e = .returned (.bool (PM.cov p.data.toList q.data.toList)) ∧ w = w' := by
  by_cases h1 : PM.okB p.data.toList = true
  · have hs := ok_size p h1
    go_enter Tryd.func23, Tryd.ntmps23
    go_wp2_with (first
      | (go_at_call 12; refine (Valid_any _ _ (by assumption)).mono ?_; rintro e w' ⟨rfl, rfl⟩)
      | (go_at_call 33; refine (Tryd.strings_HasPrefix _ _ _).mono ?_; rintro e w' ⟨rfl, rfl⟩))
    · go_ret
      exact ⟨ret_bool (cov_bad ‹_›), rfl⟩
    · go_ret
      exact ⟨ret_bool (cov_nil h1 ‹_› ‹_›), rfl⟩
    · go_ret
      exact ⟨ret_bool (cov_same h1 ‹_› ‹_›), rfl⟩
    · go_ret
      refine ⟨ret_bool ?_, rfl⟩
      refine Eq.trans ?_ (cov_pre h1 ‹_› ‹_› ‹_›)
      have a : ¬ p.toList = [] := by assumption
      have b : ¬ p.toList = q.toList := by assumption
      simp [a, b]
  · have h1' : PM.okB p.data.toList = false := by simpa using h1
    clear h1
    go_enter Tryd.func23, Tryd.ntmps23
    go_wp2_with (go_at_call 12; refine (Valid_any _ _ (by assumption)).mono ?_; rintro e w' ⟨rfl, rfl⟩)
    go_ret
    exact ⟨ret_bool (cov_bad1 (by rw [h1']; rfl)), rfl⟩

set_option maxHeartbeats 400000 in
theorem Overlap_any (p q : ByteArray) (w : World) (hp : p.size ≤ 9223372036854775807) (hq : q.size ≤ 9223372036854775807) :
    Calls Tryd.prog 25 #[.string p, .string q] w fun e w' => e = .returned (.bool (PM.cov p.data.toList q.data.toList || PM.cov q.data.toList p.data.toList)) ∧ w = w' := by
  go_enter Tryd.func25, Tryd.ntmps25
  go_wp2_with (go_at_call 23; refine (Covers_any _ _ _ (by assumption) (by assumption)).mono ?_; rintro e w' ⟨rfl, rfl⟩)
  all_goals
    go_ret
    exact ⟨ret_bool (by simp [*]), rfl⟩

def MeetPost (p q : ByteArray) (e : Ending) : Prop :=
  e = if PM.cov p.data.toList q.data.toList = true then .returned (.tuple #[.string q, .bool true]) else if PM.cov q.data.toList p.data.toList = true then .returned (.tuple #[.string p, .bool true]) else .returned (.tuple #[.string ⟨#[]⟩, .bool false])
set_option maxHeartbeats 400000 in
theorem Meet_any (p q : ByteArray) (w : World) (hp : p.size ≤ 9223372036854775807) (hq : q.size ≤ 9223372036854775807) :
    Calls Tryd.prog 21 #[.string p, .string q] w fun e w' => MeetPost p q e ∧ w = w' := by
  go_enter Tryd.func21, Tryd.ntmps21
  go_wp2_with (go_at_call 23; refine (Covers_any _ _ _ (by assumption) (by assumption)).mono ?_; rintro e w' ⟨rfl, rfl⟩)
  all_goals
    go_ret2
    exact ⟨by unfold MeetPost; simp [*], rfl⟩

set_option maxHeartbeats 400000 in
theorem Compare_any (p q : ByteArray) (w : World) :
    Calls Tryd.prog 27 #[.string p, .string q] w fun e w' => e = .returned (.int .i64 (PM.cmp p.data.toList q.data.toList)) ∧ w = w' := by
  go_enter Tryd.func27, Tryd.ntmps27
  go_wp2_with (go_at_call 34; refine (Tryd.strings_Compare _ _ _).mono ?_; rintro e w' ⟨rfl, rfl⟩)
  go_ret
  exact ⟨rfl, rfl⟩

theorem depth_one (x : List UInt8) : PM.depthI x = 1 ↔ PM.segB x = true := by
  constructor
  · intro h
    unfold PM.depthI at h
    by_cases ho : PM.okB x = true
    · rw [if_pos ho] at h
      have h1 : (PM.segsOf x).length = 1 := by omega
      have h2 := PM.jn_segsOf x
      rw [PM.okB_segs] at ho
      match hs : PM.segsOf x, h1 with
      | [y], _ =>
        rw [hs] at h2 ho
        have : y = x := by rw [← h2]; exact (Lib.join_one y [47]).symm
        subst this
        simpa [PM.segsB] using ho
    · rw [if_neg ho] at h; omega
  · intro h
    have h1 : PM.segsB [x] = true := by simp [PM.segsB, h]
    have h2 := PM.segsOf_jn [x] h1
    have h3 := PM.okB_jn [x] h1
    have h4 : PM.jn [x] = x := Lib.join_one x [47]
    rw [h4] at h2 h3
    rw [PM.depth_ok h3, h2]; rfl

def joinE (xs : List (List UInt8)) : Ending := if PM.segsB xs = true then .returned (.tuple #[str (PM.jn xs), .int .i64 0]) else .returned (.tuple #[.string ⟨#[]⟩, .int .i64 10])
theorem joinE_ok {xs : List (List UInt8)} (h : PM.segsB xs = true) : joinE xs = .returned (.tuple #[str (PM.jn xs), .int .i64 0]) := if_pos h
theorem joinE_no {xs : List (List UInt8)} (h : PM.segsB xs = false) : joinE xs = .returned (.tuple #[.string ⟨#[]⟩, .int .i64 10]) := if_neg (by rw [h]; simp)
theorem bytes_data (x : List UInt8) : (⟨x.toArray⟩ : ByteArray).data.toList = x := by simp
theorem bytes_size (x : List UInt8) : (⟨x.toArray⟩ : ByteArray).size = x.length := by rw [← len_toList, bytes_data]

theorem segsB_long {xs : List (List UInt8)} (h : 4 < xs.length) : PM.segsB xs = false := by
  unfold PM.segsB
  rw [decide_eq_false (by omega)]; rfl
theorem segsB_bad {xs : List (List UInt8)} {k : Nat} {x : List UInt8} (hx : xs[k]? = some x) (h : ¬ PM.depthI x = 1) : PM.segsB xs = false := by
  have h1 : PM.segB x = false := by
    rw [Bool.eq_false_iff]
    exact fun e => h ((depth_one x).2 e)
  unfold PM.segsB
  have : xs.all PM.segB = false := by
    rw [Bool.eq_false_iff]
    intro e
    have := List.all_eq_true.1 e x (List.mem_of_getElem? hx)
    rw [h1] at this; cases this
  rw [this]; simp

theorem lens_seg : ∀ (xs : List (List UInt8)), (∀ x ∈ xs, x.length ≤ 6) → (PM.jn xs).length ≤ 7 * xs.length := by
  intro xs
  induction xs with
  | nil => intro _; simp [Lib.join_nil]
  | cons x r ih =>
    intro h
    have h1 := h x (by simp)
    have h2 := ih (fun y hy => h y (List.mem_cons_of_mem _ hy))
    cases r with
    | nil => have : PM.jn [x] = x := Lib.join_one x [47]; rw [this]; simp; omega
    | cons y r2 => rw [PM.jn_cons2]; simp only [List.length_append, List.length_cons] at h2 ⊢; omega

set_option maxHeartbeats 400000 in
theorem Join_nil (A : Option Addr) (c : Nat) (w : World) :
    Calls Tryd.prog 19 #[.slice A 0 c] w fun e w' => e = joinE [] ∧ Below w.heap.size w w' := by
  go_enter Tryd.func19, Tryd.ntmps19
  go_wp2
  go_loop [11] (fun i => i = .int .i64 0) (fun _ => 0)
  case atStart => rfl
  case round =>
    subst hrel
    go_wp2_with (go_at_call 32; refine (Tryd.strings_Join_none _ _ _ _).mono ?_; rintro e w' ⟨rfl, rfl⟩)
    go_ret2
    exact ⟨rfl, Below.refl _ _⟩

set_option maxHeartbeats 400000 in
theorem Join_some (b o n c : Nat) (xs : List (List UInt8)) (w : World) (hn : xs.length = n) (h0 : 0 < n) (hnc : n ≤ c) (hb : b < w.heap.size)
    (hc : ∀ j x, xs[j]? = some x → w.cell? ⟨b, o + j, none⟩ = some (str x)) (hx : ∀ x ∈ xs, x.length ≤ 9223372036854775807) (hm : n ≤ 9223372036854775807) :
    Calls Tryd.prog 19 #[.slice (some ⟨b, o, none⟩) n c] w fun e w' => e = joinE xs ∧ Below w.heap.size w w' := by
  by_cases h4 : 4 < n
  · have h5 := segsB_long (xs := xs) (by omega)
    go_enter Tryd.func19, Tryd.ntmps19
    go_wp2
    go_ret2
    exact ⟨(joinE_no h5).symm, Below.refl _ _⟩
  · have HN := Lib.hid hn; have HC := Lib.hid hc; have HX := Lib.hid hx
    clear hn hc hx
    go_enter Tryd.func19, Tryd.ntmps19
    go_wp2
    go_loop [11] (fun i => ∃ k : Nat, k ≤ n ∧ i = .int .i64 k ∧ Hid (∀ j, j < k → ∀ x, xs[j]? = some x → PM.segB x = true)) (fun i => n - (intOf i).toNat)
    case atStart => exact ⟨0, Nat.zero_le _, rfl, Lib.hid (fun j hj => absurd hj (Nat.not_lt_zero j))⟩
    case round =>
      obtain ⟨k, hk, rfl, HS⟩ := hrel
      by_cases hlt : k < n
      · obtain ⟨x, hxk⟩ : ∃ x, xs[k]? = some x := ⟨xs[k]'(by rw [HN.out]; exact hlt), List.getElem?_eq_getElem _⟩
        have hcell := HC.out k x hxk
        have hlen := HX.out x (List.mem_of_getElem? hxk)
        have HK := Lib.hid hxk; clear hxk
        unfold str at hcell
        have hd : Calls Tryd.prog 17 #[.string ⟨x.toArray⟩] w fun e w' => e = .returned (.int .i64 (PM.depthI x)) ∧ w = w' := by
          have := Depth_any ⟨x.toArray⟩ w (by rw [bytes_size]; exact hlen)
          rwa [bytes_data] at this
        have HD := Lib.hid hd; clear hd
        go_wp2_with (go_at_call 17; refine HD.out.mono ?_; rintro e w' ⟨rfl, rfl⟩)
        · go_ret2
          have h1 : (PM.depthI x != 1) = true := by assumption
          exact ⟨(joinE_no (segsB_bad HK.out (by simpa using h1))).symm, Below.refl _ _⟩
        · have h1 : (PM.depthI x != 1) = false := by assumption
          have h2 : PM.segB x = true := (depth_one x).1 (by simpa using h1)
          go_round
          case rel =>
            refine ⟨k + 1, by omega, by go_num, Lib.hid fun j hj y hy => ?_⟩
            by_cases hjk : j = k
            · subst hjk
              rw [HK.out] at hy
              cases hy
              exact h2
            · exact HS.out j (by omega) y hy
          case measure => simp [intOf]; omega
      · have hall : PM.segsB xs = true := by
          have hnn := HN.out
          unfold PM.segsB
          rw [decide_eq_true (by omega), Bool.true_and, List.all_eq_true]
          intro x hx
          obtain ⟨j, hj, he⟩ := List.getElem_of_mem hx
          exact HS.out j (by omega) x (by rw [← he]; exact List.getElem?_eq_getElem hj)
        have hj : Calls Tryd.prog 32 #[.slice (some ⟨b, o, none⟩) n c, .string ⟨#[47]⟩] w fun e w' => e = .returned (str (PM.jn xs)) ∧ Below w.heap.size w w' := by
          have hnn := HN.out
          have hmap : (xs.map fun x => (⟨x.toArray⟩ : ByteArray)).map (·.data.toList) = xs := by
            rw [List.map_map]
            exact (List.map_congr_left fun x _ => bytes_data x).trans (List.map_id xs)
          have hl6 : (PM.jn xs).length ≤ 7 * xs.length := lens_seg xs (fun x hx => by
            obtain ⟨j, hj, he⟩ := List.getElem_of_mem hx
            exact ((PM.segB_iff x).1 (HS.out j (by omega) x (by rw [← he]; exact List.getElem?_eq_getElem hj))).2.1)
          have := Tryd.strings_Join b o c (xs.map fun x => (⟨x.toArray⟩ : ByteArray)) ⟨#[47]⟩ w (fun j y hy => by
            rw [List.getElem?_map] at hy
            obtain ⟨x, hx, rfl⟩ := Option.map_eq_some_iff.1 hy
            exact HC.out j x hx) hb (by simp; omega) (by simp; omega) (by
              rw [hmap]
              show (PM.jn xs).length ≤ _
              omega)
          rw [hmap, List.length_map, hnn] at this
          exact this
        have HJ := Lib.hid hj; clear hj
        go_wp2_with (go_at_call 32; refine HJ.out.mono ?_; rintro e w' ⟨rfl, hb'⟩)
        go_ret2
        exact ⟨(joinE_ok hall).symm, hb'⟩

theorem Join_any (A : Option Addr) (c : Nat) (xs : List (List UInt8)) (w : World) (h : StrsAt w A c xs) (hx : ∀ x ∈ xs, x.length ≤ 9223372036854775807) (hm : xs.length ≤ 9223372036854775807) :
    Calls Tryd.prog 19 #[.slice A xs.length c] w fun e w' => e = joinE xs ∧ Below w.heap.size w w' := by
  by_cases h0 : 0 < xs.length
  · obtain ⟨b, o, rfl, hb, hc⟩ := h.2 h0
    exact Join_some b o xs.length c xs w rfl h0 h.1 hb hc hx hm
  · have : xs = [] := List.eq_nil_of_length_eq_zero (by omega)
    subst this
    exact Join_nil A c w

end Go.Proofs.YtabilfjaiopemaaDoor
