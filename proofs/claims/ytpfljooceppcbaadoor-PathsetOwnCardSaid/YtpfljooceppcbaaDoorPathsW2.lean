/- The calls of the package that take paths apart, put them together, and hold two against each other: what each answers, and that old memory stands. -/
import Derived.Test.YtpfljooceppcbaaDoorPathsW1
import Derived.Test.YtpfljooceppcbaaDoorPathsSplitMath
import Derived.Test.YtpfljooceppcbaaDoorShelf
import Derived.RegionTactic
namespace Go.Proofs.YtpfljooceppcbaaDoor
open Go.RowKit
open PM (str)

/-- The library's variable that tells how long a text is sought at once holds some number. -/
def HasMax (w : World) : Prop := 0 < w.heap.size ∧ ∃ m, w.cell? ⟨0, 0, none⟩ = some (.int .i64 m)
theorem HasMax.below {w w' : World} (h : HasMax w) (hb : Below w.heap.size w w') : HasMax w' :=
  ⟨Nat.lt_of_lt_of_le h.1 hb.size, h.2.elim fun m hm => ⟨m, (hb.cell (p := ⟨0, 0, none⟩) h.1).trans hm⟩⟩

/-- A slice of texts that reads as a list (nil let in). -/
def StrsAt (w : World) (A : Option Addr) (c : Nat) (xs : List (List UInt8)) : Prop :=
  xs.length ≤ c ∧ (0 < xs.length → ∃ b o, A = some ⟨b, o, none⟩ ∧ b < w.heap.size ∧ ∀ j x, xs[j]? = some x → w.cell? ⟨b, o + j, none⟩ = some (str x))
theorem StrsAt.nil (w : World) (A : Option Addr) (c : Nat) : StrsAt w A c [] := ⟨Nat.zero_le _, fun h => absurd h (Nat.lt_irrefl 0)⟩
theorem StrsAt.below {w w' : World} {A : Option Addr} {c : Nat} {xs : List (List UInt8)} (h : StrsAt w A c xs) (hb : Below w.heap.size w w') : StrsAt w' A c xs :=
  ⟨h.1, fun h0 => by
    obtain ⟨b, o, e, hlt, hc⟩ := h.2 h0
    exact ⟨b, o, e, Nat.lt_of_lt_of_le hlt hb.size, fun j x hx => (hb.cell (p := ⟨b, o + j, none⟩) hlt).trans (hc j x hx)⟩⟩
theorem StrsAt.new (w : World) (xs : List (List UInt8)) (c : Nat) (hc : xs.length ≤ c) : StrsAt (w.alloc (.cells (xs.map str).toArray 9)) (some ⟨w.heap.size, 0, none⟩) c xs :=
  ⟨hc, fun _ => ⟨w.heap.size, 0, rfl, by simp, fun j x hx => by
    rw [Nat.zero_add, World.cell?_alloc_new]
    simp [hx]⟩⟩

section
variable (s : ByteArray) (w : World)
set_option maxHeartbeats 400000 in
theorem Split_no (hs : s.size ≤ 9223372036854775807) (h : PM.okB s.data.toList = false) :
    Calls Tryd.prog 18 #[.string s] w fun e w' => e = .returned (.tuple #[.slice none 0 0, .int .i64 10]) ∧ w = w' := by
  go_enter Tryd.func18, Tryd.ntmps18
  go_wp2_with (go_at_call 36; refine (Valid_any _ _ hs).mono ?_; rintro e w' ⟨rfl, rfl⟩)
  go_ret2
  exact ⟨rfl, rfl⟩
set_option maxHeartbeats 400000 in
theorem Split_nil (h0 : s.toList = []) (h : PM.okB s.data.toList = true) :
    Calls Tryd.prog 18 #[.string s] w fun e w' => e = .returned (.tuple #[.slice none 0 0, .int .i64 0]) ∧ w = w' := by
  have hs : s.size ≤ 9223372036854775807 := by
    have h1 := len_toList s
    rw [← Lib.toList_data, h0] at h1
    simp at h1; omega
  go_enter Tryd.func18, Tryd.ntmps18
  go_wp2_with (go_at_call 36; refine (Valid_any _ _ hs).mono ?_; rintro e w' ⟨rfl, rfl⟩)
  go_ret2
  exact ⟨rfl, rfl⟩
theorem ok_size (h : PM.okB s.data.toList = true) : s.size ≤ 27 := by
  have := PM.okB_len _ h
  rwa [len_toList] at this
set_option maxHeartbeats 400000 in
theorem Split_some (hw : HasMax w) (h0 : s.toList.isEmpty = false) (h : PM.okB s.data.toList = true) :
    Calls Tryd.prog 18 #[.string s] w fun e w' =>
      e = .returned (.tuple #[.slice (some ⟨w.heap.size, 0, none⟩) (PM.pcs [] s.data.toList).length (PM.pcs [] s.data.toList).length, .int .i64 0]) ∧
      w' = w.alloc (.cells ((PM.pcs [] s.data.toList).map str).toArray 9) := by
  have hs := ok_size s h
  obtain ⟨_, m, hm⟩ := hw
  have hc : Calls Tryd.prog 37 #[.string s, .string ⟨#[47]⟩] w fun e w' =>
      e = .returned (.slice (some ⟨w.heap.size, 0, none⟩) (PM.pcs [] s.data.toList).length (PM.pcs [] s.data.toList).length) ∧
      w' = w.alloc (.cells ((PM.pcs [] s.data.toList).map str).toArray 9) := by
    refine (Tryd.strings_Split s ⟨#[47]⟩ m w (by omega) hm (Nat.le_refl 1)).mono ?_
    rintro e w' ⟨he, hw⟩
    rw [PM.splitB_vals] at hw
    rw [PM.countB_one] at he
    exact ⟨he, hw⟩
  generalize hn : (PM.pcs [] s.data.toList).length = n at hc ⊢
  generalize hC : ((PM.pcs [] s.data.toList).map str).toArray = C at hc ⊢
  clear hn hC
  have HC := Lib.hid hc; clear hc hm
  go_enter Tryd.func18, Tryd.ntmps18
  go_wp2_with (first
    | (go_at_call 36; refine (Valid_any _ _ (by omega)).mono ?_; rintro e w' ⟨rfl, rfl⟩)
    | (go_at_call 37; refine HC.out.mono ?_; rintro e w' ⟨rfl, rfl⟩))
  go_ret2
  exact ⟨rfl, rfl⟩
end

/-- Split at a path: a slice that reads as its segments. -/
theorem Split_ok (s : ByteArray) (w : World) (hw : HasMax w) (h : PM.okB s.data.toList = true) :
    Calls Tryd.prog 18 #[.string s] w fun e w' => ∃ A c, e = .returned (.tuple #[.slice A (PM.segsOf s.data.toList).length c, .int .i64 0]) ∧ StrsAt w' A c (PM.segsOf s.data.toList) ∧ Below w.heap.size w w' ∧ (A = none → c = 0) ∧ c ≤ 4 := by
  by_cases h0 : s.toList = []
  · refine (Split_nil s w h0 h).mono ?_
    rintro e w' ⟨rfl, rfl⟩
    have : PM.segsOf s.data.toList = [] := by rw [PM.segsOf_nil_iff, ← Lib.toList_data, h0]
    rw [this]
    exact ⟨none, 0, rfl, StrsAt.nil _ _ _, Below.refl _ _, fun _ => rfl, by omega⟩
  · refine (Split_some s w hw (by simpa using h0) h).mono ?_
    rintro e w' ⟨rfl, rfl⟩
    have : PM.segsOf s.data.toList = PM.pcs [] s.data.toList := by
      unfold PM.segsOf
      rw [if_neg (by rw [← Lib.toList_data]; exact h0)]
    have hl : (PM.segsOf s.data.toList).length ≤ 4 := by
      have := h
      rw [PM.okB_segs] at this
      simp only [PM.segsB, Bool.and_eq_true, decide_eq_true_eq] at this
      exact this.1
    rw [this] at hl ⊢
    exact ⟨_, _, rfl, StrsAt.new _ _ _ (Nat.le_refl _), (Below.refl _ _).alloc (Nat.le_refl _) _, (fun h => by cases h), hl⟩

section
variable {p q : ByteArray}
theorem cov_bad (h : (!PM.okB q.data.toList) = true) : false = PM.cov p.data.toList q.data.toList := by
  have : PM.okB q.data.toList = false := by simpa using h
  unfold PM.cov
  rw [this]; simp
theorem cov_bad1 (h : (!PM.okB p.data.toList) = true) : false = PM.cov p.data.toList q.data.toList := by
  have : PM.okB p.data.toList = false := by simpa using h
  unfold PM.cov
  rw [this]; simp
theorem cov_nil (h1 : PM.okB p.data.toList = true) (h2 : (!PM.okB q.data.toList) = false) (h : p.toList = []) : true = PM.cov p.data.toList q.data.toList := by
  refine ((PM.cov_iff _ _).2 ⟨h1, by simpa using h2, (PM.prefix_iff _ _).2 (Or.inl ?_)⟩).symm
  rw [← Lib.toList_data]; exact h
theorem cov_same (h1 : PM.okB p.data.toList = true) (h2 : (!PM.okB q.data.toList) = false) (h : p.toList = q.toList) : true = PM.cov p.data.toList q.data.toList := by
  refine ((PM.cov_iff _ _).2 ⟨h1, by simpa using h2, (PM.prefix_iff _ _).2 (Or.inr (Or.inl ?_))⟩).symm
  rw [← Lib.toList_data, ← Lib.toList_data]; exact h
theorem cov_pre (h1 : PM.okB p.data.toList = true) (h2 : (!PM.okB q.data.toList) = false) (h3 : ¬ p.toList = []) (h4 : ¬ p.toList = q.toList) :
    Lib.hasPrefix q.data.toList (p.data.toList ++ [47]) = PM.cov p.data.toList q.data.toList := by
  rw [Lib.toList_data] at h3 h4
  rw [Lib.toList_data] at h4
  rw [Bool.eq_iff_iff, PM.cov_iff, PM.prefix_iff]
  unfold Lib.hasPrefix
  rw [List.isPrefixOf_iff_prefix]
  exact ⟨fun h => ⟨h1, by simpa using h2, Or.inr (Or.inr h)⟩, fun h => h.2.2.resolve_left h3 |>.resolve_left h4⟩
end

def MeetPost (p q : ByteArray) (e : Ending) : Prop :=
  e = if PM.cov p.data.toList q.data.toList = true then .returned (.tuple #[.string q, .bool true]) else if PM.cov q.data.toList p.data.toList = true then .returned (.tuple #[.string p, .bool true]) else .returned (.tuple #[.string ⟨#[]⟩, .bool false])
set_option maxHeartbeats 400000 in
theorem Compare_any (p q : ByteArray) (w : World) :
    Calls Tryd.prog 26 #[.string p, .string q] w fun e w' => e = .returned (.int .i64 (PM.cmp p.data.toList q.data.toList)) ∧ w = w' := by
  go_enter Tryd.func26, Tryd.ntmps26
  go_wp2_with (go_at_call 43; refine (Tryd.strings_Compare _ _ _).mono ?_; rintro e w' ⟨rfl, rfl⟩)
  go_ret
  exact ⟨rfl, rfl⟩

theorem depth_one (x : List UInt8) : PM.depthI x = 1 ↔ PM.segB x = true := by
  constructor
  · intro h
    unfold PM.depthI at h
    by_cases ho : PM.okB x = true
    · rw [if_pos ho] at h
      have h1 : (PM.segsOf x).length = 1 := by omega
      have h2 := PM.jn_segsOf x
      rw [PM.okB_segs] at ho
      match hs : PM.segsOf x, h1 with
      | [y], _ =>
        rw [hs] at h2 ho
        have : y = x := by rw [← h2]; exact (Lib.join_one y [47]).symm
        subst this
        simpa [PM.segsB] using ho
    · rw [if_neg ho] at h; omega
  · intro h
    have h1 : PM.segsB [x] = true := by simp [PM.segsB, h]
    have h2 := PM.segsOf_jn [x] h1
    have h3 := PM.okB_jn [x] h1
    have h4 : PM.jn [x] = x := Lib.join_one x [47]
    rw [h4] at h2 h3
    rw [PM.depth_ok h3, h2]; rfl

def joinE (xs : List (List UInt8)) : Ending := if PM.segsB xs = true then .returned (.tuple #[str (PM.jn xs), .int .i64 0]) else .returned (.tuple #[.string ⟨#[]⟩, .int .i64 10])
theorem joinE_ok {xs : List (List UInt8)} (h : PM.segsB xs = true) : joinE xs = .returned (.tuple #[str (PM.jn xs), .int .i64 0]) := if_pos h
theorem joinE_no {xs : List (List UInt8)} (h : PM.segsB xs = false) : joinE xs = .returned (.tuple #[.string ⟨#[]⟩, .int .i64 10]) := if_neg (by rw [h]; simp)
theorem bytes_data (x : List UInt8) : (⟨x.toArray⟩ : ByteArray).data.toList = x := by simp
theorem bytes_size (x : List UInt8) : (⟨x.toArray⟩ : ByteArray).size = x.length := by rw [← len_toList, bytes_data]

theorem segsB_long {xs : List (List UInt8)} (h : 4 < xs.length) : PM.segsB xs = false := by
  unfold PM.segsB
  rw [decide_eq_false (by omega)]; rfl
theorem segsB_bad {xs : List (List UInt8)} {k : Nat} {x : List UInt8} (hx : xs[k]? = some x) (h : ¬ PM.depthI x = 1) : PM.segsB xs = false := by
  have h1 : PM.segB x = false := by
    rw [Bool.eq_false_iff]
    exact fun e => h ((depth_one x).2 e)
  unfold PM.segsB
  have : xs.all PM.segB = false := by
    rw [Bool.eq_false_iff]
    intro e
    have := List.all_eq_true.1 e x (List.mem_of_getElem? hx)
    rw [h1] at this; cases this
  rw [this]; simp

theorem lens_seg : ∀ (xs : List (List UInt8)), (∀ x ∈ xs, x.length ≤ 6) → (PM.jn xs).length ≤ 7 * xs.length := by
  intro xs
  induction xs with
  | nil => intro _; simp [Lib.join_nil]
  | cons x r ih =>
    intro h
    have h1 := h x (by simp)
    have h2 := ih (fun y hy => h y (List.mem_cons_of_mem _ hy))
    cases r with
    | nil => have : PM.jn [x] = x := Lib.join_one x [47]; rw [this]; simp; omega
    | cons y r2 => rw [PM.jn_cons2]; simp only [List.length_append, List.length_cons] at h2 ⊢; omega

end Go.Proofs.YtpfljooceppcbaaDoor
