/- Calls that are open, as plain data: what the document says of each call on them. No program is named. -/
import Derived.Test.YtnacchldecjcaaaWireA
namespace Go.Proofs.Ytnacchldecjcaaa.CA
open WM (Msg)
set_option linter.unusedVariables false
structure Cl where
  seq : Int
  dst : Int
  verb : Int
  path : ByteArray
  mode : Int
  term : Int
  id : Int
  fresh : Bool
  sent : Int
  tries : Int
  deriving DecidableEq
def zero : Cl := ⟨0, 0, 0, ⟨#[]⟩, 0, 0, 0, false, 0, 0⟩
instance instCl : Inhabited Cl := ⟨zero⟩
theorem Cl.eq_of {a b : Cl} (h0 : a.seq = b.seq) (h1 : a.dst = b.dst) (h2 : a.verb = b.verb) (h3 : a.path = b.path) (h4 : a.mode = b.mode) (h5 : a.term = b.term) (h6 : a.id = b.id) (h7 : a.fresh = b.fresh) (h8 : a.sent = b.sent) (h9 : a.tries = b.tries) : a = b := by
  cases a; cases b; simp at h0 h1 h2 h3 h4 h5 h6 h7 h8 h9; simp [h0, h1, h2, h3, h4, h5, h6, h7, h8, h9]
/-- A call's Ask. -/
def askM (x : Cl) (frm boot seq low : Int) : Msg := ⟨1, frm, x.dst, boot, seq, low, x.verb, x.path, x.mode, x.term, x.id, x.fresh, 0, [], 0, 0⟩
def mayBe (x : Cl) : Bool := WM.valid (askM x (if x.dst = 0 then 1 else 0) 1 1 1)
/-- The boot, the number that comes next, the open ones. -/
structure St where
  boot : Int
  next : Int
  on : List Cl
def low (s : St) : Int := match s.on with
  | [] => s.next
  | x :: _ => x.seq
def new (boot : Int) : St := ⟨boot, 1, []⟩
def put (s : St) (now : Int) (x : Cl) : St := ⟨s.boot, s.next + 1, s.on ++ [{ x with seq := s.next, sent := now, tries := 1 }]⟩
/-- Why a call can't be opened, or 0. -/
def fault (s : St) (now : Int) (x : Cl) : Int :=
  if now < 0 ∨ 1152921504606846976 < now then 2 else if mayBe x = false then 22 else if 1099511627776 < s.next then 66
  else if 4 ≤ s.on.length ∨ low s + 8 ≤ s.next then 52 else 0
def start (s : St) (now : Int) (x : Cl) : St := if fault s now x = 0 then put s now x else s
def given (s : St) (now : Int) (x : Cl) : Int := if fault s now x = 0 then s.next else 0
def has (s : St) (q : Int) : Bool := s.on.any (fun x => decide (x.seq = q))
def get (s : St) (q : Int) : Cl := (s.on.find? (fun x => decide (x.seq = q))).getD zero
def more (x : Cl) : Cl := { x with tries := IntKind.i64.wrap (x.tries + 1) }
def again (s : St) (q : Int) : St := ⟨s.boot, s.next, s.on.map (fun x => if x.seq = q then more x else x)⟩
def close (s : St) (q : Int) : St := ⟨s.boot, s.next, s.on.filter (fun x => decide (x.seq ≠ q))⟩
/-- May it be asked by this node? -/
def asks (s : St) (frm q : Int) : Bool := has s q && (WM.node frm && decide (frm ≠ (get s q).dst))
def ask (s : St) (frm q : Int) : Msg := if asks s frm q = true then askM (get s q) frm s.boot q (low s) else WM.zero

theorem has_iff {s : St} {q : Int} : has s q = true ↔ ∃ x ∈ s.on, x.seq = q := by unfold has; simp
theorem has_no {s : St} {q : Int} (h : has s q = false) : ∀ x ∈ s.on, x.seq ≠ q := by
  intro x hx e
  have : has s q = true := has_iff.2 ⟨x, hx, e⟩
  rw [h] at this
  cases this
theorem get_no {s : St} {q : Int} (h : has s q = false) : get s q = zero := by
  unfold get
  rw [List.find?_eq_none.2 fun x hx => by simpa using has_no h x hx]
  rfl
theorem get_mem {s : St} {q : Int} (h : has s q = true) : get s q ∈ s.on ∧ (get s q).seq = q := by
  obtain ⟨x, hx, e⟩ := has_iff.1 h
  unfold get
  cases hf : s.on.find? (fun x => decide (x.seq = q)) with
  | none => exact absurd e (by simpa using List.find?_eq_none.1 hf x hx)
  | some y => exact ⟨List.mem_of_find?_eq_some hf, by simpa using List.find?_some hf⟩
/-- What holds of them behind any calls. -/
structure Inv (s : St) : Prop where
  boot : 1 ≤ s.boot ∧ s.boot ≤ 1099511627776
  next : 1 ≤ s.next ∧ s.next ≤ 1099511627777
  len : s.on.length ≤ 4
  rise : s.on.Pairwise (fun a b => a.seq < b.seq)
  lo : ∀ x ∈ s.on, 1 ≤ x.seq ∧ x.seq < s.next
  win : s.next ≤ low s + 8
  may : ∀ x ∈ s.on, mayBe x = true
theorem Inv.low_le {s : St} (h : Inv s) : ∀ x ∈ s.on, low s ≤ x.seq := by
  intro x hx
  have hr := h.rise
  unfold low
  cases ho : s.on with
  | nil => rw [ho] at hx; cases hx
  | cons a r =>
    rw [ho] at hx hr
    rcases List.mem_cons.1 hx with rfl | hx
    · exact Int.le_refl _
    · exact Int.le_of_lt ((List.pairwise_cons.1 hr).1 x hx)
theorem Inv.low_rng {s : St} (h : Inv s) : 1 ≤ low s ∧ low s ≤ s.next := by
  have h1 := h.lo
  have h2 := h.next
  unfold low
  cases ho : s.on with
  | nil => exact ⟨by simpa using h2.1, by simp⟩
  | cons a r =>
    have := h1 a (by rw [ho]; simp)
    simp only
    omega
theorem Inv.ids {s : St} (h : Inv s) : (s.on.map (·.seq)).Nodup := by
  rw [List.nodup_iff_pairwise_ne, List.pairwise_map]
  exact h.rise.imp fun hab e => by omega
theorem Inv.new {boot : Int} (h : 1 ≤ boot ∧ boot ≤ 1099511627776) : Inv (new boot) :=
  ⟨h, by unfold CA.new; simp, by simp [CA.new], by simp [CA.new], by simp [CA.new], by simp [CA.new, low], by simp [CA.new]⟩
theorem mayBe_put (x : Cl) (q n t : Int) : mayBe { x with seq := q, sent := n, tries := t } = mayBe x := rfl
theorem low_put {s : St} {now : Int} {x : Cl} : low (put s now x) = low s := by
  unfold put low
  cases s.on <;> rfl
theorem Inv.put {s : St} (h : Inv s) {now : Int} {x : Cl} (h0 : fault s now x = 0) : Inv (put s now x) := by
  unfold fault at h0
  split at h0
  · omega
  split at h0
  · omega
  rename_i hm
  split at h0
  · omega
  rename_i hn
  split at h0
  · omega
  rename_i hb
  have h1 := h.next
  refine ⟨h.boot, ?_, ?_, ?_, ?_, ?_, ?_⟩
  · show 1 ≤ s.next + 1 ∧ s.next + 1 ≤ 1099511627777
    omega
  · show (s.on ++ [_]).length ≤ 4
    rw [List.length_append, List.length_singleton]
    omega
  · show (s.on ++ [_]).Pairwise _
    rw [List.pairwise_append]
    refine ⟨h.rise, by simp, fun a ha b hb => ?_⟩
    rw [List.mem_singleton] at hb
    subst hb
    exact (h.lo a ha).2
  · intro y hy
    rcases List.mem_append.1 hy with hy | hy
    · have := h.lo y hy
      show 1 ≤ y.seq ∧ y.seq < s.next + 1
      omega
    · rw [List.mem_singleton] at hy
      subst hy
      show 1 ≤ s.next ∧ s.next < s.next + 1
      omega
  · rw [low_put]
    show s.next + 1 ≤ low s + 8
    omega
  · intro y hy
    rcases List.mem_append.1 hy with hy | hy
    · exact h.may y hy
    · rw [List.mem_singleton] at hy
      subst hy
      rw [mayBe_put]
      simpa using hm
theorem Inv.start {s : St} (h : Inv s) (now : Int) (x : Cl) : Inv (start s now x) := by
  unfold CA.start
  split
  · rename_i h0; exact h.put h0
  · exact h
theorem low_of {s t : St} (hn : t.next = s.next) (hs : t.on.map (·.seq) = s.on.map (·.seq)) : low t = low s := by
  unfold low
  cases h1 : s.on with
  | nil =>
    rw [h1] at hs
    have h3 : t.on = [] := by simpa using hs
    rw [h3]
    exact hn
  | cons a r =>
    rw [h1] at hs
    cases h2 : t.on with
    | nil => rw [h2] at hs; simp at hs
    | cons b q =>
      rw [h2] at hs
      simp only [List.map_cons, List.cons.injEq] at hs
      exact hs.1
theorem again_seqs (s : St) (q : Int) : (again s q).on.map (·.seq) = s.on.map (·.seq) := by
  unfold again
  simp only [List.map_map]
  apply List.map_congr_left
  intro x _
  simp only [Function.comp]
  split <;> rfl
theorem low_again (s : St) (q : Int) : low (again s q) = low s := low_of rfl (again_seqs s q)
theorem Inv.again {s : St} (h : Inv s) (q : Int) : Inv (again s q) := by
  refine ⟨h.boot, h.next, by simpa [CA.again] using h.len, ?_, ?_, ?_, ?_⟩
  · have h1 : (s.on.map (·.seq)).Pairwise (· < ·) := List.pairwise_map.2 h.rise
    rw [← again_seqs s q] at h1
    exact List.pairwise_map.1 h1
  · intro x hx
    obtain ⟨y, hy, rfl⟩ := List.mem_map.1 (show x ∈ s.on.map (fun x => if x.seq = q then more x else x) from hx)
    have := h.lo y hy
    show 1 ≤ Cl.seq _ ∧ Cl.seq _ < s.next
    split <;> exact this
  · rw [low_again]; exact h.win
  · intro x hx
    obtain ⟨y, hy, rfl⟩ := List.mem_map.1 (show x ∈ s.on.map (fun x => if x.seq = q then more x else x) from hx)
    have := h.may y hy
    split <;> exact this
theorem low_close {s : St} (h : Inv s) (q : Int) : low s ≤ low (close s q) := by
  have hr := h.low_rng
  have h2 := h.low_le
  show low s ≤ match (s.on.filter (fun x => decide (x.seq ≠ q))) with | [] => s.next | x :: _ => x.seq
  split
  · exact hr.2
  · rename_i x r e
    exact h2 x ((List.mem_filter.1 (by rw [e]; simp : x ∈ s.on.filter _)).1)
theorem Inv.close {s : St} (h : Inv s) (q : Int) : Inv (close s q) := by
  refine ⟨h.boot, h.next, Nat.le_trans (List.length_filter_le _ _) h.len, h.rise.sublist List.filter_sublist, fun x hx => h.lo x (List.mem_filter.1 hx).1, ?_, fun x hx => h.may x (List.mem_filter.1 hx).1⟩
  have := low_close h q
  have := h.win
  show s.next ≤ _
  omega
theorem again_no {s : St} {q : Int} (h : has s q = false) : again s q = s := by
  unfold again
  have : s.on.map (fun x => if x.seq = q then more x else x) = s.on := by
    conv => rhs; rw [← List.map_id s.on]
    apply List.map_congr_left
    intro x hx
    rw [if_neg (has_no h x hx)]
    rfl
  rw [this]
theorem close_no {s : St} {q : Int} (h : has s q = false) : close s q = s := by
  unfold close
  rw [List.filter_eq_self.2 fun x hx => by simpa using has_no h x hx]
/-- Which Asks may be. -/
theorem valid_ask {x : Cl} (h : mayBe x = true) {frm boot seq low : Int} (hb : SM.count boot = true) (hs : SM.count seq = true) (hl : 1 ≤ low ∧ low ≤ seq) :
    WM.valid (askM x frm boot seq low) = (WM.node frm && decide (frm ≠ x.dst)) := by
  unfold mayBe WM.valid WM.may at h
  simp only [Bool.and_eq_true, decide_eq_true_eq] at h
  obtain ⟨⟨hg, hp⟩, hu⟩ := h
  have hd : WM.node x.dst = true := by
    unfold WM.mayGo at hg
    simp only [askM, Bool.and_eq_true] at hg
    have := hg.2
    simp at this
    exact this.1
  have hw : WM.want (askM x frm boot seq low) = true := by
    unfold WM.mayPart WM.mayAsk at hp
    rw [if_pos (show (askM x _ 1 1 1).kind = 1 from rfl)] at hp
    simp only [Bool.and_eq_true] at hp
    exact hp.2.2.2.2
  have hu2 : WM.used (askM x frm boot seq low) = askM x frm boot seq low := by
    unfold WM.used askM at hu ⊢
    simp only [if_true, WM.zero] at hu ⊢
    by_cases v1 : x.verb = 1
    · have v2 : ¬ x.verb = 2 := by omega
      have v3 : ¬ x.verb = 3 := by omega
      simp only [if_pos v1, if_neg v2, if_neg v3, WM.Msg.mk.injEq, and_true, true_and] at hu ⊢
      exact hu
    · by_cases v2 : x.verb = 2
      · have v3 : ¬ x.verb = 3 := by omega
        simp only [if_neg v1, if_pos v2, if_neg v3, WM.Msg.mk.injEq, and_true, true_and] at hu ⊢
        exact hu
      · by_cases v3 : x.verb = 3
        · simp only [if_neg v1, if_neg v2, if_pos v3, WM.Msg.mk.injEq, and_true, true_and] at hu ⊢
          exact hu
        · simp only [if_neg v1, if_neg v2, if_neg v3, WM.Msg.mk.injEq, and_true, true_and] at hu ⊢
          exact hu
  unfold WM.valid WM.may
  rw [decide_eq_true hu2, Bool.and_true]
  have hp2 : WM.mayPart (askM x frm boot seq low) = true := by
    unfold WM.mayPart WM.mayAsk
    rw [if_pos (show (askM x frm boot seq low).kind = 1 from rfl)]
    simp only [Bool.and_eq_true, decide_eq_true_eq]
    exact ⟨hb, hs, hl.1, hl.2, hw⟩
  rw [hp2, Bool.and_true]
  unfold WM.mayGo
  rw [if_neg (show ¬ (askM x frm boot seq low).kind = 5 by simp [askM])]
  show (WM.node frm && (WM.node x.dst && decide (x.dst ≠ frm))) = _
  rw [hd, Bool.true_and]
  congr 1
  simp only [ne_eq, decide_not]
  congr 1
  exact decide_eq_decide.2 ⟨Eq.symm, Eq.symm⟩
theorem count_of {n : Int} (h : 1 ≤ n ∧ n ≤ 1099511627776) : SM.count n = true := by unfold SM.count; simp; omega
end Go.Proofs.Ytnacchldecjcaaa.CA
