/- What is kept of clients, as the law RepliesOnce needs it: what was told New, and what is kept of it. No program is named. -/
import Derived.Test.YtbjemihcbbiiaaaRpFr
namespace Go.Proofs.Ytbjemihcbbiiaaa.RP
open WM (Msg)
set_option linter.unusedVariables false
/-- A request: who asks, and by which numbers. -/
structure Ad where
  frm : Int
  boot : Int
  seq : Int
  low : Int
instance instAd : Inhabited Ad := ⟨⟨0, 0, 0, 0⟩⟩
def dd (f : Int) : Int := (f.tmod 8 + 9).tmod 8
theorem tmod8 (f : Int) : -7 ≤ f.tmod 8 ∧ f.tmod 8 ≤ 7 := by
  have h1 := Int.lt_tmod_of_pos f (show (0 : Int) < 8 by decide)
  have h2 := Int.tmod_lt_of_pos f (show (0 : Int) < 8 by decide)
  omega
theorem dd_rng (f : Int) : 0 ≤ dd f ∧ dd f ≤ 7 := by
  have h := tmod8 f
  unfold dd
  rw [Int.tmod_eq_emod_of_nonneg (by omega)]
  omega
theorem dd_ne {f : Int} (h : 0 ≤ f ∧ f ≤ 7) : dd f ≠ f := by
  unfold dd
  rw [Int.tmod_eq_emod_of_nonneg h.1, Int.tmod_eq_emod_of_nonneg (by omega)]
  omega
def onA (x : Ad) : Msg := ⟨1, x.frm, dd x.frm, x.boot, x.seq, x.low, 3, ⟨#[]⟩, 0, 0, 5, false, 0, [], 0, 0⟩
def onR (f b q i : Int) : Msg := ⟨2, dd f, f, b, q, 0, 0, ⟨#[]⟩, 0, 9, i + 1, false, 0, [i + 1], 0, 0⟩
def same (y x : Ad) : Bool := decide (y.frm = x.frm) && (decide (y.boot = x.boot) && decide (y.seq = x.seq))
theorem same_iff {y x : Ad} : same y x = true ↔ y.frm = x.frm ∧ y.boot = x.boot ∧ y.seq = x.seq := by
  unfold same; simp
/-- The last place, of the first k, at which the list has it. -/
def hit (l : List Ad) (k : Nat) (x : Ad) : Bool := match l[k]? with | some y => same y x | none => false
def atk (l : List Ad) (x : Ad) : Nat → Int
  | 0 => -1
  | k + 1 => if hit l k x then (k : Int) else atk l x k
theorem atk_no {l : List Ad} {x : Ad} (h : ∀ k, hit l k x = false) : ∀ n, atk l x n = -1
  | 0 => rfl
  | n + 1 => by unfold atk; rw [h n]; simpa using atk_no h n
theorem atk_yes {l : List Ad} {x : Ad} : ∀ {n k : Nat}, k < n → hit l k x = true → ∃ k', k' < n ∧ atk l x n = (k' : Int) ∧ hit l k' x = true
  | n + 1, k, hk, hh => by
    unfold atk
    cases e : hit l n x with
    | true => exact ⟨n, by omega, by simp, e⟩
    | false =>
      have hk' : k < n := by
        rcases Nat.lt_succ_iff_lt_or_eq.1 hk with h | h
        · exact h
        · subst h; rw [hh] at e; cases e
      obtain ⟨k', h1, h2, h3⟩ := atk_yes hk' hh
      exact ⟨k', by omega, by simpa using h2, h3⟩
theorem onR_ok {f b q i : Int} (hf : 0 ≤ f ∧ f ≤ 7) (hb : 1 ≤ b ∧ b ≤ 1099511627776) (hq : 1 ≤ q ∧ q ≤ 1099511627776) (hi : 0 ≤ i ∧ i ≤ 1000) : WM.valid (onR f b q i) = true := by
  have h1 := node_of hf
  have h2 := node_of (dd_rng f)
  have h3 := count_of hb
  have h4 := count_of hq
  have h5 : decide (f ≠ dd f) = true := decide_eq_true (fun e => dd_ne hf e.symm)
  have h6 : SM.count (i + 1) = true := count_of (by omega)
  have hu : WM.used (onR f b q i) = onR f b q i := rfl
  unfold WM.valid
  rw [hu]
  have hm : WM.may (onR f b q i) = (WM.node (dd f) && (WM.node f && decide (f ≠ dd f)) && (SM.count b && (SM.count q && (SM.count (i + 1) && (SM.count (i + 1) && true))))) := rfl
  rw [hm, h1, h2, h3, h4, h5, h6]
  simp
structure On (s : St) (done : List Ad) : Prop where
  ok : Oks s
  src : ∀ f : Int, 0 ≤ f ∧ f ≤ 7 → ∀ (j : Nat) (a : Msg), (cl s f).ans[j]? = some a → a = WM.zero ∨ ∃ y ∈ done, y.frm = f ∧ a = onR f y.boot y.seq y.low
  sat : ∀ y ∈ done, (0 ≤ y.frm ∧ y.frm ≤ 7) ∧ 1 ≤ y.seq ∧ y.boot ≤ (cl s y.frm).boot ∧ (y.boot = (cl s y.frm).boot → (cl s y.frm).low ≤ y.seq → (pick (cl s y.frm) y.seq).seq = y.seq)
  uniq : ∀ (i j : Nat) (y z : Ad), done[i]? = some y → done[j]? = some z → same y z = true → i = j
  lowB : ∀ y ∈ done, 0 ≤ y.low ∧ y.low ≤ 1000
theorem On.zero : On st0 [] := by
  refine ⟨Oks.zero, fun f _ j a h => .inl ?_, by simp, by simp, by simp⟩
  have : cl st0 f = kp0 := by
    unfold cl st0
    cases e : (List.replicate 8 kp0)[f.toNat]? with
    | none => rfl
    | some k => exact List.eq_of_mem_replicate (List.mem_of_getElem? e)
  rw [this] at h
  exact List.eq_of_mem_replicate (List.mem_of_getElem? h)
section
variable {s : St} {done : List Ad}
theorem On.seen (h : On s done) (m : Msg) : On (seenSt s m) done := by
  cases ha : askOk m with
  | false => have e : seenSt s m = s := by unfold seenSt; rw [ha]; rfl
             rw [e]; exact h
  | true =>
    have hm := askB ha
    have hcl : cl (seenSt s m) m.frm = follow (cl s m.frm) m := cl_seen h.ok.n8 ha
    have hO := cl_ok h.ok m.frm
    have hbl := follow_bl (cl s m.frm) m
    refine ⟨h.ok.seen m, fun f hf j a hj => ?_, fun y hy => ?_, h.uniq, h.lowB⟩
    · by_cases e : m.frm = f
      · subst e
        rw [hcl] at hj
        have hj8 : j < 8 := by
          have := (List.getElem?_eq_some_iff.1 hj).1
          rwa [follow_len hO.n8] at this
        have hk : (cl s m.frm).ans[j]? = some ((cl s m.frm).ans[j]'(by rw [hO.n8]; exact hj8)) := List.getElem?_eq_getElem _
        generalize (cl s m.frm).ans[j]'(by rw [hO.n8]; exact hj8) = x at hk
        rw [follow_ans hO m j hk] at hj
        injection hj with hj
        rw [← hj]
        unfold keepIf
        split
        · exact h.src _ hf j x hk
        · exact .inl rfl
      · rw [cl_seen_ne hf e] at hj
        exact h.src f hf j a hj
    · obtain ⟨h1, h2, h3, h4⟩ := h.sat y hy
      refine ⟨h1, h2, ?_⟩
      by_cases e : m.frm = y.frm
      · rw [← e] at h3 h4 ⊢
        rw [hcl]
        have hbb : (cl s m.frm).boot ≤ (follow (cl s m.frm) m).boot := by rw [hbl.1]; unfold aftB; split <;> omega
        refine ⟨by omega, fun e1 e2 => ?_⟩
        have hb2 : (follow (cl s m.frm) m).boot = (cl s m.frm).boot := by omega
        have hl2 : (cl s m.frm).low ≤ (follow (cl s m.frm) m).low := by
          have hb3 := hb2
          rw [hbl.1] at hb3
          unfold aftB at hb3
          rw [hbl.2]
          unfold aftL
          split
          · rename_i c; rw [if_pos c] at hb3; omega
          · split <;> omega
        have h5 := h4 (by omega) (by omega)
        rw [pick_follow hO]
        have hp := pick_at hO y.seq
        rcases hO.on _ _ hp with z | ⟨hh, _⟩
        · rw [z] at h5; have : WM.zero.seq = 0 := rfl; omega
        · have hh := has_of hh
          have : has (follow (cl s m.frm) m).boot (follow (cl s m.frm) m).low (pick (cl s m.frm) y.seq) = true := by
            unfold has; simp only [Bool.and_eq_true, decide_eq_true_eq]; omega
          unfold keepIf
          rw [if_pos this]
          exact h5
      · rw [cl_seen_ne h1 e]
        exact ⟨h3, h4⟩
theorem verdict_again (h : s.length = 8) (m : Msg) : verdict (seenSt s m) m = verdict s m ∧ now (seenSt s m) m = now s m := by
  cases ha : askOk m with
  | false => have e : seenSt s m = s := by unfold seenSt; rw [ha]; rfl
             rw [e]; exact ⟨rfl, rfl⟩
  | true =>
    have hn : now (seenSt s m) m = now s m := by
      unfold now
      rw [cl_seen h ha]
      exact follow_again _ m
    refine ⟨?_, hn⟩
    unfold verdict
    rw [hn]
/-- What was told New is not among what was done. -/
theorem On.new (h : On s done) {x : Ad} (hv : verdict s (onA x) = 3) : ∀ k, hit done k x = false := by
  intro k
  have hn1 : verdict s (onA x) ≠ 1 := by rw [hv]; decide
  have ha := verdict_ask hn1
  have hh := has_of (verdict_has hn1)
  have h1 := h.seen (onA x)
  have hcl : cl (seenSt s (onA x)) x.frm = now s (onA x) := cl_seen (m := onA x) h.ok.n8 ha
  unfold hit
  cases e : done[k]? with
  | none => rfl
  | some y =>
    cases hs : same y x with
    | false => exact hs
    | true =>
      exfalso
      obtain ⟨e1, e2, e3⟩ := same_iff.1 hs
      obtain ⟨_, _, g3, g4⟩ := h1.sat y (List.mem_of_getElem? e)
      rw [e1, hcl] at g3 g4
      have g5 := g4 (by rw [e2]; exact hh.1) (by rw [e3]; exact hh.2.1)
      have hv2 : verdict s (onA x) = 2 := by
        unfold verdict
        rw [if_pos ha, if_pos (verdict_has hn1)]
        rw [e3] at g5
        exact if_pos g5
      rw [hv2] at hv
      exact absurd hv (by decide)
/-- What was told Kept is what was done. -/
theorem On.kept (h : On s done) {x : Ad} (hv : verdict s (onA x) = 2) : ∃ (k : Nat) (y : Ad), atk done x done.length = (k : Int) ∧ done[k]? = some y ∧ answer s (onA x) = onR x.frm x.boot x.seq y.low := by
  have hn1 : verdict s (onA x) ≠ 1 := by rw [hv]; decide
  have ha := verdict_ask hn1
  have hh := has_of (verdict_has hn1)
  have hB := askB ha
  have hBs : 1 ≤ x.seq := hB.s.1
  have h1 := h.seen (onA x)
  have hcl : cl (seenSt s (onA x)) x.frm = now s (onA x) := cl_seen (m := onA x) h.ok.n8 ha
  have hO : Ok (now s (onA x)) := (cl_ok h.ok _).follow hB
  have hq : (pick (now s (onA x)) x.seq).seq = x.seq := by
    unfold verdict at hv
    rw [if_pos ha, if_pos (verdict_has hn1)] at hv
    by_cases e : (pick (now s (onA x)) x.seq).seq = x.seq
    · exact e
    · rw [if_neg (by exact e)] at hv; exact absurd hv (by decide)
  have hp := pick_at hO x.seq
  have han : answer s (onA x) = pick (now s (onA x)) x.seq := by unfold answer; rw [if_pos hv]; rfl
  rcases hO.on _ _ hp with z | ⟨g, _⟩
  · rw [z] at hq; have : WM.zero.seq = 0 := rfl; omega
  have g := has_of g
  rw [← hcl] at hp
  rcases h1.src x.frm hB.f _ _ hp with z | ⟨y, hy, e1, e2⟩
  · rw [hcl] at z; rw [z] at hq; have : WM.zero.seq = 0 := rfl; omega
  rw [hcl] at e2
  have e3 : y.seq = x.seq := by rw [e2] at hq; exact hq
  have e4 : y.boot = x.boot := by
    have : (pick (now s (onA x)) x.seq).boot = y.boot := by rw [e2]; rfl
    rw [← this, g.1]
    exact hh.1.symm
  obtain ⟨i, hi, rfl⟩ := List.getElem_of_mem hy
  have hi' : done[i]? = some done[i] := List.getElem?_eq_getElem hi
  have hit1 : hit done i x = true := by unfold hit; rw [hi']; exact same_iff.2 ⟨e1, e4, e3⟩
  obtain ⟨k', hk', ha', hit2⟩ := atk_yes hi hit1
  have hk2 : done[k']? = some (done[k']'hk') := List.getElem?_eq_getElem hk'
  have hs2 : same (done[k']'hk') x = true := by unfold hit at hit2; rw [hk2] at hit2; exact hit2
  obtain ⟨f1, f2, f3⟩ := same_iff.1 hs2
  have : k' = i := h.uniq k' i _ _ hk2 hi' (same_iff.2 ⟨by rw [f1, e1], by rw [f2, e4], by rw [f3, e3]⟩)
  subst this
  exact ⟨k', _, ha', hk2, by rw [han, e2, e3, e4]⟩
theorem on_fits (x : Ad) (i : Int) (h : WM.valid (onR x.frm x.boot x.seq i) = true) : fits (onR x.frm x.boot x.seq i) (onA x) = true := by
  unfold fits
  rw [h]
  simp [onR, onA]
/-- What was told New is kept. -/
theorem On.keep (h : On s done) {x : Ad} (hv : verdict s (onA x) = 3) (i : Int) (hi : 0 ≤ i ∧ i ≤ 1000) :
    RP.kept s (onA x) (onR x.frm x.boot x.seq i) = true ∧ On (keepSt s (onA x) (onR x.frm x.boot x.seq i)) (done ++ [⟨x.frm, x.boot, x.seq, i⟩]) := by
  have hnew := h.new hv
  have hn1 : verdict s (onA x) ≠ 1 := by rw [hv]; decide
  have ha := verdict_ask hn1
  have hhs := verdict_has hn1
  have hh := has_of hhs
  have hB := askB ha
  have hBf : 0 ≤ x.frm ∧ x.frm ≤ 7 := hB.f
  have hBs : 1 ≤ x.seq := hB.s.1
  have h1 := h.seen (onA x)
  have hfit := on_fits x i (onR_ok hBf hB.b hB.s hi)
  have hk : RP.kept s (onA x) (onR x.frm x.boot x.seq i) = true := by unfold RP.kept; rw [hfit, hv]; rfl
  refine ⟨hk, ?_⟩
  have hcl1 : cl (seenSt s (onA x)) x.frm = now s (onA x) := cl_seen (m := onA x) h.ok.n8 ha
  have hst : keepSt s (onA x) (onR x.frm x.boot x.seq i) = (seenSt s (onA x)).set x.frm.toNat (stored (now s (onA x)) x.seq (onR x.frm x.boot x.seq i)) := by unfold keepSt; rw [if_pos hk]; rfl
  have hcl : cl (keepSt s (onA x) (onR x.frm x.boot x.seq i)) x.frm = stored (now s (onA x)) x.seq (onR x.frm x.boot x.seq i) := by
    rw [hst]
    exact cl_set_same h1.ok.n8 hBf _
  have hcln : ∀ f : Int, 0 ≤ f → x.frm ≠ f → cl (keepSt s (onA x) (onR x.frm x.boot x.seq i)) f = cl (seenSt s (onA x)) f := fun f hf hne => by
    rw [hst]
    exact cl_set_ne (by omega) _
  have hO : Ok (now s (onA x)) := (cl_ok h.ok _).follow hB
  have hnq : ¬ (pick (now s (onA x)) x.seq).seq = x.seq := fun e => by
    have hv2 : verdict s (onA x) = 2 := by
      unfold verdict
      rw [if_pos ha, if_pos hhs]
      exact if_pos e
    rw [hv2] at hv
    exact absurd hv (by decide)
  have hhb : x.boot = (now s (onA x)).boot := hh.1
  have hhl : (now s (onA x)).low ≤ x.seq ∧ x.seq < (now s (onA x)).low + 8 := hh.2
  generalize now s (onA x) = k at hcl hcl1 hO hnq hhb hhl
  refine ⟨h.ok.keep _ _, fun f hf j a hj => ?_, fun y hy => ?_, fun p q y z hy hz hs => ?_, fun y hy => ?_⟩
  · by_cases e : x.frm = f
    · subst e
      rw [hcl] at hj
      have hj : (k.ans.set (spot x.seq) (onR x.frm x.boot x.seq i))[j]? = some a := hj
      by_cases e2 : spot x.seq = j
      · subst e2
        rw [List.getElem?_set_self (by rw [hO.n8]; exact spot_lt _)] at hj
        cases hj
        exact .inr ⟨_, List.mem_append_right _ (List.mem_singleton.2 rfl), rfl, rfl⟩
      · rw [List.getElem?_set_ne e2] at hj
        rw [← hcl1] at hj
        rcases h1.src _ hf j a hj with z | ⟨y, hy, e3⟩
        · exact .inl z
        · exact .inr ⟨y, List.mem_append_left _ hy, e3⟩
    · rw [hcln f hf.1 e] at hj
      rcases h1.src _ hf j a hj with z | ⟨y, hy, e3⟩
      · exact .inl z
      · exact .inr ⟨y, List.mem_append_left _ hy, e3⟩
  · rcases List.mem_append.1 hy with hy | hy
    · obtain ⟨g1, g2, g3, g4⟩ := h1.sat y hy
      refine ⟨g1, g2, ?_⟩
      by_cases e : x.frm = y.frm
      · rw [← e] at g3 g4 ⊢
        rw [hcl1] at g3 g4
        rw [hcl]
        refine ⟨g3, fun e1 e2 => ?_⟩
        have g5 := g4 e1 e2
        have hp := pick_at hO y.seq
        rcases hO.on _ _ hp with z | ⟨hz, _⟩
        · rw [z] at g5; have : WM.zero.seq = 0 := rfl; omega
        have hz := has_of hz
        have e2 : k.low ≤ y.seq := e2
        have hne : spot x.seq ≠ spot y.seq := fun e' => by
          have := spot_inj e' (by omega) (by omega)
          rw [← this] at g5
          exact hnq g5
        have : pick (stored k x.seq (onR x.frm x.boot x.seq i)) y.seq = pick k y.seq := pick_of (by
          show (k.ans.set (spot x.seq) _)[spot y.seq]? = _
          rw [List.getElem?_set_ne hne]
          exact hp)
        rw [this]
        exact g5
      · rw [hcln _ g1.1 e]
        exact ⟨g3, g4⟩
    · rw [List.mem_singleton] at hy
      subst hy
      refine ⟨hBf, hBs, ?_⟩
      show x.boot ≤ (cl _ x.frm).boot ∧ (x.boot = (cl _ x.frm).boot → (cl _ x.frm).low ≤ x.seq → (pick (cl _ x.frm) x.seq).seq = x.seq)
      rw [hcl]
      refine ⟨Int.le_of_eq hhb, fun _ _ => ?_⟩
      rw [pick_of (a := onR x.frm x.boot x.seq i) (by
        show (k.ans.set (spot x.seq) _)[spot x.seq]? = _
        rw [List.getElem?_set_self (by rw [hO.n8]; exact spot_lt _)])]
      rfl
  · have hno : ∀ (n : Nat) (y : Ad), done[n]? = some y → same y x = false := fun n y hy => by
      have := hnew n
      unfold hit at this
      rw [hy] at this
      exact this
    by_cases hp : p < done.length
    · rw [List.getElem?_append_left hp] at hy
      by_cases hq : q < done.length
      · rw [List.getElem?_append_left hq] at hz
        exact h.uniq p q y z hy hz hs
      · rw [List.getElem?_append_right (by omega)] at hz
        have : q - done.length = 0 := by
          rcases Nat.eq_zero_or_pos (q - done.length) with e | e
          · exact e
          · rw [List.getElem?_eq_none (by simp; omega)] at hz; cases hz
        rw [this] at hz
        cases hz
        have h2 := hno p y hy
        obtain ⟨f1, f2, f3⟩ := same_iff.1 hs
        rw [(same_iff (y := y) (x := x)).2 ⟨f1, f2, f3⟩] at h2
        cases h2
    · rw [List.getElem?_append_right (by omega)] at hy
      have e1 : p - done.length = 0 := by
        rcases Nat.eq_zero_or_pos (p - done.length) with e | e
        · exact e
        · rw [List.getElem?_eq_none (by simp; omega)] at hy; cases hy
      rw [e1] at hy
      cases hy
      by_cases hq : q < done.length
      · rw [List.getElem?_append_left hq] at hz
        have h2 := hno q z hz
        obtain ⟨f1, f2, f3⟩ := same_iff.1 hs
        rw [(same_iff (y := z) (x := x)).2 ⟨f1.symm, f2.symm, f3.symm⟩] at h2
        cases h2
      · rw [List.getElem?_append_right (by omega)] at hz
        have e2 : q - done.length = 0 := by
          rcases Nat.eq_zero_or_pos (q - done.length) with e | e
          · exact e
          · rw [List.getElem?_eq_none (by simp; omega)] at hz; cases hz
        omega
  · rcases List.mem_append.1 hy with hy | hy
    · exact h.lowB y hy
    · rw [List.mem_singleton] at hy
      subst hy
      exact hi
theorem len_le {s : St} (h : Oks s) (f : Int) : len s f ≤ 8 := by
  unfold len
  split
  · unfold lenK
    have h1 := List.countP_le_length (p := fun a : Msg => decide (a.kind = 2)) (l := (cl s f).ans)
    rw [(cl_ok h f).n8] at h1
    exact h1
  · omega
end
end Go.Proofs.Ytbjemihcbbiiaaa.RP
